/- Contracts of layer 7: Check, windows. -/
import Derived.Test.YtgeklbpkmfeheaaDoorSmeA
namespace Go.Proofs.YtgeklbpkmfeheaaDoor
open Go.RowKit Fx Cv Lp Sm

theorem chgof_any (x y : Int) (w : World) (hx : -8000000000 ≤ x ∧ x ≤ 8000000000) (hy : -1000 ≤ y ∧ y ≤ 1000) :
    Calls Tryd.prog 29 #[.agg #[.int .i64 x, .int .i64 y]] w fun e w' => e = .returned (.int .i64 ((x + y) * 1000000000)) ∧ Below w.heap.size w w' := by
  obtain ⟨x0, x1⟩ := hx
  obtain ⟨y0, y1⟩ := hy
  go_enter Tryd.func29, Tryd.ntmps29
  go_wp2
  go_ret
  exact ⟨rfl, (Below.refl _ _).alloc (Nat.le_refl _) _⟩

set_option maxRecDepth 100000 in
theorem schk_bad (B E : Int) (a : Option Addr) (n c : Nat) (f : Nat → Int × Int) (K W : Int) (w : World) (ht : MT w) (hr : LRd w w.heap.size a n f) (hz : ¬ chkL B E f n = 0) :
    Calls Tryd.prog 4 #[.agg #[.int .i64 B, .int .i64 E, .slice a n c], .agg #[.int .i64 K, .int .i64 W]] w fun e w' => e = .returned (.int .i64 (chkS B E f n K W)) ∧ Below w.heap.size w w' := by
  obtain ⟨y, hy⟩ : ∃ y, chkL B E f n = y := ⟨_, rfl⟩
  have HZ := Lib.hid hy
  have HC : Hid (chkS B E f n K W = y) := Lib.hid (by unfold chkS; rw [if_pos hz, hy])
  rw [hy] at hz
  have g1 : decide (y = 0) = false := decide_eq_false hz
  have g2 : (y == 0) = false := by simpa using hz
  have g3 : (y != 0) = true := by simp [bne, g2]
  clear hy hz
  have S0' := Lib.hid (bs_new w B E a n c f K W hr)
  have HT := Lib.hid ht
  obtain ⟨v0, hv0⟩ : ∃ v, (w.alloc (.cells #[.int .i64 B, .int .i64 E, .slice a n c] 24)).alloc (.cells #[.int .i64 K, .int .i64 W] 26) = v := ⟨_, rfl⟩
  rw [hv0] at S0'
  have S0 := S0'
  clear S0' hr ht
  obtain ⟨t0, t1, t2, t3, t4⟩ := S0.out.cells
  go_enter Tryd.func4, Tryd.ntmps4
  go_wp2_with fail
  clear hv0
  refine (lchk_any B E a n c f v0 (HT.out.below S0.out.bel) S0.out.lrd).mono ?_
  rintro e v1 ⟨rfl, hbl⟩
  rw [HZ.out]
  have S1 := Lib.hid (S0.out.below hbl)
  clear hbl S0 t0 t1 t2 t3 t4
  obtain ⟨t0, t1, t2, t3, t4⟩ := S1.out.cells
  go_wp2_with fail
  go_ret
  exact ⟨ret1 HC.out.symm, S1.out.bel⟩

set_option maxRecDepth 100000 in
theorem schk_kind (B E : Int) (a : Option Addr) (n c : Nat) (f : Nat → Int × Int) (K W : Int) (w : World) (ht : MT w) (hr : LRd w w.heap.size a n f) (hz : chkL B E f n = 0) (hk : K < 1 ∨ 4 < K) :
    Calls Tryd.prog 4 #[.agg #[.int .i64 B, .int .i64 E, .slice a n c], .agg #[.int .i64 K, .int .i64 W]] w fun e w' => e = .returned (.int .i64 (chkS B E f n K W)) ∧ Below w.heap.size w w' := by
  have HZ := Lib.hid hz
  have HP : Hid (chkS B E f n K W = polE K W) := Lib.hid (by unfold chkS; rw [if_neg (fun h => h hz)])
  clear hz
  have HC : Hid (chkS B E f n K W = 8) := Lib.hid (by rw [HP.out]; exact if_pos hk)
  have d1 : (K == 1) = false := by simp; omega
  have d2 : (K == 2) = false := by simp; omega
  have d3 : (K == 3) = false := by simp; omega
  have d4 : (K == 4) = false := by simp; omega
  have S0' := Lib.hid (bs_new w B E a n c f K W hr)
  have HT := Lib.hid ht
  obtain ⟨v0, hv0⟩ : ∃ v, (w.alloc (.cells #[.int .i64 B, .int .i64 E, .slice a n c] 24)).alloc (.cells #[.int .i64 K, .int .i64 W] 26) = v := ⟨_, rfl⟩
  rw [hv0] at S0'
  have S0 := S0'
  clear S0' hr ht
  obtain ⟨t0, t1, t2, t3, t4⟩ := S0.out.cells
  rcases hk with hk | hk
  · go_enter Tryd.func4, Tryd.ntmps4
    go_wp2_with fail
    clear hv0
    refine (lchk_any B E a n c f v0 (HT.out.below S0.out.bel) S0.out.lrd).mono ?_
    rintro e v1 ⟨rfl, hbl⟩
    rw [HZ.out]
    have S1 := Lib.hid (S0.out.below hbl)
    clear hbl S0 t0 t1 t2 t3 t4
    obtain ⟨t0, t1, t2, t3, t4⟩ := S1.out.cells
    go_wp2_with fail
    go_ret
    exact ⟨ret1 HC.out.symm, S1.out.bel⟩
  · have hk2 : ¬ K < 1 := by omega
    go_enter Tryd.func4, Tryd.ntmps4
    go_wp2_with fail
    clear hv0
    refine (lchk_any B E a n c f v0 (HT.out.below S0.out.bel) S0.out.lrd).mono ?_
    rintro e v1 ⟨rfl, hbl⟩
    rw [HZ.out]
    have S1 := Lib.hid (S0.out.below hbl)
    clear hbl S0 t0 t1 t2 t3 t4
    obtain ⟨t0, t1, t2, t3, t4⟩ := S1.out.cells
    go_wp2_with fail
    go_ret
    exact ⟨ret1 HC.out.symm, S1.out.bel⟩

set_option maxRecDepth 100000 in
theorem schk_step (B E : Int) (a : Option Addr) (n c : Nat) (f : Nat → Int × Int) (K W : Int) (w : World) (ht : MT w) (hr : LRd w w.heap.size a n f) (hz : chkL B E f n = 0) (hk : K = 1) :
    Calls Tryd.prog 4 #[.agg #[.int .i64 B, .int .i64 E, .slice a n c], .agg #[.int .i64 K, .int .i64 W]] w fun e w' => e = .returned (.int .i64 (chkS B E f n K W)) ∧ Below w.heap.size w w' := by
  have HZ := Lib.hid hz
  have HP : Hid (chkS B E f n K W = polE K W) := Lib.hid (by unfold chkS; rw [if_neg (fun h => h hz)])
  clear hz
  subst hk
  have S0' := Lib.hid (bs_new w B E a n c f 1 W hr)
  have HT := Lib.hid ht
  obtain ⟨v0, hv0⟩ : ∃ v, (w.alloc (.cells #[.int .i64 B, .int .i64 E, .slice a n c] 24)).alloc (.cells #[.int .i64 1, .int .i64 W] 26) = v := ⟨_, rfl⟩
  rw [hv0] at S0'
  have S0 := S0'
  clear S0' hr ht
  obtain ⟨t0, t1, t2, t3, t4⟩ := S0.out.cells
  by_cases hw : W = 0
  · subst hw
    have HC : Hid (chkS B E f n 1 0 = 0) := Lib.hid (by rw [HP.out]; rfl)
    go_enter Tryd.func4, Tryd.ntmps4
    go_wp2_with fail
    clear hv0
    refine (lchk_any B E a n c f v0 (HT.out.below S0.out.bel) S0.out.lrd).mono ?_
    rintro e v1 ⟨rfl, hbl⟩
    rw [HZ.out]
    have S1 := Lib.hid (S0.out.below hbl)
    clear hbl S0 t0 t1 t2 t3 t4
    obtain ⟨t0, t1, t2, t3, t4⟩ := S1.out.cells
    go_wp2_with fail
    go_ret
    exact ⟨ret1 HC.out.symm, S1.out.bel⟩
  · have HC : Hid (chkS B E f n 1 W = 3) := Lib.hid (by rw [HP.out]; unfold polE; rw [if_neg (by omega), if_pos rfl, if_neg hw])
    have d1 : (W == 0) = false := by simpa using hw
    have d2 : (W != 0) = true := by simpa using hw
    go_enter Tryd.func4, Tryd.ntmps4
    go_wp2_with fail
    clear hv0
    refine (lchk_any B E a n c f v0 (HT.out.below S0.out.bel) S0.out.lrd).mono ?_
    rintro e v1 ⟨rfl, hbl⟩
    rw [HZ.out]
    have S1 := Lib.hid (S0.out.below hbl)
    clear hbl S0 t0 t1 t2 t3 t4
    obtain ⟨t0, t1, t2, t3, t4⟩ := S1.out.cells
    go_wp2_with fail
    go_ret
    exact ⟨ret1 HC.out.symm, S1.out.bel⟩

set_option maxRecDepth 100000 in
theorem schk_win (B E : Int) (a : Option Addr) (n c : Nat) (f : Nat → Int × Int) (K W : Int) (w : World) (ht : MT w) (hr : LRd w w.heap.size a n f) (hz : chkL B E f n = 0) (hk : 2 ≤ K ∧ K ≤ 4) :
    Calls Tryd.prog 4 #[.agg #[.int .i64 B, .int .i64 E, .slice a n c], .agg #[.int .i64 K, .int .i64 W]] w fun e w' => e = .returned (.int .i64 (chkS B E f n K W)) ∧ Below w.heap.size w w' := by
  have HZ := Lib.hid hz
  have HP : Hid (chkS B E f n K W = polE K W) := Lib.hid (by unfold chkS; rw [if_neg (fun h => h hz)])
  clear hz
  obtain ⟨k0, k1⟩ := hk
  have HPE : Hid (polE K W = if W < 2 ∨ 172800 < W ∨ W % 2 ≠ 0 then 3 else 0) := Lib.hid (by unfold polE; rw [if_neg (by omega), if_neg (by omega)])
  have d1 : (K == 1) = false := by simp; omega
  have d1' : (K != 1) = true := by simp; omega
  have d0 : ¬ K = 1 := by omega
  have S0' := Lib.hid (bs_new w B E a n c f K W hr)
  have HT := Lib.hid ht
  obtain ⟨v0, hv0⟩ : ∃ v, (w.alloc (.cells #[.int .i64 B, .int .i64 E, .slice a n c] 24)).alloc (.cells #[.int .i64 K, .int .i64 W] 26) = v := ⟨_, rfl⟩
  rw [hv0] at S0'
  have S0 := S0'
  clear S0' hr ht
  obtain ⟨t0, t1, t2, t3, t4⟩ := S0.out.cells
  rcases (show K = 2 ∨ K = 3 ∨ K = 4 by omega) with rfl | rfl | rfl
  all_goals
    by_cases w1 : W < 2
    · have HC : Hid (chkS B E f n _ W = 3) := Lib.hid (HP.out.trans (HPE.out.trans (if_pos (.inl w1))))
      have w1b : decide (W < 2) = true := decide_eq_true w1
      go_enter Tryd.func4, Tryd.ntmps4
      go_wp2_with fail
      clear hv0
      refine (lchk_any B E a n c f v0 (HT.out.below S0.out.bel) S0.out.lrd).mono ?_
      rintro e v1 ⟨rfl, hbl⟩
      rw [HZ.out]
      have S1 := Lib.hid (S0.out.below hbl)
      clear hbl S0 t0 t1 t2 t3 t4
      obtain ⟨t0, t1, t2, t3, t4⟩ := S1.out.cells
      go_wp2_with fail
      go_ret
      exact ⟨ret1 HC.out.symm, S1.out.bel⟩
    · have w1b : decide (W < 2) = false := decide_eq_false w1
      by_cases w2 : 172800 < W
      · have HC : Hid (chkS B E f n _ W = 3) := Lib.hid (HP.out.trans (HPE.out.trans (if_pos (.inr (.inl w2)))))
        have w2b : decide (172800 < W) = true := decide_eq_true w2
        go_enter Tryd.func4, Tryd.ntmps4
        go_wp2_with fail
        clear hv0
        refine (lchk_any B E a n c f v0 (HT.out.below S0.out.bel) S0.out.lrd).mono ?_
        rintro e v1 ⟨rfl, hbl⟩
        rw [HZ.out]
        have S1 := Lib.hid (S0.out.below hbl)
        clear hbl S0 t0 t1 t2 t3 t4
        obtain ⟨t0, t1, t2, t3, t4⟩ := S1.out.cells
        go_wp2_with fail
        go_ret
        exact ⟨ret1 HC.out.symm, S1.out.bel⟩
      · have w2b : decide (172800 < W) = false := decide_eq_false w2
        by_cases w3 : W % 2 = 0
        · have HC : Hid (chkS B E f n _ W = 0) := Lib.hid (HP.out.trans (HPE.out.trans (if_neg (by omega))))
          go_enter Tryd.func4, Tryd.ntmps4
          go_wp2_with fail
          clear hv0
          refine (lchk_any B E a n c f v0 (HT.out.below S0.out.bel) S0.out.lrd).mono ?_
          rintro e v1 ⟨rfl, hbl⟩
          rw [HZ.out]
          have S1 := Lib.hid (S0.out.below hbl)
          clear hbl S0 t0 t1 t2 t3 t4
          obtain ⟨t0, t1, t2, t3, t4⟩ := S1.out.cells
          go_wp2_with fail
          go_ret
          exact ⟨ret1 HC.out.symm, S1.out.bel⟩
        · have HC : Hid (chkS B E f n _ W = 3) := Lib.hid (HP.out.trans (HPE.out.trans (if_pos (.inr (.inr w3)))))
          have m1 : W % 2 = 1 := by omega
          clear w3
          go_enter Tryd.func4, Tryd.ntmps4
          go_wp2_with fail
          clear hv0
          refine (lchk_any B E a n c f v0 (HT.out.below S0.out.bel) S0.out.lrd).mono ?_
          rintro e v1 ⟨rfl, hbl⟩
          rw [HZ.out]
          have S1 := Lib.hid (S0.out.below hbl)
          clear hbl S0 t0 t1 t2 t3 t4
          obtain ⟨t0, t1, t2, t3, t4⟩ := S1.out.cells
          go_wp2_with fail
          go_ret
          exact ⟨ret1 HC.out.symm, S1.out.bel⟩

theorem schk_any (B E : Int) (a : Option Addr) (n c : Nat) (f : Nat → Int × Int) (K W : Int) (w : World) (ht : MT w) (hr : LRd w w.heap.size a n f) :
    Calls Tryd.prog 4 #[.agg #[.int .i64 B, .int .i64 E, .slice a n c], .agg #[.int .i64 K, .int .i64 W]] w fun e w' => e = .returned (.int .i64 (chkS B E f n K W)) ∧ Below w.heap.size w w' := by
  by_cases hz : chkL B E f n = 0
  · by_cases h1 : K = 1
    · exact schk_step B E a n c f K W w ht hr hz h1
    · by_cases h2 : 2 ≤ K ∧ K ≤ 4
      · exact schk_win B E a n c f K W w ht hr hz h2
      · exact schk_kind B E a n c f K W w ht hr hz (by omega)
  · exact schk_bad B E a n c f K W w ht hr hz

end Go.Proofs.YtgeklbpkmfeheaaDoor
