/- Contracts of layer 6: the program's Offset, TAI, UTC. -/
import Derived.Test.YtegpajdahanhfaaGreatDoorLeaC
namespace Go.Proofs.YtegpajdahanhfaaGreatDoor
open Go.RowKit Fx Cv Lp

/-- The first index at which p fails, from k on, m at most. -/
def Lp.fstG (p : Nat → Bool) : Nat → Nat → Nat
  | 0, k => k
  | m + 1, k => if p k = true then fstG p m (k + 1) else k
def Lp.fst (p : Nat → Bool) (n : Nat) : Nat := fstG p n 0
theorem Lp.fstG_spec (p : Nat → Bool) : ∀ m k, k ≤ fstG p m k ∧ fstG p m k ≤ k + m ∧ (∀ j, k ≤ j → j < fstG p m k → p j = true) ∧ (fstG p m k = k + m ∨ p (fstG p m k) = false) := by
  intro m
  induction m with
  | zero => intro k; exact ⟨Nat.le_refl _, Nat.le_refl _, fun j h1 h2 => absurd h2 (by simp only [fstG]; omega), .inl rfl⟩
  | succ m ih =>
    intro k
    simp only [fstG]
    by_cases h : p k = true
    · rw [if_pos h]
      obtain ⟨a, b, c, d⟩ := ih (k + 1)
      refine ⟨by omega, by omega, fun j h1 h2 => ?_, ?_⟩
      · rcases (show j = k ∨ k + 1 ≤ j by omega) with rfl | h3
        · exact h
        · exact c j h3 h2
      · rcases d with d | d
        · exact .inl (by omega)
        · exact .inr d
    · rw [if_neg h]
      exact ⟨Nat.le_refl _, by omega, fun j h1 h2 => by omega, .inr (by simpa using h)⟩
theorem Lp.fst_spec (p : Nat → Bool) (n : Nat) : fst p n ≤ n ∧ (∀ j, j < fst p n → p j = true) ∧ (fst p n = n ∨ p (fst p n) = false) := by
  obtain ⟨a, b, c, d⟩ := fstG_spec p n 0
  rw [Nat.zero_add] at b d
  exact ⟨b, fun j h => c j (by omega) h, d⟩
theorem Lp.fst_eq {p : Nat → Bool} {n k : Nat} (hk : k ≤ n) (h : ∀ j, j < k → p j = true) (h2 : k = n ∨ p k = false) : fst p n = k := by
  obtain ⟨a, b, c⟩ := fst_spec p n
  rcases Nat.lt_trichotomy (fst p n) k with hl | hl | hl
  · rcases c with c | c
    · omega
    · rw [h _ hl] at c; cases c
  · exact hl
  · rcases h2 with h2 | h2
    · omega
    · rw [b _ hl] at h2; cases h2
/-- How many entries there are up to a second. -/
def Lp.psU (f : Nat → Int × Int) (n : Nat) (u : Int) : Nat := fst (fun i => decide ((f i).1 ≤ u)) n
/-- The same for a second of atomic time. -/
def Lp.psT (f : Nat → Int × Int) (n : Nat) (t : Int) : Nat := fst (fun i => decide ((f i).1 + (f i).2 ≤ t)) n
theorem Lp.psU_le (f : Nat → Int × Int) (n : Nat) (u : Int) : psU f n u ≤ n := (fst_spec _ n).1
theorem Lp.psT_le (f : Nat → Int × Int) (n : Nat) (u : Int) : psT f n u ≤ n := (fst_spec _ n).1
def Lp.chaU (B : Int) (f : Nat → Int × Int) (n : Nat) (u : Int) : Int := if psU f n u < n ∧ (f (psU f n u)).1 = u + 1 then (f (psU f n u)).2 - offA B f (psU f n u) else 0
theorem Lp.chk_zero {B E : Int} {f : Nat → Int × Int} {n : Nat} (h : chkL B E f n = 0) : n ≤ 64 ∧ inR B E f n ∧ fE B f n = 0 := by
  unfold chkL at h
  by_cases a : 64 < n
  · rw [if_pos a] at h; omega
  · rw [if_neg a] at h
    by_cases b : inR B E f n
    · rw [if_pos b] at h; exact ⟨by omega, b, h⟩
    · rw [if_neg b] at h; omega

set_option maxRecDepth 100000 in
theorem passed_any (B E : Int) (a : Option Addr) (n c : Nat) (f : Nat → Int × Int) (u : Int) (w : World) (hr : LRd w w.heap.size a n f) (hn : n ≤ 64) :
    Calls Tryz.prog 35 #[.agg #[.int .i64 B, .int .i64 E, .slice a n c], .int .i64 u] w fun e w' => e = .returned (.int .i64 (psU f n u)) ∧ Below w.heap.size w w' := by
  have HR := Lib.hid hr
  clear hr
  have BB0 := Lib.hid ((Below.refl w.heap.size w).alloc (Nat.le_refl _) (.cells #[.int .i64 B, .int .i64 E, .slice a n c] 24))
  have X0 := Lib.hid (tbx_new w B E a n c)
  obtain ⟨W0, hW0⟩ : ∃ W, w.alloc (.cells #[.int .i64 B, .int .i64 E, .slice a n c] 24) = W := ⟨_, rfl⟩
  rw [hW0] at BB0 X0
  obtain ⟨t0, t1, t2⟩ := X0.out.cells
  go_enter Tryz.func35, Tryz.ntmps35
  go_wp2_with fail
  go_loop [5] (fun iv => ∃ k : Nat, k ≤ n ∧ iv = .int .i64 k ∧ Hid (∀ j, j < k → decide ((f j).1 ≤ u) = true)) (fun iv => n - (intOf iv).toNat)
  case atStart => exact ⟨0, by omega, rfl, Lib.hid (fun i hi => by omega)⟩
  case round =>
    obtain ⟨k, hk, rfl, HK⟩ := hrel
    by_cases hlt : k < n
    · obtain ⟨b, off, rfl, hbl⟩ := HR.out.some (by omega)
      obtain ⟨e0, _⟩ := (HR.out.below BB0.out).at hlt
      have hki : (k : Int) < n := by omega
      obtain ⟨x, hx⟩ : ∃ x, (f k).1 = x := ⟨_, rfl⟩
      rw [hx] at e0
      have HX := Lib.hid hx
      clear hx
      by_cases hle : x ≤ u
      · have HN : Hid (∀ j, j < k + 1 → decide ((f j).1 ≤ u) = true) := Lib.hid (fun j hj => by
          rcases (show j < k ∨ j = k by omega) with h | rfl
          · exact HK.out j h
          · rw [HX.out]; exact decide_eq_true hle)
        go_wp2_with fail
        go_round
        case rel => exact ⟨k + 1, by omega, by go_num, HN⟩
        case measure => simp [intOf]; omega
      · have d1 : decide (x ≤ u) = false := decide_eq_false hle
        have HF : Hid (psU f n u = k) := Lib.hid (fst_eq hk HK.out (.inr (by rw [HX.out]; exact d1)))
        go_wp2_with fail
        go_ret
        exact ⟨ret1 (by rw [HF.out]), BB0.out⟩
    · obtain rfl : k = n := by omega
      have HF : Hid (psU f k u = k) := Lib.hid (fst_eq (Nat.le_refl _) HK.out (.inl rfl))
      go_wp2_with fail
      go_ret
      exact ⟨ret1 (by rw [HF.out]), BB0.out⟩

/-- What Offset returns. -/
def Lp.offU (B E : Int) (f : Nat → Int × Int) (n : Nat) (u : Int) : Int := if chkL B E f n = 0 then offA B f (psU f n u) else 0
set_option maxRecDepth 100000 in
theorem loffset_any (B E : Int) (a : Option Addr) (n c : Nat) (f : Nat → Int × Int) (u : Int) (w : World) (ht : MT w) (hr : LRd w w.heap.size a n f) :
    Calls Tryz.prog 18 #[.agg #[.int .i64 B, .int .i64 E, .slice a n c], .int .i64 u] w fun e w' => e = .returned (.int .i64 (offU B E f n u)) ∧ Below w.heap.size w w' := by
  have HR := Lib.hid hr
  have HT := Lib.hid ht
  by_cases h0 : chkL B E f n = 0
  · have HC := Lib.hid h0
    obtain ⟨hn, hR, _⟩ := chk_zero h0
    obtain ⟨k, hkk⟩ : ∃ k, psU f n u = k := ⟨_, rfl⟩
    have HK := Lib.hid hkk
    have hk : k ≤ n := by rw [← hkk]; exact psU_le f n u
    obtain ⟨O, hO⟩ : ∃ O, offA B f k = O := ⟨_, rfl⟩
    have HO := Lib.hid hO
    have HV : Hid (offU B E f n u = O) := Lib.hid (by unfold offU; rw [if_pos h0, hkk, hO])
    clear hr ht h0 hkk hO hR
    have BB0 := Lib.hid ((Below.refl w.heap.size w).alloc (Nat.le_refl _) (.cells #[.int .i64 B, .int .i64 E, .slice a n c] 24))
    have X0 := Lib.hid (tbx_new w B E a n c)
    obtain ⟨W0, hW0⟩ : ∃ W, w.alloc (.cells #[.int .i64 B, .int .i64 E, .slice a n c] 24) = W := ⟨_, rfl⟩
    rw [hW0] at BB0 X0
    obtain ⟨t0, t1, t2⟩ := X0.out.cells
    go_enter Tryz.func18, Tryz.ntmps18
    go_wp2_with fail
    refine (lchk_any B E a n c f _ (HT.out.below BB0.out) (show LRd W0 W0.heap.size a n f from (HR.out.below BB0.out).mono BB0.out.size)).mono ?_
    rintro e w1 ⟨rfl, hb⟩
    have X1 := Lib.hid (X0.out.below hb X0.out.lt)
    have B1 := Lib.hid (BB0.out.trans (hb.mono BB0.out.size))
    clear hb X0 BB0
    rw [HC.out]
    obtain ⟨t2_0, t2_1, t2_2⟩ := X1.out.cells
    go_wp2_with fail
    go_region_held3 (fun w' => w'.cell? ⟨w.heap.size, 0, none⟩ = some (.int .i64 B) ∧ w'.cell? ⟨w.heap.size, 1, none⟩ = some (.int .i64 E) ∧ w'.cell? ⟨w.heap.size, 2, none⟩ = some (.slice a n c)) (go_keep)
        (first
          | (go_at_call 35; refine (passed_any B E _ n c f u _ ?_ hn).mono ?_; exact (show LRd w1 w1.heap.size a n f from (HR.out.below B1.out).mono B1.out.size); rintro e w3 ⟨rfl, hw⟩; rw [HK.out]; have hw' : Below w1.heap.size w1 w3 := ⟨hw.os, hw.tape, hw.output, hw.size, hw.block⟩; have X3 := Lib.hid (X1.out.below hw' X1.out.lt); have B3 := Lib.hid (B1.out.trans (hw'.mono B1.out.size)); obtain ⟨q3_0, q3_1, q3_2⟩ := X3.out.cells; clear hw hw' X1 B1)
          | (go_at_call 34; refine (offa_any B E _ n c f k _ ?_ hk hn).mono ?_; exact (show LRd w3 w3.heap.size a n f from (HR.out.below B3.out).mono B3.out.size); rintro e w4 ⟨rfl, hw⟩; rw [HO.out]; have hw' := hw; have X4 := Lib.hid (X3.out.below hw' X3.out.lt); have B4 := Lib.hid (B3.out.trans (hw'.mono B3.out.size)); obtain ⟨q4_0, q4_1, q4_2⟩ := X4.out.cells; clear hw hw' X3 B3))
    go_wp2_with fail
    go_ret
    exact ⟨ret1 HV.out.symm, B4.out⟩
  · obtain ⟨v, hv⟩ : ∃ v, chkL B E f n = v := ⟨_, rfl⟩
    rw [hv] at h0
    have HC := Lib.hid hv
    have HV : Hid (offU B E f n u = 0) := Lib.hid (by unfold offU; rw [if_neg (by rw [hv]; exact h0)])
    have g1 : decide (v = 0) = false := decide_eq_false h0
    have g2 : (v == 0) = false := by simpa using h0
    have g3 : (v != 0) = true := by simp [bne, g2]
    clear hr ht hv
    have BB0 := Lib.hid ((Below.refl w.heap.size w).alloc (Nat.le_refl _) (.cells #[.int .i64 B, .int .i64 E, .slice a n c] 24))
    have X0 := Lib.hid (tbx_new w B E a n c)
    obtain ⟨W0, hW0⟩ : ∃ W, w.alloc (.cells #[.int .i64 B, .int .i64 E, .slice a n c] 24) = W := ⟨_, rfl⟩
    rw [hW0] at BB0 X0
    obtain ⟨t0, t1, t2⟩ := X0.out.cells
    go_enter Tryz.func18, Tryz.ntmps18
    go_wp2_with fail
    refine (lchk_any B E a n c f _ (HT.out.below BB0.out) (show LRd W0 W0.heap.size a n f from (HR.out.below BB0.out).mono BB0.out.size)).mono ?_
    rintro e w1 ⟨rfl, hb⟩
    have X1 := Lib.hid (X0.out.below hb X0.out.lt)
    have B1 := Lib.hid (BB0.out.trans (hb.mono BB0.out.size))
    clear hb X0 BB0
    rw [HC.out]
    go_wp2_with fail
    go_ret
    exact ⟨ret1 HV.out.symm, B1.out⟩

set_option maxRecDepth 100000 in
set_option maxHeartbeats 1000000 in
theorem cafter_any (B E : Int) (a : Option Addr) (n c : Nat) (f : Nat → Int × Int) (u : Int) (w : World) (hr : LRd w w.heap.size a n f) (hn : n ≤ 64) (hR : inR B E f n) (u0 : -8000000000 ≤ u) (u1 : u ≤ 8000000000) :
    Calls Tryz.prog 33 #[.agg #[.int .i64 B, .int .i64 E, .slice a n c], .int .i64 u] w fun e w' => e = .returned (.int .i64 (chaU B f n u)) ∧ Below w.heap.size w w' := by
  have HR := Lib.hid hr
  have HI := Lib.hid hR
  obtain ⟨k, hkk⟩ : ∃ k, psU f n u = k := ⟨_, rfl⟩
  have HK := Lib.hid hkk
  have hk : k ≤ n := by rw [← hkk]; exact psU_le f n u
  by_cases hlt : k < n
  · obtain ⟨b, off, rfl, hbl⟩ := hr.some (by omega)
    obtain ⟨x, hx⟩ : ∃ x, (f k).1 = x := ⟨_, rfl⟩
    have HX := Lib.hid hx
    have hki : (k : Int) < n := by omega
    have hne : ¬ (k : Int) = n := by omega
    have hne2 : ((k : Int) == n) = false := by simpa using hne
    by_cases hxu : x = u + 1
    · have HV : Hid (chaU B f n u = (f k).2 - offA B f k) := Lib.hid (by unfold chaU; rw [hkk, if_pos ⟨hlt, by rw [hx]; exact hxu⟩])
      subst hxu
      clear hr hR hkk hx
      have BB0 := Lib.hid ((Below.refl w.heap.size w).alloc (Nat.le_refl _) (.cells #[.int .i64 B, .int .i64 E, .slice (some ⟨b, off, none⟩) n c] 24))
      have X0 := Lib.hid (tbx_new w B E (some ⟨b, off, none⟩) n c)
      obtain ⟨W0, hW0⟩ : ∃ W, w.alloc (.cells #[.int .i64 B, .int .i64 E, .slice (some ⟨b, off, none⟩) n c] 24) = W := ⟨_, rfl⟩
      rw [hW0] at BB0 X0
      obtain ⟨t0, t1, t2⟩ := X0.out.cells
      go_enter Tryz.func33, Tryz.ntmps33
      go_wp2_with fail
      refine (passed_any B E _ n c f u _ (show LRd W0 W0.heap.size (some ⟨b, off, none⟩) n f from (HR.out.below BB0.out).mono BB0.out.size) hn).mono ?_
      rintro e w1 ⟨rfl, hb⟩
      have X1 := Lib.hid (X0.out.below hb X0.out.lt)
      have B1 := Lib.hid (BB0.out.trans (hb.mono BB0.out.size))
      clear hb X0 BB0
      rw [HK.out]
      obtain ⟨t2_0, t2_1, t2_2⟩ := X1.out.cells
      obtain ⟨m1, _⟩ := (HR.out.below B1.out).at hlt
      rw [HX.out] at m1
      go_wp2_with fail
      clear t2_0 t2_1 t2_2 m1
      refine (change_any B E _ n c f k _ (show LRd w1 w1.heap.size (some ⟨b, off, none⟩) n f from (HR.out.below B1.out).mono B1.out.size) hlt hn HI.out).mono ?_
      rintro e w3 ⟨rfl, hb⟩
      have X3 := Lib.hid (X1.out.below hb X1.out.lt)
      have B3 := Lib.hid (B1.out.trans (hb.mono B1.out.size))
      clear hb X1 B1
      go_wp2_with fail
      go_ret
      exact ⟨ret1 HV.out.symm, B3.out⟩
    · have HV : Hid (chaU B f n u = 0) := Lib.hid (by unfold chaU; rw [hkk, if_neg (by rw [hx]; exact fun h => hxu h.2)])
      have g1 : decide (x = u + 1) = false := decide_eq_false hxu
      have g2 : (x == u + 1) = false := by simpa using hxu
      have g3 : (x != u + 1) = true := by simp [bne, g2]
      clear hr hR hkk hx
      have BB0 := Lib.hid ((Below.refl w.heap.size w).alloc (Nat.le_refl _) (.cells #[.int .i64 B, .int .i64 E, .slice (some ⟨b, off, none⟩) n c] 24))
      have X0 := Lib.hid (tbx_new w B E (some ⟨b, off, none⟩) n c)
      obtain ⟨W0, hW0⟩ : ∃ W, w.alloc (.cells #[.int .i64 B, .int .i64 E, .slice (some ⟨b, off, none⟩) n c] 24) = W := ⟨_, rfl⟩
      rw [hW0] at BB0 X0
      obtain ⟨t0, t1, t2⟩ := X0.out.cells
      go_enter Tryz.func33, Tryz.ntmps33
      go_wp2_with fail
      refine (passed_any B E _ n c f u _ (show LRd W0 W0.heap.size (some ⟨b, off, none⟩) n f from (HR.out.below BB0.out).mono BB0.out.size) hn).mono ?_
      rintro e w1 ⟨rfl, hb⟩
      have X1 := Lib.hid (X0.out.below hb X0.out.lt)
      have B1 := Lib.hid (BB0.out.trans (hb.mono BB0.out.size))
      clear hb X0 BB0
      rw [HK.out]
      obtain ⟨t2_0, t2_1, t2_2⟩ := X1.out.cells
      obtain ⟨m1, _⟩ := (HR.out.below B1.out).at hlt
      rw [HX.out] at m1
      go_wp2_with fail
      clear t2_0 t2_1 t2_2 m1
      go_ret
      exact ⟨ret1 HV.out.symm, B1.out⟩
  · obtain rfl : k = n := by omega
    have HV : Hid (chaU B f k u = 0) := Lib.hid (by unfold chaU; rw [hkk, if_neg (by omega)])
    clear hr hR hkk
    have BB0 := Lib.hid ((Below.refl w.heap.size w).alloc (Nat.le_refl _) (.cells #[.int .i64 B, .int .i64 E, .slice a k c] 24))
    have X0 := Lib.hid (tbx_new w B E a k c)
    obtain ⟨W0, hW0⟩ : ∃ W, w.alloc (.cells #[.int .i64 B, .int .i64 E, .slice a k c] 24) = W := ⟨_, rfl⟩
    rw [hW0] at BB0 X0
    obtain ⟨t0, t1, t2⟩ := X0.out.cells
    go_enter Tryz.func33, Tryz.ntmps33
    go_wp2_with fail
    refine (passed_any B E a k c f u _ (show LRd W0 W0.heap.size a k f from (HR.out.below BB0.out).mono BB0.out.size) hn).mono ?_
    rintro e w1 ⟨rfl, hb⟩
    have X1 := Lib.hid (X0.out.below hb X0.out.lt)
    have B1 := Lib.hid (BB0.out.trans (hb.mono BB0.out.size))
    clear hb X0 BB0
    rw [HK.out]
    obtain ⟨t2_0, t2_1, t2_2⟩ := X1.out.cells
    go_wp2_with fail
    clear t2_0 t2_1 t2_2
    go_ret
    exact ⟨ret1 HV.out.symm, B1.out⟩
end Go.Proofs.YtegpajdahanhfaaGreatDoor
