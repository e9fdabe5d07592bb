/- Contracts of layer 7: Tai of the program. -/
import Derived.Test.YtghaboanakecjaaDoorSmeE
namespace Go.Proofs.YtghaboanakecjaaDoor
open Go.RowKit Fx Cv Lp Sm

/-- A reading is near its instant. -/
theorem Sm.rdg_near {B E : Int} {f : Nat → Int × Int} {n : Nat} {K W : Int} (hv : Val B E f n) (hP : Pol K W) (t : Int) : t - 1000000000000 ≤ rdg B f n K W t ∧ rdg B f n K W t ≤ t + 1000000000000 := by
  obtain ⟨hk, _, _⟩ := psW_spec f n K W t
  obtain ⟨⟨o0, o1⟩, h⟩ := place_in (t := t) hv hP
  unfold rdg
  rcases h with ⟨hc, _, _⟩ | ⟨hc, s0, s1, hW, hin⟩
  · rw [if_pos hc]; omega
  · have hkn : psW f n K W t < n := by
      unfold inW at hin
      simp only [Bool.and_eq_true, decide_eq_true_eq] at hin
      exact hin.1
    have hb := hv.bnd hkn
    have hcd : plC B f n K W t = (f (psW f n K W t)).2 - offA B f (psW f n K W t) := by unfold plC; rw [if_pos hin]
    have hod : plO B f n K W t = offA B f (psW f n K W t) := rfl
    rw [if_neg (by omega)]
    generalize plS f n K W t = s at *
    rcases hc with h1 | h1
    · rw [h1, Int.one_mul]
      have e0 := Int.ediv_nonneg s0 (show 0 ≤ W by omega)
      have e1 : s / W < 1000000000 := Int.ediv_lt_of_lt_mul (by omega) (by rw [Int.mul_comm]; exact s1)
      omega
    · rw [h1]
      have e0 : -1000000000 ≤ -1 * s / W := by
        rw [Int.le_ediv_iff_mul_le (by omega)]
        have : -1000000000 * W = -(W * 1000000000) := by rw [Int.mul_comm W]; omega
        omega
      have e1 : -1 * s / W ≤ 0 := by
        have := Int.ediv_le_ediv (show 0 < W by omega) (show -1 * s ≤ 0 by omega)
        rwa [Int.zero_ediv] at this
      omega
def Sm.fstT (u : Int) : Int := clampI (u - 1000000000000) (-8000000000000000000) 8000000000000000000
def Sm.lstT (u : Int) : Int := clampI (u + 1000000000000) (-8000000000000000000) 8000000000000000000
/-- The end of the search behind j entries. -/
def Sm.cut (B : Int) (f : Nat → Int × Int) (n : Nat) (K W u : Int) : Nat → Int
  | 0 => lstT u
  | j + 1 => if chg f j - 1 < cut B f n K W u j ∧ rch B f n K W u (chg f j - 1) = true then chg f j - 1 else cut B f n K W u j
theorem Sm.clampI_eq (x : Int) : (clampI x (-8000000000000000000) 8000000000000000000 = x ∧ -8000000000000000000 ≤ x ∧ x ≤ 8000000000000000000) ∨ (clampI x (-8000000000000000000) 8000000000000000000 = -8000000000000000000 ∧ x < -8000000000000000000) ∨ (clampI x (-8000000000000000000) 8000000000000000000 = 8000000000000000000 ∧ 8000000000000000000 < x) := by
  unfold clampI
  split
  · omega
  · split <;> omega
theorem Sm.cut_in {B E : Int} {f : Nat → Int × Int} {n : Nat} {K W u : Int} (hv : Val B E f n) (hP : Pol K W) (hu : isT u = true) : ∀ j, j ≤ n → fstT u ≤ cut B f n K W u j ∧ cut B f n K W u j ≤ 8000000000000000000 := by
  have hub : -8000000000000000000 ≤ u ∧ u ≤ 8000000000000000000 := of_decide_eq_true hu
  intro j
  induction j with
  | zero =>
    intro _
    have h1 := clampI_eq (u - 1000000000000)
    have h2 := clampI_eq (u + 1000000000000)
    unfold cut lstT fstT
    omega
  | succ j ih =>
    intro hj
    have h := ih (by omega)
    unfold cut
    by_cases c : chg f j - 1 < cut B f n K W u j ∧ rch B f n K W u (chg f j - 1) = true
    · rw [if_pos c]
      have h1 := clampI_eq (u - 1000000000000)
      have h2 := (rdg_near hv hP (chg f j - 1)).2
      have h3 : u ≤ rdg B f n K W (chg f j - 1) := of_decide_eq_true c.2
      have h4 := (chg_in hv (show j < n by omega)).1
      have h5 := c.1
      refine ⟨?_, by omega⟩
      unfold fstT
      omega
    · rw [if_neg c]; exact h
theorem Sm.cut_le {B : Int} {f : Nat → Int × Int} {n : Nat} {K W u : Int} : ∀ j, cut B f n K W u j ≤ lstT u := by
  intro j
  induction j with
  | zero => exact Int.le_refl _
  | succ j ih =>
    unfold cut
    by_cases c : chg f j - 1 < cut B f n K W u j ∧ rch B f n K W u (chg f j - 1) = true
    · rw [if_pos c]; have := c.1; omega
    · rw [if_neg c]; exact ih
theorem Sm.span (u : Int) : lstT u - fstT u ≤ 2000000000000 := by
  have h1 := clampI_eq (u - 1000000000000)
  have h2 := clampI_eq (u + 1000000000000)
  unfold lstT fstT
  omega
/-- What Tai returns. -/
def Sm.TaiR (B E : Int) (f : Nat → Int × Int) (n : Nat) (K W u X e : Int) : Prop :=
  (chkS B E f n K W ≠ 0 ∧ X = 0 ∧ e = chkS B E f n K W) ∨ (chkS B E f n K W = 0 ∧ isT u = false ∧ X = 0 ∧ e = 3) ∨
  (chkS B E f n K W = 0 ∧ isT u = true ∧ ∃ r, Fnd (fun i => rch B f n K W u (fstT u + i)) (cut B f n K W u n - fstT u + 1) r ∧ ((r = cut B f n K W u n - fstT u + 1 ∧ X = 0 ∧ e = 3) ∨ (r ≠ cut B f n K W u n - fstT u + 1 ∧ X = fstT u + r ∧ e = 0)))
theorem Sm.ts_new (w : World) (B E : Int) (a : Option Addr) (n c : Nat) (f : Nat → Int × Int) (K W u : Int) (hr : LRd w w.heap.size a n f) :
    TS w (((w.alloc (.cells #[.int .i64 B, .int .i64 E, .slice a n c] 24)).alloc (.cells #[.int .i64 K, .int .i64 W] 26)).alloc (.cells #[.int .i64 u] 3)) w.heap.size (w.heap.size + 1) (w.heap.size + 1 + 1) B E a n c f K W u := by
  have h := bs_new w B E a n c f K W hr
  obtain ⟨V, hV⟩ : ∃ V, (w.alloc (.cells #[.int .i64 B, .int .i64 E, .slice a n c] 24)).alloc (.cells #[.int .i64 K, .int .i64 W] 26) = V := ⟨_, rfl⟩
  have hs : V.heap.size = w.heap.size + 1 + 1 := by rw [← hV]; simp
  rw [hV] at h ⊢
  refine ⟨h.below ((Below.refl _ _).alloc (Nat.le_refl _) _), ?_⟩
  rw [← hs]
  exact heap_alloc_new V _
theorem Sm.fnd_v {B E : Int} {f : Nat → Int × Int} {n : Nat} {K W u : Int} (h : chkS B E f n K W = 0) (h2 : isT u = true) {r : Int} (h3 : Fnd (fun i => rch B f n K W u (fstT u + i)) (cut B f n K W u n - fstT u + 1) r) (h4 : r = cut B f n K W u n - fstT u + 1) : TaiR B E f n K W u 0 3 := .inr (.inr ⟨h, h2, r, h3, .inl ⟨h4, rfl, rfl⟩⟩)

set_option maxRecDepth 100000 in
set_option maxHeartbeats 1000000 in
set_option linter.unusedVariables false in
theorem stai_bad (B E : Int) (a : Option Addr) (n c : Nat) (f : Nat → Int × Int) (K W u : Int) (w : World) (ht : MT w) (hr : LRd w w.heap.size a n f) (u0 : -9223372036854775808 ≤ u) (u1 : u ≤ 9223372036854775807) (h : ¬ chkS B E f n K W = 0) :
    Calls Tryd.prog 16 #[.agg #[.int .i64 B, .int .i64 E, .slice a n c], .agg #[.int .i64 K, .int .i64 W], .int .i64 u] w fun e w' => ∃ X e0, e = .returned (.tuple #[.int .i64 X, .int .i64 e0]) ∧ TaiR B E f n K W u X e0 ∧ Below w.heap.size w w' := by
  obtain ⟨y, hy⟩ : ∃ y, chkS B E f n K W = y := ⟨_, rfl⟩
  have HY := Lib.hid hy
  have HE : Hid (TaiR B E f n K W u 0 y) := Lib.hid (.inl ⟨h, rfl, hy.symm⟩)
  rw [hy] at h
  have g1 : decide (y = 0) = false := decide_eq_false h
  have g2 : (y == 0) = false := by simpa using h
  have g3 : (y != 0) = true := by simp [bne, g2]
  clear hy h
  obtain ⟨v0, hv0⟩ : ∃ v, ((w.alloc (.cells #[.int .i64 B, .int .i64 E, .slice a n c] 24)).alloc (.cells #[.int .i64 K, .int .i64 W] 26)).alloc (.cells #[.int .i64 u] 3) = v := ⟨_, rfl⟩
  have S0 := Lib.hid (ts_new w B E a n c f K W u hr)
  rw [hv0] at S0
  obtain ⟨t0, t1, t2, t3, t4, t5⟩ := S0.out.cells
  have HT := Lib.hid ht
  clear hr ht
  go_enter Tryd.func16, Tryd.ntmps16
  go_wp2_with fail
  clear hv0
  refine (schk_any B E a n c f K W v0 (HT.out.below S0.out.bs.bel) S0.out.bs.lrd).mono ?_
  rintro e v1 ⟨rfl, hbl⟩
  rw [HY.out]
  have S1 := Lib.hid (S0.out.below hbl)
  clear hbl S0 t0 t1 t2 t3 t4 t5
  obtain ⟨t0, t1, t2, t3, t4, t5⟩ := S1.out.cells
  go_wp2_with fail
  go_ret2
  exact ⟨_, _, rfl, HE.out, S1.out.bs.bel⟩

set_option maxRecDepth 100000 in
set_option maxHeartbeats 1000000 in
set_option linter.unusedVariables false in
theorem stai_time (B E : Int) (a : Option Addr) (n c : Nat) (f : Nat → Int × Int) (K W u : Int) (w : World) (ht : MT w) (hr : LRd w w.heap.size a n f) (u0 : -9223372036854775808 ≤ u) (u1 : u ≤ 9223372036854775807) (h : chkS B E f n K W = 0) (h2 : isT u = false) :
    Calls Tryd.prog 16 #[.agg #[.int .i64 B, .int .i64 E, .slice a n c], .agg #[.int .i64 K, .int .i64 W], .int .i64 u] w fun e w' => ∃ X e0, e = .returned (.tuple #[.int .i64 X, .int .i64 e0]) ∧ TaiR B E f n K W u X e0 ∧ Below w.heap.size w w' := by
  have HY := Lib.hid h
  have H2 := Lib.hid h2
  have HE : Hid (TaiR B E f n K W u 0 3) := Lib.hid (.inr (.inl ⟨h, h2, rfl, rfl⟩))
  clear h h2
  obtain ⟨v0, hv0⟩ : ∃ v, ((w.alloc (.cells #[.int .i64 B, .int .i64 E, .slice a n c] 24)).alloc (.cells #[.int .i64 K, .int .i64 W] 26)).alloc (.cells #[.int .i64 u] 3) = v := ⟨_, rfl⟩
  have S0 := Lib.hid (ts_new w B E a n c f K W u hr)
  rw [hv0] at S0
  obtain ⟨t0, t1, t2, t3, t4, t5⟩ := S0.out.cells
  have HT := Lib.hid ht
  clear hr ht
  go_enter Tryd.func16, Tryd.ntmps16
  go_wp2_with fail
  clear hv0
  refine (schk_any B E a n c f K W v0 (HT.out.below S0.out.bs.bel) S0.out.bs.lrd).mono ?_
  rintro e v1 ⟨rfl, hbl⟩
  rw [HY.out]
  have S1 := Lib.hid (S0.out.below hbl)
  clear hbl S0 t0 t1 t2 t3 t4 t5
  obtain ⟨t0, t1, t2, t3, t4, t5⟩ := S1.out.cells
  go_wp2_with fail
  refine (sist_any u v1).mono ?_
  rintro e w' ⟨rfl, hw'⟩; subst w'
  rw [H2.out]
  go_wp2_with fail
  go_ret2
  exact ⟨_, _, rfl, HE.out, S1.out.bs.bel⟩

set_option maxRecDepth 100000 in
set_option maxHeartbeats 1000000 in
set_option linter.unusedVariables false in
theorem stai_ok (B E : Int) (a : Option Addr) (n c : Nat) (f : Nat → Int × Int) (K W u : Int) (w : World) (ht : MT w) (hr : LRd w w.heap.size a n f) (u0 : -9223372036854775808 ≤ u) (u1 : u ≤ 9223372036854775807) (h : chkS B E f n K W = 0) (h2 : isT u = true) :
    Calls Tryd.prog 16 #[.agg #[.int .i64 B, .int .i64 E, .slice a n c], .agg #[.int .i64 K, .int .i64 W], .int .i64 u] w fun e w' => ∃ X e0, e = .returned (.tuple #[.int .i64 X, .int .i64 e0]) ∧ TaiR B E f n K W u X e0 ∧ Below w.heap.size w w' := by
  have HY := Lib.hid h
  have H2 := Lib.hid h2
  obtain ⟨hz, hP⟩ := chk_pol h
  have hv := val_of hz
  have hcut := cut_in hv hP h2
  have ub : -8000000000000000000 ≤ u ∧ u ≤ 8000000000000000000 := of_decide_eq_true h2
  obtain ⟨ub0, ub1⟩ := ub
  have hm := clampI_eq (u - 1000000000000)
  obtain ⟨m, hmm⟩ : ∃ m, fstT u = m := ⟨_, rfl⟩
  have hM : clampI (u - 1000000000000) (-8000000000000000000) 8000000000000000000 = m := hmm
  rw [hM] at hm
  have m0 : -8000000000000000000 ≤ m := by omega
  have m1 : m ≤ 8000000000000000000 := by omega
  rw [hmm] at hcut
  have hsp := span u
  rw [hmm] at hsp
  have hle := fun j => cut_le (B := B) (f := f) (n := n) (K := K) (W := W) (u := u) j
  have HSP : Hid (∀ j, cut B f n K W u j - m ≤ 2000000000000) := Lib.hid (fun j => by have := hle j; omega)
  clear hsp hle
  have HM := Lib.hid hM
  have HMM := Lib.hid hmm
  have HV := Lib.hid hv
  have HP := Lib.hid hP
  have HCUT := Lib.hid hcut
  obtain ⟨l0, hl0⟩ : ∃ l, lstT u = l := ⟨_, rfl⟩
  have HL0 := Lib.hid hl0
  have hn := hv.le
  have hni : (n : Int) ≤ 64 := by omega
  clear h h2 hz hP hv hcut hmm hM hl0 hm
  obtain ⟨v0, hv0⟩ : ∃ v, ((w.alloc (.cells #[.int .i64 B, .int .i64 E, .slice a n c] 24)).alloc (.cells #[.int .i64 K, .int .i64 W] 26)).alloc (.cells #[.int .i64 u] 3) = v := ⟨_, rfl⟩
  have S0 := Lib.hid (ts_new w B E a n c f K W u hr)
  rw [hv0] at S0
  obtain ⟨t0, t1, t2, t3, t4, t5⟩ := S0.out.cells
  have HT := Lib.hid ht
  clear hr ht
  go_enter Tryd.func16, Tryd.ntmps16
  go_wp2_with fail
  clear hv0
  refine (schk_any B E a n c f K W v0 (HT.out.below S0.out.bs.bel) S0.out.bs.lrd).mono ?_
  rintro e v1 ⟨rfl, hbl⟩
  rw [HY.out]
  have S1 := Lib.hid (S0.out.below hbl)
  clear hbl S0 t0 t1 t2 t3 t4 t5
  obtain ⟨t0, t1, t2, t3, t4, t5⟩ := S1.out.cells
  go_wp2_with fail
  refine (sist_any u v1).mono ?_
  rintro e w' ⟨rfl, hw'⟩; subst w'
  rw [H2.out]
  obtain ⟨P, hPs⟩ : ∃ P, v1.heap.size = P := ⟨_, rfl⟩
  obtain ⟨v2, hv2⟩ : ∃ v, v1.alloc (.cells #[.func (.func 28) #[] #[.pointer (some ⟨w.heap.size, 0, none⟩), .pointer (some ⟨w.heap.size + 1, 0, none⟩), .pointer (some ⟨w.heap.size + 1 + 1, 0, none⟩)]] 41) = v := ⟨_, rfl⟩
  have hb2 : Below v1.heap.size v1 v2 := by rw [← hv2]; exact (Below.refl _ _).alloc (Nat.le_refl _) _
  have S2 := Lib.hid (S1.out.below hb2)
  have hcl : v2.heap[P]? = some (.cells #[.func (.func 28) #[] #[.pointer (some ⟨w.heap.size, 0, none⟩), .pointer (some ⟨w.heap.size + 1, 0, none⟩), .pointer (some ⟨w.heap.size + 1 + 1, 0, none⟩)]] 41 (0, 0)) := by rw [← hv2, ← hPs]; exact heap_alloc_new v1 _
  have HCL := Lib.hid hcl
  clear hb2 hcl
  have t5b := one_cell S2.out.ub
  go_wp2_with fail
  clear hv2 hPs t0 t1 t2 t3 t4 t5 S1
  refine (clamp_any (u - 1000000000000) (-8000000000000000000) 8000000000000000000 _).mono ?_
  rintro e w' ⟨rfl, rfl⟩
  rw [HM.out]
  obtain ⟨Q, hQs⟩ : ∃ P, v2.heap.size = P := ⟨_, rfl⟩
  obtain ⟨v3, hv3⟩ : ∃ v, v2.alloc (.cells #[.int .i64 m] 3) = v := ⟨_, rfl⟩
  have hb3 : Below v2.heap.size v2 v3 := by rw [← hv3]; exact (Below.refl _ _).alloc (Nat.le_refl _) _
  have S3 : Hid (TQ w v3 w.heap.size (w.heap.size + 1) (w.heap.size + 1 + 1) P Q B E a n c f K W u m) := Lib.hid ⟨S2.out.below hb3, (hb3.block P (blt HCL.out)).trans HCL.out, by rw [← hv3, ← hQs]; exact heap_alloc_new v2 _⟩
  obtain ⟨t0, t1, t2, t3, t4, t5⟩ := S3.out.ts.cells
  clear hb3 HCL
  go_wp2_with fail
  clear hv3 hQs t5b S2
  refine (clamp_any (u + 1000000000000) (-8000000000000000000) 8000000000000000000 _).mono ?_
  rintro e w' ⟨rfl, rfl⟩
  rw [show clampI (u + 1000000000000) (-8000000000000000000) 8000000000000000000 = l0 from HL0.out]
  go_wp2_with fail
  clear t0 t1 t2 t3 t4 t5
  go_loopw [11, 36] (fun x iv wr => ∃ (j : Nat) (l : Int), j ≤ n ∧ iv = .int .i64 j ∧ x = .int .i64 l ∧ Hid (cut B f n K W u j = l) ∧ Hid (TQ w wr w.heap.size (w.heap.size + 1) (w.heap.size + 1 + 1) P Q B E a n c f K W u m)) (fun _ iv _ => n - (intOf iv).toNat)
  case atStart => exact ⟨0, l0, by omega, rfl, rfl, HL0, S3⟩
  case round =>
    clear S3
    obtain ⟨j, l, hj, rfl, rfl, HL, S4⟩ := hrel
    have lb := HCUT.out j hj
    rw [HL.out] at lb
    obtain ⟨lb0, lb1⟩ := lb
    have lsp := HSP.out j
    rw [HL.out] at lsp
    by_cases hlt : j < n
    · have hji : (j : Int) < n := by omega
      obtain ⟨b, off, rfl, hbl, hcell⟩ := S4.out.ts.bs.lrd (by omega)
      obtain ⟨e0, e1⟩ := hcell j hlt
      obtain ⟨⟨y0, y1⟩, ⟨x0, x1⟩⟩ := HV.out.rng.2.2 j hlt
      have ch := chg_in HV.out hlt
      obtain ⟨x, hx⟩ : ∃ x, (f j).1 = x := ⟨_, rfl⟩
      obtain ⟨y, hy⟩ : ∃ y, (f j).2 = y := ⟨_, rfl⟩
      rw [hx] at e0 x0 x1
      rw [hy] at e1 y0 y1
      obtain ⟨p, hp⟩ : ∃ p, (x + y) * 1000000000 = p := ⟨_, rfl⟩
      have HC := Lib.hid (show chg f j = p by unfold chg; rw [hx, hy, hp])
      rw [HC.out] at ch
      obtain ⟨ch0, ch1⟩ := ch
      have HPE := Lib.hid hp
      obtain ⟨g, hg⟩ : ∃ g, wr.heap.size = g := ⟨_, rfl⟩
      obtain ⟨V, hV⟩ : ∃ V, wr.alloc (.cells #[.int .i64 x, .int .i64 y] 40) = V := ⟨_, rfl⟩
      have hbV : Below wr.heap.size wr V := by rw [← hV]; exact (Below.refl _ _).alloc (Nat.le_refl _) _
      have HPV := Lib.hid (show PBx V g x y by rw [← hV, ← hg]; exact pbx_new wr x y)
      have S5 := Lib.hid (S4.out.below hbV)
      obtain ⟨p0, p1, _, _⟩ := HPV.out.cells
      obtain ⟨t0, t1, t2, t3, t4, t5⟩ := S4.out.ts.cells
      have HNX : Hid (cut B f n K W u (j + 1) = if p - 1 < l ∧ rch B f n K W u (p - 1) = true then p - 1 else l) := Lib.hid (by
        show (if chg f j - 1 < cut B f n K W u j ∧ rch B f n K W u (chg f j - 1) = true then chg f j - 1 else cut B f n K W u j) = _
        rw [HC.out, HL.out])
      clear hx hy hp hcell hbV
      go_wp2_with fail
      clear hV hg e0 e1 p0 p1 t0 t1 t2 t3 t4 t5 S4
      refine (chgof_any x y V ⟨x0, x1⟩ ⟨y0, y1⟩).mono ?_
      rintro e v6 ⟨rfl, hb⟩
      rw [HPE.out]
      have S6 := Lib.hid (S5.out.below hb)
      clear hb S5
      have c0 := one_cell S6.out.cl
      by_cases hlt2 : p - 1 < l
      · have hd2 : decide (p - 1 < l) = true := decide_eq_true hlt2
        cases hg : rch B f n K W u (p - 1)
        · have HG := Lib.hid hg
          clear hg
          have HN2 : Hid (cut B f n K W u (j + 1) = l) := Lib.hid (by rw [HNX.out, if_neg (fun k => by rw [HG.out] at k; cases k.2)])
          go_wp2_with fail
          refine (tai1_any w.heap.size (w.heap.size + 1) (w.heap.size + 1 + 1) B E (some ⟨b, off, none⟩) n c f K W u (p - 1) _ S6.out.ts.re HV.out HP.out (by omega) (by omega)).mono ?_
          rintro e v7 ⟨rfl, hb⟩
          rw [HG.out]
          have S7 := Lib.hid (S6.out.below hb)
          clear hb S6 c0
          go_wp2_with fail
          go_roundw
          case rel => exact ⟨j + 1, l, by omega, by go_num, rfl, HN2, S7⟩
          case measure => simp [intOf]; omega
        · have HG := Lib.hid hg
          clear hg
          have HN2 : Hid (cut B f n K W u (j + 1) = p - 1) := Lib.hid (by rw [HNX.out, if_pos ⟨hlt2, HG.out⟩])
          go_wp2_with fail
          refine (tai1_any w.heap.size (w.heap.size + 1) (w.heap.size + 1 + 1) B E (some ⟨b, off, none⟩) n c f K W u (p - 1) _ S6.out.ts.re HV.out HP.out (by omega) (by omega)).mono ?_
          rintro e v7 ⟨rfl, hb⟩
          rw [HG.out]
          have S7 := Lib.hid (S6.out.below hb)
          clear hb S6 c0
          go_wp2_with fail
          go_roundw
          case rel => exact ⟨j + 1, p - 1, by omega, by go_num, rfl, HN2, S7⟩
          case measure => simp [intOf]; omega
      · have hd2 : decide (p - 1 < l) = false := decide_eq_false hlt2
        have HN2 : Hid (cut B f n K W u (j + 1) = l) := Lib.hid (by rw [HNX.out, if_neg (fun k => hlt2 k.1)])
        go_wp2_with fail
        go_roundw
        case rel => exact ⟨j + 1, l, by omega, by go_num, rfl, HN2, S6⟩
        case measure => simp [intOf]; omega
    · obtain rfl : j = n := by omega
      have q0 := one_cell S4.out.fi
      have HK : Hid (cut B f j K W u j - fstT u + 1 = l - m + 1) := Lib.hid (by rw [HL.out, HMM.out])
      go_wp2_with fail
      refine (search_any w.heap.size (w.heap.size + 1) (w.heap.size + 1 + 1) P Q B E a j c f K W u m (l - m + 1) _ S4.out.re HV.out HP.out (by omega) (by omega) (by omega) (by omega)).mono ?_
      rintro e v5 ⟨r, rfl, hf, hb⟩
      have S5 := Lib.hid (S4.out.below hb)
      have rb0 := hf.1
      have rb1 := hf.2.1
      have HF := Lib.hid (show Fnd (fun i => rch B f j K W u (fstT u + i)) (cut B f j K W u j - fstT u + 1) r by rw [HK.out, HMM.out]; exact hf)
      clear hb S4 q0 hf
      have q0 := one_cell S5.out.fi
      by_cases hr : r = l - m + 1
      · have hrb : (r == l - m + 1) = true := by simpa using hr
        have HE : Hid (TaiR B E f j K W u 0 3) := Lib.hid (.inr (.inr ⟨HY.out, H2.out, r, HF.out, .inl ⟨hr.trans HK.out.symm, rfl, rfl⟩⟩))
        clear hr
        go_wp2_with fail
        go_ret2
        exact ⟨_, _, rfl, HE.out, S5.out.ts.bs.bel⟩
      · have hrb : (r == l - m + 1) = false := by simpa using hr
        have HE : Hid (TaiR B E f j K W u (m + r) 0) := Lib.hid (.inr (.inr ⟨HY.out, H2.out, r, HF.out, .inr ⟨fun k => hr (k.trans HK.out), by rw [HMM.out], rfl⟩⟩))
        clear hr
        go_wp2_with fail
        go_ret2
        exact ⟨_, _, rfl, HE.out, S5.out.ts.bs.bel⟩

theorem stai_any (B E : Int) (a : Option Addr) (n c : Nat) (f : Nat → Int × Int) (K W u : Int) (w : World) (ht : MT w) (hr : LRd w w.heap.size a n f) (u0 : -9223372036854775808 ≤ u) (u1 : u ≤ 9223372036854775807) :
    Calls Tryd.prog 16 #[.agg #[.int .i64 B, .int .i64 E, .slice a n c], .agg #[.int .i64 K, .int .i64 W], .int .i64 u] w fun e w' => ∃ X e0, e = .returned (.tuple #[.int .i64 X, .int .i64 e0]) ∧ TaiR B E f n K W u X e0 ∧ Below w.heap.size w w' := by
  by_cases h : chkS B E f n K W = 0
  · cases h2 : isT u
    · exact stai_time B E a n c f K W u w ht hr u0 u1 h h2
    · exact stai_ok B E a n c f K W u w ht hr u0 u1 h h2
  · exact stai_bad B E a n c f K W u w ht hr u0 u1 h
end Go.Proofs.YtghaboanakecjaaDoor
