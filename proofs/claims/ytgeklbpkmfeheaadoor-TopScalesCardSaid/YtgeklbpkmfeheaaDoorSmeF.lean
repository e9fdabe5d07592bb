/- Contracts of layer 7: Tai of the program. -/
import Derived.Test.YtgeklbpkmfeheaaDoorSmeE
namespace Go.Proofs.YtgeklbpkmfeheaaDoor
open Go.RowKit Fx Cv Lp Sm

/-- A reading is near its instant. -/
theorem Sm.rdg_near {B E : Int} {f : Nat → Int × Int} {n : Nat} {K W : Int} (hv : Val B E f n) (hP : Pol K W) (t : Int) : t - 1000000000000 ≤ rdg B f n K W t ∧ rdg B f n K W t ≤ t + 1000000000000 := by
  obtain ⟨hk, _, _⟩ := psW_spec f n K W t
  obtain ⟨⟨o0, o1⟩, h⟩ := place_in (t := t) hv hP
  unfold rdg
  rcases h with ⟨hc, _, _⟩ | ⟨hc, s0, s1, hW, hin⟩
  · rw [if_pos hc]; omega
  · have hkn : psW f n K W t < n := by
      unfold inW at hin
      simp only [Bool.and_eq_true, decide_eq_true_eq] at hin
      exact hin.1
    have hb := hv.bnd hkn
    have hcd : plC B f n K W t = (f (psW f n K W t)).2 - offA B f (psW f n K W t) := by unfold plC; rw [if_pos hin]
    have hod : plO B f n K W t = offA B f (psW f n K W t) := rfl
    rw [if_neg (by omega)]
    generalize plS f n K W t = s at *
    rcases hc with h1 | h1
    · rw [h1, Int.one_mul]
      have e0 := Int.ediv_nonneg s0 (show 0 ≤ W by omega)
      have e1 : s / W < 1000000000 := Int.ediv_lt_of_lt_mul (by omega) (by rw [Int.mul_comm]; exact s1)
      omega
    · rw [h1]
      have e0 : -1000000000 ≤ -1 * s / W := by
        rw [Int.le_ediv_iff_mul_le (by omega)]
        have : -1000000000 * W = -(W * 1000000000) := by rw [Int.mul_comm W]; omega
        omega
      have e1 : -1 * s / W ≤ 0 := by
        have := Int.ediv_le_ediv (show 0 < W by omega) (show -1 * s ≤ 0 by omega)
        rwa [Int.zero_ediv] at this
      omega
def Sm.fstT (u : Int) : Int := clampI (u - 1000000000000) (-8000000000000000000) 8000000000000000000
def Sm.lstT (u : Int) : Int := clampI (u + 1000000000000) (-8000000000000000000) 8000000000000000000
/-- The end of the search behind j entries. -/
def Sm.cut (B : Int) (f : Nat → Int × Int) (n : Nat) (K W u : Int) : Nat → Int
  | 0 => lstT u
  | j + 1 => if chg f j - 1 < cut B f n K W u j ∧ rch B f n K W u (chg f j - 1) = true then chg f j - 1 else cut B f n K W u j
theorem Sm.clampI_eq (x : Int) : (clampI x (-8000000000000000000) 8000000000000000000 = x ∧ -8000000000000000000 ≤ x ∧ x ≤ 8000000000000000000) ∨ (clampI x (-8000000000000000000) 8000000000000000000 = -8000000000000000000 ∧ x < -8000000000000000000) ∨ (clampI x (-8000000000000000000) 8000000000000000000 = 8000000000000000000 ∧ 8000000000000000000 < x) := by
  unfold clampI
  split
  · omega
  · split <;> omega
theorem Sm.cut_in {B E : Int} {f : Nat → Int × Int} {n : Nat} {K W u : Int} (hv : Val B E f n) (hP : Pol K W) (hu : isT u = true) : ∀ j, j ≤ n → fstT u ≤ cut B f n K W u j ∧ cut B f n K W u j ≤ 8000000000000000000 := by
  have hub : -8000000000000000000 ≤ u ∧ u ≤ 8000000000000000000 := of_decide_eq_true hu
  intro j
  induction j with
  | zero =>
    intro _
    have h1 := clampI_eq (u - 1000000000000)
    have h2 := clampI_eq (u + 1000000000000)
    unfold cut lstT fstT
    omega
  | succ j ih =>
    intro hj
    have h := ih (by omega)
    unfold cut
    by_cases c : chg f j - 1 < cut B f n K W u j ∧ rch B f n K W u (chg f j - 1) = true
    · rw [if_pos c]
      have h1 := clampI_eq (u - 1000000000000)
      have h2 := (rdg_near hv hP (chg f j - 1)).2
      have h3 : u ≤ rdg B f n K W (chg f j - 1) := of_decide_eq_true c.2
      have h4 := (chg_in hv (show j < n by omega)).1
      have h5 := c.1
      refine ⟨?_, by omega⟩
      unfold fstT
      omega
    · rw [if_neg c]; exact h
theorem Sm.cut_le {B : Int} {f : Nat → Int × Int} {n : Nat} {K W u : Int} : ∀ j, cut B f n K W u j ≤ lstT u := by
  intro j
  induction j with
  | zero => exact Int.le_refl _
  | succ j ih =>
    unfold cut
    by_cases c : chg f j - 1 < cut B f n K W u j ∧ rch B f n K W u (chg f j - 1) = true
    · rw [if_pos c]; have := c.1; omega
    · rw [if_neg c]; exact ih
theorem Sm.span (u : Int) : lstT u - fstT u ≤ 2000000000000 := by
  have h1 := clampI_eq (u - 1000000000000)
  have h2 := clampI_eq (u + 1000000000000)
  unfold lstT fstT
  omega
/-- What Tai returns. -/
def Sm.TaiR (B E : Int) (f : Nat → Int × Int) (n : Nat) (K W u X e : Int) : Prop :=
  (chkS B E f n K W ≠ 0 ∧ X = 0 ∧ e = chkS B E f n K W) ∨ (chkS B E f n K W = 0 ∧ isT u = false ∧ X = 0 ∧ e = 3) ∨
  (chkS B E f n K W = 0 ∧ isT u = true ∧ ∃ r, Fnd (fun i => rch B f n K W u (fstT u + i)) (cut B f n K W u n - fstT u + 1) r ∧ ((r = cut B f n K W u n - fstT u + 1 ∧ X = 0 ∧ e = 3) ∨ (r ≠ cut B f n K W u n - fstT u + 1 ∧ X = fstT u + r ∧ e = 0)))
theorem Sm.ts_new (w : World) (B E : Int) (a : Option Addr) (n c : Nat) (f : Nat → Int × Int) (K W u : Int) (hr : LRd w w.heap.size a n f) :
    TS w (((w.alloc (.cells #[.int .i64 B, .int .i64 E, .slice a n c] 24)).alloc (.cells #[.int .i64 K, .int .i64 W] 26)).alloc (.cells #[.int .i64 u] 3)) w.heap.size (w.heap.size + 1) (w.heap.size + 1 + 1) B E a n c f K W u := by
  have h := bs_new w B E a n c f K W hr
  obtain ⟨V, hV⟩ : ∃ V, (w.alloc (.cells #[.int .i64 B, .int .i64 E, .slice a n c] 24)).alloc (.cells #[.int .i64 K, .int .i64 W] 26) = V := ⟨_, rfl⟩
  have hs : V.heap.size = w.heap.size + 1 + 1 := by rw [← hV]; simp
  rw [hV] at h ⊢
  refine ⟨h.below ((Below.refl _ _).alloc (Nat.le_refl _) _), ?_⟩
  rw [← hs]
  exact heap_alloc_new V _
theorem Sm.fnd_v {B E : Int} {f : Nat → Int × Int} {n : Nat} {K W u : Int} (h : chkS B E f n K W = 0) (h2 : isT u = true) {r : Int} (h3 : Fnd (fun i => rch B f n K W u (fstT u + i)) (cut B f n K W u n - fstT u + 1) r) (h4 : r = cut B f n K W u n - fstT u + 1) : TaiR B E f n K W u 0 3 := .inr (.inr ⟨h, h2, r, h3, .inl ⟨h4, rfl, rfl⟩⟩)

end Go.Proofs.YtgeklbpkmfeheaaDoor
