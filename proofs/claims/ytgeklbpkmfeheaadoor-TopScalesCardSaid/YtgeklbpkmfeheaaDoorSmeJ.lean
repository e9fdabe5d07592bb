/- Windows do not overlap; where an instant stands. -/
import Derived.Test.YtgeklbpkmfeheaaDoorSmeI
namespace Go.Proofs.YtgeklbpkmfeheaaDoor
open Go.RowKit Fx Cv Lp Sm

theorem Lp.beg_gap {a b : Int} (ha : Lp.beg a = true) (hb : Lp.beg b = true) (h : a < b) : a + 2419200 ≤ b := by
  have da := beg_day ha
  have db := beg_day hb
  unfold Lp.beg oD at ha hb
  simp only [Bool.and_eq_true, decide_eq_true_eq] at ha hb
  have ca := ha.2.1
  have cb := hb.2.1
  clear ha hb
  obtain ⟨p, hp⟩ : ∃ p, a / 86400 = p := ⟨_, rfl⟩
  obtain ⟨q, hq⟩ : ∃ q, b / 86400 = q := ⟨_, rfl⟩
  rw [hp] at ca
  rw [hq] at cb
  obtain ⟨⟨m1, m12, d1, dm⟩, hn⟩ := civ_dat p
  rw [ca] at hn
  have b := md_bound (y := cy p) m1 m12
  by_cases hk : q < p + 28
  · have hd : Dat (cy p) (cm p) (q - p + 1) := ⟨m1, m12, by omega, by omega⟩
    have e : num (cy p) (cm p) (q - p + 1) = q := by simp only [num] at hn ⊢; omega
    have := civ_num hd
    rw [e] at this
    omega
  · omega
theorem Sm.fs_next {B E : Int} {f : Nat → Int × Int} {n : Nat} {K W : Int} (hv : Val B E f n) (hP : Pol K W) {i : Nat} (h : i + 1 < n) : enI f K W i ≤ fsI f K W (i + 1) := by
  have g := beg_gap (hv.beg i (by omega)) (hv.beg (i + 1) h) (hv.ord i h)
  have s := hv.stp (i + 1) h
  rw [offA_succ] at s
  have w1 := hP.w1
  unfold enI fsI chg
  omega
theorem Sm.fs_far {B E : Int} {f : Nat → Int × Int} {n : Nat} {K W : Int} (hv : Val B E f n) (hP : Pol K W) : ∀ m i, i + m + 1 < n → enI f K W i ≤ fsI f K W (i + m + 1) := by
  intro m
  induction m with
  | zero => intro i h; exact fs_next hv hP h
  | succ k ih =>
    intro i h
    have a := ih i (by omega)
    have b := fs_next hv hP (i := i + k + 1) (by omega)
    have w0 := hP.w0
    rw [fs_en f K W (i + k + 1)] at b
    rw [show i + (k + 1) + 1 = i + k + 1 + 1 by omega]
    omega
theorem Sm.fs_lt {B E : Int} {f : Nat → Int × Int} {n : Nat} {K W : Int} (hv : Val B E f n) (hP : Pol K W) {i j : Nat} (h : i < j) (hj : j < n) : enI f K W i ≤ fsI f K W j := by
  have := fs_far hv hP (j - i - 1) i (by omega)
  rwa [show i + (j - i - 1) + 1 = j by omega] at this
/-- How many windows have begun. -/
def Sm.pb (f : Nat → Int × Int) (n : Nat) (K W t : Int) : Nat := if inW f n K W t = true then psW f n K W t + 1 else psW f n K W t
theorem Sm.pb_le (f : Nat → Int × Int) (n : Nat) (K W t : Int) : pb f n K W t ≤ n := by
  have h := (psW_spec f n K W t).1
  unfold pb
  by_cases c : inW f n K W t = true
  · rw [if_pos c]
    unfold inW at c
    simp only [Bool.and_eq_true, decide_eq_true_eq] at c
    omega
  · rw [if_neg c]; exact h
theorem Sm.pb_iff {B E : Int} {f : Nat → Int × Int} {n : Nat} {K W t : Int} (hv : Val B E f n) (hP : Pol K W) {i : Nat} (hi : i < n) : fsI f K W i ≤ t ↔ i < pb f n K W t := by
  obtain ⟨h0, h1, h2⟩ := psW_spec f n K W t
  have w0 := hP.w0
  rcases Nat.lt_trichotomy i (psW f n K W t) with h | h | h
  · have a := h1 i h
    rw [fs_en] at a
    refine ⟨fun _ => ?_, fun _ => by omega⟩
    unfold pb; split <;> omega
  · subst h
    unfold pb inW
    rw [decide_eq_true hi, Bool.true_and]
    by_cases c : fsI f K W (psW f n K W t) ≤ t
    · rw [decide_eq_true c, if_pos rfl]; exact ⟨fun _ => by omega, fun _ => c⟩
    · rw [decide_eq_false c, if_neg (by decide)]; exact ⟨fun k => absurd k c, fun k => by omega⟩
  · have a := fs_lt hv hP h hi
    have b := h2 (by omega)
    refine ⟨fun _ => by omega, fun k => ?_⟩
    unfold pb at k
    split at k <;> omega
/-- What is gone of the window, out of the number of windows that have begun. -/
theorem Sm.gone_in {B E : Int} {f : Nat → Int × Int} {n : Nat} {K W t : Int} (hP : Pol K W) {k : Nat} (hk : pb f n K W t = k + 1) (hn : k + 1 ≤ n) :
    (fsI f K W k ≤ t - W * 1000000000 → inW f n K W t = false ∧ plS f n K W t = 0) ∧ (¬ fsI f K W k ≤ t - W * 1000000000 → inW f n K W t = true ∧ plS f n K W t = t - fsI f K W k ∧ psW f n K W t = k ∧ fsI f K W k ≤ t) := by
  obtain ⟨h0, h1, h2⟩ := psW_spec f n K W t
  unfold pb at hk
  by_cases c : inW f n K W t = true
  · rw [if_pos c] at hk
    have e : psW f n K W t = k := by omega
    have b := h2 (by omega)
    rw [e, fs_en] at b
    have cc := c
    unfold inW at cc
    simp only [Bool.and_eq_true, decide_eq_true_eq] at cc
    rw [e] at cc
    refine ⟨fun h => by omega, fun _ => ⟨c, ?_, e, cc.2⟩⟩
    unfold plS; rw [if_pos c, e]
  · rw [if_neg c] at hk
    have a := h1 k (by omega)
    rw [fs_en] at a
    refine ⟨fun _ => ⟨by simpa using c, ?_⟩, fun h => by omega⟩
    unfold plS; rw [if_neg c]
theorem Sm.gone_zero {f : Nat → Int × Int} {n : Nat} {K W t : Int} (hk : pb f n K W t = 0) : inW f n K W t = false ∧ plS f n K W t = 0 := by
  unfold pb at hk
  by_cases c : inW f n K W t = true
  · rw [if_pos c] at hk; omega
  · refine ⟨by simpa using c, ?_⟩
    unfold plS; rw [if_neg c]
/-- A reading, out of the number of windows that have begun. -/
theorem Sm.rdg_out {B : Int} {f : Nat → Int × Int} {n : Nat} {K W t : Int} (h : inW f n K W t = false) : rdg B f n K W t = t - offA B f (pb f n K W t) * 1000000000 ∧ plC B f n K W t = 0 := by
  have e : pb f n K W t = psW f n K W t := by unfold pb; rw [h, if_neg (by decide)]
  have c : plC B f n K W t = 0 := by unfold plC; rw [h, if_neg (by decide)]
  refine ⟨?_, c⟩
  unfold rdg plO
  rw [c, if_pos rfl, e]; omega
theorem Sm.rdg_mid {B E : Int} {f : Nat → Int × Int} {n : Nat} {K W t : Int} (hv : Val B E f n) (h : inW f n K W t = true) : ∃ k, k < n ∧ pb f n K W t = k + 1 ∧ plC B f n K W t = offA B f (k + 1) - offA B f k ∧ (offA B f (k + 1) - offA B f k = 1 ∨ offA B f (k + 1) - offA B f k = -1) ∧
    rdg B f n K W t = t - offA B f k * 1000000000 - (offA B f (k + 1) - offA B f k) * plS f n K W t / W := by
  have hin := h
  unfold inW at h
  simp only [Bool.and_eq_true, decide_eq_true_eq] at h
  obtain ⟨hk, _⟩ := h
  have c : plC B f n K W t = offA B f (psW f n K W t + 1) - offA B f (psW f n K W t) := by unfold plC; rw [hin, if_pos rfl]; rfl
  have s := hv.stp _ hk
  refine ⟨psW f n K W t, hk, by unfold pb; rw [hin, if_pos rfl], c, s, ?_⟩
  have nz : ¬ plC B f n K W t = 0 := by rw [c, offA_succ]; omega
  unfold rdg
  rw [if_neg nz, c]
  unfold plO
  rfl
end Go.Proofs.YtgeklbpkmfeheaaDoor
