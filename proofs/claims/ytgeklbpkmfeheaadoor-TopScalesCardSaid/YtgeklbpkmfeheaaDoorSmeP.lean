/- Readings rise, and by no more than twice the time between; readings of both kinds. -/
import Derived.Test.YtgeklbpkmfeheaaDoorSmeL
namespace Go.Proofs.YtgeklbpkmfeheaaDoor
open Go.RowKit Fx Cv Lp Sm

/-- What is gone of a window, from 0 to its length. -/
def Sm.gon (f : Nat → Int × Int) (K W t : Int) (k : Nat) : Int := if t < fsI f K W k then 0 else t - fsI f K W k
theorem Sm.rdg_at {B E : Int} {f : Nat → Int × Int} {n : Nat} {K W t : Int} {k : Nat} (hv : Val B E f n) (hP : Pol K W) (hK : K ≠ 1) (hk : k < n) (h1 : ∀ i, i < k → enI f K W i ≤ t) (h2 : t ≤ enI f K W k) :
    rdg B f n K W t = t - offA B f k * 1000000000 - (offA B f (k + 1) - offA B f k) * gon f K W t k / W := by
  have w2 := hP.sm hK
  have en := fs_en f K W k
  rcases (show t < enI f K W k ∨ t = enI f K W k by omega) with h | h
  · have hp : psW f n K W t = k := psW_eq (by omega) h1 (fun _ => h)
    by_cases c : fsI f K W k ≤ t
    · have hi : inW f n K W t = true := by unfold inW; rw [hp, decide_eq_true hk, decide_eq_true c]; rfl
      have hc : plC B f n K W t = offA B f (k + 1) - offA B f k := by unfold plC; rw [hi, if_pos rfl, hp]; rfl
      have hs := hv.stp k hk
      have nz : ¬ plC B f n K W t = 0 := by rw [hc, offA_succ]; omega
      have hS : plS f n K W t = t - fsI f K W k := by unfold plS; rw [hi, if_pos rfl, hp]
      unfold rdg
      rw [if_neg nz, hc, hS]
      unfold plO gon
      rw [hp, if_neg (by omega)]
    · have hi : inW f n K W t = false := by unfold inW; rw [hp, decide_eq_false c, Bool.and_false]
      obtain ⟨hr, _⟩ := rdg_out (B := B) hi
      have e : pb f n K W t = k := by unfold pb; rw [hi, if_neg (by decide), hp]
      rw [hr, e]
      unfold gon
      rw [if_pos (by omega), Int.mul_zero, Int.zero_ediv]; omega
  · have hg : (offA B f (k + 1) - offA B f k) * gon f K W t k / W = (offA B f (k + 1) - offA B f k) * 1000000000 := by
      unfold gon
      rw [if_neg (by omega), show t - fsI f K W k = 1000000000 * W by omega, ← Int.mul_assoc, Int.mul_ediv_cancel _ (by omega)]
    rw [hg]
    have h1' : ∀ i, i < k + 1 → enI f K W i ≤ t := fun i hi => by
      rcases (show i < k ∨ i = k by omega) with a | rfl
      · exact h1 i a
      · omega
    have hp : psW f n K W t = k + 1 := psW_eq (by omega) h1' (fun h3 => by
      have a := fs_lt hv hP (i := k) (j := k + 1) (by omega) h3
      have b := fs_en f K W (k + 1)
      omega)
    cases hi : inW f n K W t
    · obtain ⟨hr, _⟩ := rdg_out (B := B) hi
      have e : pb f n K W t = k + 1 := by unfold pb; rw [hi, if_neg (by decide), hp]
      rw [hr, e]; omega
    · obtain ⟨m, hm, e, _, _, hr⟩ := rdg_mid hv hi
      have e2 : pb f n K W t = k + 2 := by unfold pb; rw [hi, if_pos rfl, hp]
      have hmk : m = k + 1 := by omega
      subst hmk
      have hS : plS f n K W t = t - fsI f K W (k + 1) := by unfold plS; rw [hi, if_pos rfl, hp]
      have a := fs_lt hv hP (i := k) (j := k + 1) (by omega) hm
      have b := (place_in (B := B) (E := E) (t := t) hv hP).2
      rw [hi] at b
      have b2 := (b.resolve_left (fun h => by have := h.2.2; cases this)).2.1
      have hz : plS f n K W t = 0 := by omega
      rw [hr, hz, Int.mul_zero, Int.zero_ediv]; omega
theorem Sm.rdg_end {B E : Int} {f : Nat → Int × Int} {n : Nat} {K W t : Int} (hv : Val B E f n) (h1 : ∀ i, i < n → enI f K W i ≤ t) :
    rdg B f n K W t = t - offA B f n * 1000000000 := by
  have hp : psW f n K W t = n := psW_eq (Nat.le_refl n) h1 (fun h => by omega)
  have hi : inW f n K W t = false := by unfold inW; rw [hp, decide_eq_false (by omega), Bool.false_and]
  obtain ⟨hr, _⟩ := rdg_out (B := B) hi
  have e : pb f n K W t = n := by unfold pb; rw [hi, if_neg (by decide), hp]
  have := hv.le
  rw [hr, e]
theorem Sm.div_step {a b W : Int} (hW : 0 < W) (h1 : a ≤ b) (h2 : b ≤ a + W) : a / W ≤ b / W ∧ b / W ≤ a / W + 1 := by
  refine ⟨Int.ediv_le_ediv hW h1, ?_⟩
  have h := Int.ediv_le_ediv hW h2
  rwa [show a + W = a + 1 * W by omega, Int.add_mul_ediv_right _ _ (by omega)] at h
theorem Sm.rdg_step {B E : Int} {f : Nat → Int × Int} {n : Nat} {K W : Int} (hv : Val B E f n) (hP : Pol K W) (hK : K ≠ 1) (t : Int) :
    rdg B f n K W t ≤ rdg B f n K W (t + 1) ∧ rdg B f n K W (t + 1) ≤ rdg B f n K W t + 2 := by
  obtain ⟨h0, h1, h2⟩ := psW_spec f n K W t
  have w2 := hP.sm hK
  obtain ⟨k, hk⟩ : ∃ k, psW f n K W t = k := ⟨_, rfl⟩
  rw [hk] at h0 h1 h2
  rcases Nat.lt_or_ge k n with hl | hg
  · have a := rdg_at hv hP hK hl h1 (by have := h2 hl; omega)
    have b := rdg_at (t := t + 1) hv hP hK hl (fun i hi => by have := h1 i hi; omega) (by have := h2 hl; omega)
    have hs := hv.stp k hl
    rw [← offA_succ B f k] at hs
    obtain ⟨c, hc⟩ : ∃ c, offA B f (k + 1) - offA B f k = c := ⟨_, rfl⟩
    rw [hc] at a b hs
    have g : gon f K W t k ≤ gon f K W (t + 1) k ∧ gon f K W (t + 1) k ≤ gon f K W t k + 1 := by
      unfold gon
      split <;> split <;> omega
    obtain ⟨p, hp⟩ : ∃ p, gon f K W t k = p := ⟨_, rfl⟩
    obtain ⟨q, hq⟩ : ∃ q, gon f K W (t + 1) k = q := ⟨_, rfl⟩
    rw [hp] at a g
    rw [hq] at b g
    rw [a, b]
    rcases hs with rfl | rfl
    · have d := div_step (a := 1 * p) (b := 1 * q) (W := W) (by omega) (by omega) (by omega)
      omega
    · have d := div_step (a := -1 * q) (b := -1 * p) (W := W) (by omega) (by omega) (by omega)
      omega
  · obtain rfl : k = n := by omega
    rw [rdg_end hv h1, rdg_end (t := t + 1) hv (fun i hi => by have := h1 i hi; omega)]
    omega
theorem Sm.rdg_more {B E : Int} {f : Nat → Int × Int} {n : Nat} {K W : Int} (hv : Val B E f n) (hP : Pol K W) (hK : K ≠ 1) (t : Int) (d : Nat) :
    rdg B f n K W t ≤ rdg B f n K W (t + d) ∧ rdg B f n K W (t + d) ≤ rdg B f n K W t + 2 * d := by
  induction d with
  | zero => simp
  | succ m ih =>
    have s := rdg_step hv hP hK (t + m)
    rw [show t + ((m + 1 : Nat) : Int) = t + m + 1 by omega]
    omega
theorem Sm.rdg_mono {B E : Int} {f : Nat → Int × Int} {n : Nat} {K W t u : Int} (hv : Val B E f n) (hP : Pol K W) (hK : K ≠ 1) (h : t ≤ u) :
    rdg B f n K W t ≤ rdg B f n K W u ∧ rdg B f n K W u ≤ rdg B f n K W t + 2 * (u - t) := by
  have := rdg_more hv hP hK t (u - t).toNat
  rw [show t + ((u - t).toNat : Int) = u by omega] at this
  omega
/-- The change lies in its window. -/
theorem Sm.chg_mid (f : Nat → Int × Int) {K W : Int} (hP : Pol K W) (i : Nat) : fsI f K W i ≤ fsI f 1 0 i ∧ fsI f 1 0 i ≤ enI f K W i := by
  have w0 := hP.w0
  have e : fsI f 1 0 i = chg f i := by unfold fsI sft; rw [if_neg (by decide), if_neg (by decide)]; omega
  rw [e]
  unfold enI fsI sft
  split
  · omega
  · split <;> omega
theorem Sm.pol_one : Pol 1 0 := pol_of rfl
theorem Sm.en_one (f : Nat → Int × Int) (i : Nat) : enI f 1 0 i = fsI f 1 0 i := by rw [fs_en]; omega
/-- The reading of a policy with windows beside that of steps. -/
theorem Sm.joins {B E : Int} {f : Nat → Int × Int} {n : Nat} {K W : Int} (hv : Val B E f n) (hP : Pol K W) (hK : K ≠ 1) (t : Int) :
    (inW f n K W t = false → rdg B f n K W t = rdg B f n 1 0 t) ∧ -1000000000 ≤ rdg B f n K W t - rdg B f n 1 0 t ∧ rdg B f n K W t - rdg B f n 1 0 t ≤ 1000000000 := by
  obtain ⟨h0, h1, h2⟩ := psW_spec f n K W t
  have w2 := hP.sm hK
  have one : ∀ k, psW f n 1 0 t = k → k ≤ n → rdg B f n 1 0 t = t - offA B f k * 1000000000 := fun k hk hkn => by
    have hi : inW f n 1 0 t = false := by
      cases h : inW f n 1 0 t
      · rfl
      · have b := (place_in (B := B) (E := E) (t := t) hv pol_one).2
        rw [h] at b
        have := (b.resolve_left (fun h => by have := h.2.2; cases this)).2.2.2.1
        omega
    obtain ⟨hr, _⟩ := rdg_out (B := B) hi
    have e : pb f n 1 0 t = k := by unfold pb; rw [hi, if_neg (by decide), hk]
    rw [hr, e]
  obtain ⟨k, hk⟩ : ∃ k, psW f n K W t = k := ⟨_, rfl⟩
  rw [hk] at h0 h1 h2
  have l1 : ∀ i, i < k → enI f 1 0 i ≤ t := fun i hi => by
    have := h1 i hi
    have := (chg_mid f hP i).2
    rw [en_one]; omega
  cases hi : inW f n K W t
  · have e1 : psW f n 1 0 t = k := psW_eq h0 l1 (fun hl => by
      have c : ¬ fsI f K W k ≤ t := fun c => by
        unfold inW at hi
        rw [hk, decide_eq_true hl, decide_eq_true c] at hi
        cases hi
      have := (chg_mid f hP k).1
      rw [en_one]; omega)
    obtain ⟨hr, _⟩ := rdg_out (B := B) hi
    have e : pb f n K W t = k := by unfold pb; rw [hi, if_neg (by decide), hk]
    have a := one k e1 h0
    rw [hr, e, a]
    refine ⟨fun _ => rfl, by omega, by omega⟩
  · refine ⟨fun h => absurd h (by decide), ?_⟩
    obtain ⟨m, hm, e, _, hs, hr⟩ := rdg_mid hv hi
    have e2 : pb f n K W t = k + 1 := by unfold pb; rw [hi, if_pos rfl, hk]
    have hmk : m = k := by omega
    subst hmk
    have b := (place_in (B := B) (E := E) (t := t) hv hP).2
    rw [hi] at b
    obtain ⟨_, s0, s1, _, _⟩ := b.resolve_left (fun h => by have := h.2.2; cases this)
    have tl := h2 hm
    have dv : (offA B f (m + 1) - offA B f m = 1 → 0 ≤ (offA B f (m + 1) - offA B f m) * plS f n K W t / W ∧ (offA B f (m + 1) - offA B f m) * plS f n K W t / W ≤ 1000000000) ∧ (offA B f (m + 1) - offA B f m = -1 → -1000000000 ≤ (offA B f (m + 1) - offA B f m) * plS f n K W t / W ∧ (offA B f (m + 1) - offA B f m) * plS f n K W t / W ≤ 0) := by
      refine ⟨fun h => ?_, fun h => ?_⟩
      · rw [h, Int.one_mul]
        refine ⟨Int.ediv_nonneg s0 (by omega), ?_⟩
        have := Int.ediv_le_ediv (c := W) (by omega) (show plS f n K W t ≤ 1000000000 * W by omega)
        rwa [Int.mul_ediv_cancel _ (by omega)] at this
      · rw [h]
        constructor
        · have := Int.ediv_le_ediv (c := W) (by omega) (show -1000000000 * W ≤ -1 * plS f n K W t by omega)
          rwa [Int.mul_ediv_cancel _ (by omega)] at this
        · have := Int.ediv_le_ediv (c := W) (by omega) (show -1 * plS f n K W t ≤ 0 by omega)
          rwa [Int.zero_ediv] at this
    obtain ⟨z, hz⟩ : ∃ z, (offA B f (m + 1) - offA B f m) * plS f n K W t / W = z := ⟨_, rfl⟩
    rw [hz] at dv hr
    rw [hr]
    by_cases c : enI f 1 0 m ≤ t
    · have e1 : psW f n 1 0 t = m + 1 := psW_eq (by omega) (fun i hi => by
        rcases (show i < m ∨ i = m by omega) with h | rfl
        · exact l1 i h
        · exact c) (fun hl => by
        have a := fs_lt hv hP (i := m) (j := m + 1) (by omega) hl
        have := (chg_mid f hP (m + 1)).1
        rw [en_one]; omega)
      rw [one (m + 1) e1 (by omega)]
      omega
    · have e1 : psW f n 1 0 t = m := psW_eq (by omega) l1 (fun _ => by omega)
      rw [one m e1 (by omega)]
      omega
/-- The rate in a window is not 0. -/
theorem Sm.rat_nz {B E : Int} {f : Nat → Int × Int} {n : Nat} {K W t : Int} (hv : Val B E f n) (hP : Pol K W) (h : smg B E f n K W t ≠ 0) : rat B E f n K W t ≠ 0 := by
  have w1 := hP.w1
  have hh : chkS B E f n K W = 0 ∧ isT t = true := Classical.byContradiction (fun k => h (if_neg k))
  have hg : smg B E f n K W t = plC B f n K W t := if_pos hh
  obtain ⟨hc, _, _, w2, _⟩ := (place_in (B := B) (E := E) (t := t) hv hP).2.resolve_left (fun k => h (hg.trans k.1))
  unfold rat
  rw [if_neg h, hg]
  rcases hc with hc | hc <;> rw [hc]
  · intro e
    have := Int.ediv_le_ediv (c := W) (by omega) (show -1 * 1000000000 ≤ -1 * W by omega)
    rw [Int.mul_ediv_cancel _ (by omega)] at this
    omega
  · intro e
    have := Int.ediv_le_ediv (c := W) (by omega) (show 1 * W ≤ - -1 * 1000000000 by omega)
    rw [Int.mul_ediv_cancel _ (by omega)] at this
    omega
end Go.Proofs.YtgeklbpkmfeheaaDoor
