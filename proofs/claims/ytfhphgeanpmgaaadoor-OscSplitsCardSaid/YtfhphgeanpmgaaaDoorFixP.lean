/- The plain arithmetic of quotients that are rounded down, up, to the nearest: no program in sight. -/
import Derived.Test.YtfhphgeanpmgaaaDoorFixO
namespace Go.Proofs.YtfhphgeanpmgaaaDoor.Fx
open Go

/-- The quotient rounded up; the nearest integer, a tie to the even one. -/
def ceiI (a b : Int) : Int := if flo a b * b = a then flo a b else flo a b + 1
def nearI (a b : Int) : Int := if mag b < 2 * mag (a - flo a b * b) ∨ (2 * mag (a - flo a b * b) = mag b ∧ flo a b % 2 ≠ 0) then flo a b + 1 else flo a b

/-- flo is the one number that leaves a rest between 0 and the divisor. -/
theorem flo_unique {a b q r : Int} (e : a = q * b + r) (h : (0 < b ∧ 0 ≤ r ∧ r < b) ∨ (b < 0 ∧ r ≤ 0 ∧ b < r)) : flo a b = q := by
  unfold flo
  rcases h with ⟨h1, h2, h3⟩ | ⟨h1, h2, h3⟩
  · rw [if_pos h1]; exact (div_unique e h2 h3).1
  · rw [if_neg (by omega)]
    exact (div_unique (q := q) (r := -r) (by rw [Int.mul_neg]; omega) (by omega) (by omega)).1

theorem flo_rest (a b : Int) (hb : b ≠ 0) : ∃ r, a = flo a b * b + r ∧ ((0 < b ∧ 0 ≤ r ∧ r < b) ∨ (b < 0 ∧ r ≤ 0 ∧ b < r)) := by
  unfold flo
  by_cases h : 0 < b
  · rw [if_pos h]
    have e := Int.emod_add_mul_ediv a b
    have := Int.emod_nonneg a hb
    have := Int.emod_lt_of_pos a h
    exact ⟨a % b, by rw [Int.mul_comm]; omega, .inl ⟨h, by omega, by omega⟩⟩
  · rw [if_neg h]
    have e := Int.emod_add_mul_ediv (-a) (-b)
    have := Int.emod_nonneg (-a) (b := -b) (by omega)
    have := Int.emod_lt_of_pos (-a) (b := -b) (by omega)
    refine ⟨-(-a % -b), ?_, .inr ⟨by omega, by omega, by omega⟩⟩
    have h2 : -b * (-a / -b) = -(-a / -b * b) := by rw [Int.neg_mul, Int.mul_comm]
    omega

theorem trunc (a b : Int) (hb : b ≠ 0) : a = a.tdiv b * b + a.tmod b ∧ (0 ≤ a → 0 ≤ a.tmod b) ∧ (a ≤ 0 → a.tmod b ≤ 0) ∧ (0 < b → -b < a.tmod b ∧ a.tmod b < b) ∧ (b < 0 → b < a.tmod b ∧ a.tmod b < -b) ∧ mag (a.tdiv b) * mag b + mag (a.tmod b) = mag a := by
  have pos : ∀ x y : Int, 0 ≤ x → 0 < y → x = x.tdiv y * y + x.tmod y ∧ 0 ≤ x.tmod y ∧ x.tmod y < y ∧ 0 ≤ x.tdiv y := by
    intro x y hx hy
    rw [Int.tdiv_eq_ediv_of_nonneg hx, Int.tmod_eq_emod_of_nonneg hx]
    have e := Int.emod_add_mul_ediv x y
    exact ⟨by rw [Int.mul_comm]; omega, Int.emod_nonneg x (by omega), Int.emod_lt_of_pos x hy, Int.ediv_nonneg hx (by omega)⟩
  by_cases ha : 0 ≤ a <;> by_cases hp : 0 < b
  · obtain ⟨p1, p2, p3, p4⟩ := pos a b ha hp
    refine ⟨p1, fun _ => p2, fun h => ?_, fun _ => ⟨by omega, p3⟩, fun h => by omega, ?_⟩
    · have : a = 0 := by omega
      subst this; simp
    · unfold mag; rw [if_neg (by omega), if_neg (by omega), if_neg (by omega), if_neg (by omega)]; omega
  · obtain ⟨p1, p2, p3, p4⟩ := pos a (-b) ha (by omega)
    rw [Int.tdiv_neg, Int.tmod_neg] at p1
    rw [Int.tmod_neg] at p2 p3
    rw [Int.tdiv_neg] at p4
    rw [Int.neg_mul_neg] at p1
    refine ⟨p1, fun _ => p2, fun h => ?_, fun h => by omega, fun _ => ⟨by omega, by omega⟩, ?_⟩
    · have : a = 0 := by omega
      subst this; simp
    · have hm : mag (a.tdiv b) = -a.tdiv b := by unfold mag; split <;> omega
      rw [hm]
      unfold mag; rw [if_pos (by omega), if_neg (by omega), if_neg (by omega), Int.neg_mul_neg]; omega
  · obtain ⟨p1, p2, p3, p4⟩ := pos (-a) b (by omega) hp
    rw [Int.neg_tdiv, Int.neg_tmod, Int.neg_mul] at p1
    rw [Int.neg_tmod] at p2 p3
    rw [Int.neg_tdiv] at p4
    refine ⟨by omega, fun h => by omega, fun _ => by omega, fun _ => ⟨by omega, by omega⟩, fun h => by omega, ?_⟩
    have hm : mag (a.tdiv b) = -a.tdiv b := by unfold mag; split <;> omega
    have hm2 : mag (a.tmod b) = -a.tmod b := by unfold mag; split <;> omega
    rw [hm, hm2]
    unfold mag; rw [if_neg (by omega), if_pos (by omega), Int.neg_mul]; omega
  · obtain ⟨p1, p2, p3, p4⟩ := pos (-a) (-b) (by omega) (by omega)
    rw [Int.neg_tdiv, Int.tdiv_neg, Int.neg_neg, Int.neg_tmod, Int.tmod_neg, Int.mul_neg] at p1
    rw [Int.neg_tmod, Int.tmod_neg] at p2 p3
    rw [Int.neg_tdiv, Int.tdiv_neg, Int.neg_neg] at p4
    refine ⟨by omega, fun h => by omega, fun _ => by omega, fun h => by omega, fun _ => ⟨by omega, by omega⟩, ?_⟩
    have hm : mag (a.tdiv b) = a.tdiv b := by unfold mag; split <;> omega
    have hm2 : mag (a.tmod b) = -a.tmod b := by unfold mag; split <;> omega
    rw [hm, hm2]
    unfold mag; rw [if_pos (by omega), if_pos (by omega), Int.mul_neg]; omega

/-- What the division of the processor leaves for Floor and Ceil. -/
theorem quot {a b : Int} (hb : b ≠ 0) (hx : ¬(a = -9223372036854775808 ∧ b = -1)) (h0 : -9223372036854775808 ≤ a) (h1 : a ≤ 9223372036854775807) (_h2 : -9223372036854775808 ≤ b) (_h3 : b ≤ 9223372036854775807) :
    ∃ T M : Int, a.tdiv b = T ∧ a.tmod b = M ∧ -9223372036854775808 ≤ T ∧ T ≤ 9223372036854775807 ∧ -9223372036854775808 ≤ M ∧ M ≤ 9223372036854775807 ∧ qok a b = true ∧
      ((M = 0 ∧ flo a b = T ∧ ceiI a b = T) ∨ (M ≠ 0 ∧ (!decide (M < 0) == decide (b < 0)) = true ∧ flo a b = T - 1 ∧ ceiI a b = T ∧ -9223372036854775808 ≤ T - 1 ∧ (decide (M < 0) == decide (b < 0)) = false) ∨
       (M ≠ 0 ∧ (!decide (M < 0) == decide (b < 0)) = false ∧ flo a b = T ∧ ceiI a b = T + 1 ∧ T + 1 ≤ 9223372036854775807 ∧ (decide (M < 0) == decide (b < 0)) = true)) := by
  obtain ⟨e, t1, t2, t3, t4, t5⟩ := trunc a b hb
  have mM := mag_nonneg (a.tmod b)
  have mT := mag_nonneg (a.tdiv b)
  have mb := mag_nonneg b
  have ma := mag_le h0 h1
  have mz : mag b ≠ 0 := fun h => hb (mag_zero.1 h)
  have tT : mag (a.tdiv b) ≤ mag (a.tdiv b) * mag b := by
    have := Int.mul_le_mul_of_nonneg_left (show 1 ≤ mag b by omega) mT
    omega
  have t2T : 2 ≤ mag b → 2 * mag (a.tdiv b) ≤ mag (a.tdiv b) * mag b := fun h => by
    have := Int.mul_le_mul_of_nonneg_left h mT
    omega
  generalize a.tdiv b = T at *
  generalize a.tmod b = M at *
  have hTle : T ≤ mag T := by unfold mag; split <;> omega
  have hTge : -mag T ≤ T := by unfold mag; split <;> omega
  have hMb : mag M < mag b := by unfold mag; split <;> split <;> omega
  have small : 2 ≤ mag b → -4611686018427387904 ≤ T ∧ T ≤ 4611686018427387904 := fun h => by have := t2T h; omega
  have hb2 : M ≠ 0 → 2 ≤ mag b := fun h => by
    have : mag M ≠ 0 := fun h' => h (mag_zero.1 h')
    omega
  have hT0 : -9223372036854775808 ≤ T := by omega
  have hT1 : T ≤ 9223372036854775807 := by
    by_cases h : 2 ≤ mag b
    · have := small h; omega
    · have hb1 : b = 1 ∨ b = -1 := by unfold mag at h; split at h <;> omega
      have hM0 : M = 0 := by
        have : mag M = 0 := by omega
        exact mag_zero.1 this
      rcases hb1 with rfl | rfl <;> omega
  have hM0 : -9223372036854775808 ≤ M := by have : -mag M ≤ M := by unfold mag; split <;> omega
                                            omega
  have hM1 : M ≤ 9223372036854775807 := by have : M ≤ mag M := by unfold mag; split <;> omega
                                           omega
  have fin : ∀ q, flo a b = q → -9223372036854775808 ≤ q → q ≤ 9223372036854775807 → qok a b = true := fun q h h' h'' => by rw [qok_okI' hb, h]; exact okI_yes h' h''
  by_cases hz : M = 0
  · have hf : flo a b = T := flo_unique (r := M) e (by omega)
    refine ⟨T, M, rfl, rfl, hT0, hT1, hM0, hM1, fin _ hf hT0 hT1, .inl ⟨hz, hf, ?_⟩⟩
    unfold ceiI; rw [hf, if_pos (by omega)]
  · have hs := small (hb2 hz)
    by_cases hd : (!decide (M < 0) == decide (b < 0)) = true
    · have hd' : (M < 0 ∧ 0 < b) ∨ (0 < M ∧ b < 0) := by
        by_cases hm : M < 0 <;> by_cases hn : b < 0 <;> simp [hm, hn] at hd <;> omega
      have hf : flo a b = T - 1 := flo_unique (r := M + b) (by rw [Int.sub_mul]; omega) (by omega)
      refine ⟨T, M, rfl, rfl, hT0, hT1, hM0, hM1, fin _ hf (by omega) (by omega), .inr (.inl ⟨hz, hd, hf, ?_, by omega, ?_⟩)⟩
      · unfold ceiI; rw [hf, if_neg (by rw [Int.sub_mul]; omega)]; omega
      · rcases hd' with ⟨x, y⟩ | ⟨x, y⟩
        · rw [decide_eq_true x, decide_eq_false (by omega)]; rfl
        · rw [decide_eq_false (by omega), decide_eq_true y]; rfl
    · have hd2 : (!decide (M < 0) == decide (b < 0)) = false := by simpa using hd
      have hd' : (0 < M ∧ 0 < b) ∨ (M < 0 ∧ b < 0) := by
        by_cases hm : M < 0 <;> by_cases hn : b < 0 <;> simp [hm, hn] at hd2 <;> omega
      have hf : flo a b = T := flo_unique (r := M) e (by omega)
      refine ⟨T, M, rfl, rfl, hT0, hT1, hM0, hM1, fin _ hf hT0 hT1, .inr (.inr ⟨hz, hd2, hf, ?_, by omega, ?_⟩)⟩
      · unfold ceiI; rw [hf, if_neg (by omega)]
      · rcases hd' with ⟨x, y⟩ | ⟨x, y⟩
        · rw [decide_eq_false (by omega), decide_eq_false (by omega)]; rfl
        · rw [decide_eq_true x, decide_eq_true y]; rfl

/-- There is no quotient that is an int. -/
theorem quot_no {a b : Int} (h : ¬(b ≠ 0 ∧ ¬(a = -9223372036854775808 ∧ b = -1))) : qok a b = false := by
  by_cases hb : b = 0
  · subst hb; unfold qok; simp
  · obtain ⟨rfl, rfl⟩ : a = -9223372036854775808 ∧ b = -1 := by omega
    decide

/-- The part that is cut off. -/
theorem cut_lt (a b : Int) (hb : b ≠ 0) : mag (a - flo a b * b) < mag b := by
  obtain ⟨r, e, h⟩ := flo_rest a b hb
  have : a - flo a b * b = r := by omega
  rw [this]; unfold mag; split <;> split <;> omega

/-- What is cut off, by the absolute values. -/
theorem cut_mag (a b : Int) (hb : b ≠ 0) : mag (a - flo a b * b) = if 0 < mag a % mag b ∧ (!decide (a < 0) == decide (b < 0)) = true then mag b - mag a % mag b else mag a % mag b := by
  obtain ⟨e, t1, t2, t3, t4, t5⟩ := trunc a b hb
  have mM := mag_nonneg (a.tmod b)
  have mT := mag_nonneg (a.tdiv b)
  generalize a.tdiv b = T at *
  generalize a.tmod b = M at *
  have hMb : mag M < mag b := by unfold mag; split <;> split <;> omega
  have hm : mag a % mag b = mag M := (div_unique (q := mag T) (r := mag M) (by omega) mM hMb).2
  rw [hm]
  by_cases hz : M = 0
  · have hf : flo a b = T := flo_unique (r := M) e (by omega)
    have hz' : mag M = 0 := by rw [hz]; rfl
    rw [hf, if_neg (by omega), show a - T * b = M from by omega]
  · have hz' : 0 < mag M := by
      have : mag M ≠ 0 := fun h => hz (mag_zero.1 h)
      omega
    by_cases hd : (!decide (a < 0) == decide (b < 0)) = true
    · rw [if_pos ⟨hz', hd⟩]
      have hd' : (M < 0 ∧ 0 < b) ∨ (0 < M ∧ b < 0) := by
        by_cases hm : a < 0 <;> by_cases hn : b < 0 <;> simp [hm, hn] at hd <;> omega
      have hf : flo a b = T - 1 := flo_unique (r := M + b) (by rw [Int.sub_mul]; omega) (by omega)
      rw [hf, show a - (T - 1) * b = M + b from by rw [Int.sub_mul]; omega]
      unfold mag; split <;> split <;> split <;> omega
    · rw [if_neg (fun h => hd h.2)]
      have hd2 : (!decide (a < 0) == decide (b < 0)) = false := by simpa using hd
      have hd' : (0 < M ∧ 0 < b) ∨ (M < 0 ∧ b < 0) := by
        by_cases hm : a < 0 <;> by_cases hn : b < 0 <;> simp [hm, hn] at hd2 <;> omega
      have hf : flo a b = T := flo_unique (r := M) e (by omega)
      rw [hf, show a - T * b = M from by omega]

/-- Where the quotient is not exact, one more is an int, too. -/
theorem flo_next {a b : Int} (hb : b ≠ 0) (h0 : -9223372036854775808 ≤ a) (h1 : a ≤ 9223372036854775807) (h2 : -9223372036854775808 ≤ b) (h3 : b ≤ 9223372036854775807) (hq : qok a b = true) (he : flo a b * b ≠ a) :
    okI (flo a b + 1) = true ∧ ceiI a b = flo a b + 1 := by
  have hx : ¬(a = -9223372036854775808 ∧ b = -1) := fun h => by
    have := quot_no (a := a) (b := b) (by omega)
    rw [hq] at this; cases this
  obtain ⟨T, M, e1, e2, b1, b2, b3, b4, b5, h⟩ := quot hb hx h0 h1 h2 h3
  have et := (trunc a b hb).1
  rw [e1, e2] at et
  rcases h with ⟨a1, a2, a3⟩ | ⟨a1, a2, a3, a4, a5, a6⟩ | ⟨a1, a2, a3, a4, a5, a6⟩
  · rw [a2] at he; omega
  · rw [a3, a4]; exact ⟨okI_yes (by omega) (by omega), by omega⟩
  · rw [a3, a4]; exact ⟨okI_yes (by omega) (by omega), by omega⟩
end Go.Proofs.YtfhphgeanpmgaaaDoor.Fx
