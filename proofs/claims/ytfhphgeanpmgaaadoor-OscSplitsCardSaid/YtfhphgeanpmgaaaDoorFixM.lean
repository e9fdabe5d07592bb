/- The plain arithmetic of layer 1: no program in sight. -/
namespace Go.Proofs.YtfhphgeanpmgaaaDoor.Fx

/-- Is x an int of 64 bits? -/
def okI (x : Int) : Bool := decide (-9223372036854775808 ≤ x ∧ x ≤ 9223372036854775807)
/-- x, or 0 where p is false. -/
def sel (p : Bool) (x : Int) : Int := if p then x else 0
/-- The absolute value. -/
def mag (n : Int) : Int := if n < 0 then -n else n
/-- The quotient rounded down. -/
def flo (x c : Int) : Int := if 0 < c then x / c else (-x) / (-c)
/-- Has x / c, rounded down, a value that is an int? -/
def qok (x c : Int) : Bool := decide (c ≠ 0 ∧ -9223372036854775808 ≤ flo x c ∧ flo x c ≤ 9223372036854775807)

theorem sel_true (x : Int) : sel true x = x := rfl
theorem sel_false (x : Int) : sel false x = 0 := rfl
theorem okI_yes {x : Int} (h : -9223372036854775808 ≤ x) (h' : x ≤ 9223372036854775807) : okI x = true := decide_eq_true ⟨h, h'⟩
theorem okI_no {x : Int} (h : x < -9223372036854775808 ∨ 9223372036854775807 < x) : okI x = false := decide_eq_false (by omega)
theorem okI_iff {x : Int} : okI x = true ↔ (-9223372036854775808 ≤ x ∧ x ≤ 9223372036854775807) := by simp [okI]
theorem okI_iff' {x : Int} : okI x = false ↔ ¬(-9223372036854775808 ≤ x ∧ x ≤ 9223372036854775807) := by simp [okI]
theorem qok_iff {x c : Int} : qok x c = true ↔ (c ≠ 0 ∧ -9223372036854775808 ≤ flo x c ∧ flo x c ≤ 9223372036854775807) := by simp [qok]
theorem qok_iff' {x c : Int} : qok x c = false ↔ ¬(c ≠ 0 ∧ -9223372036854775808 ≤ flo x c ∧ flo x c ≤ 9223372036854775807) := by
  rw [Bool.eq_false_iff, Ne, qok_iff]

theorem qok_okI' {x c : Int} (hc : c ≠ 0) : qok x c = okI (flo x c) := by
  unfold qok okI; simp [hc]

theorem mag_nonneg (n : Int) : 0 ≤ mag n := by unfold mag; split <;> omega
theorem mag_zero {n : Int} : mag n = 0 ↔ n = 0 := by unfold mag; split <;> omega
theorem mag_le {n : Int} (h0 : -9223372036854775808 ≤ n) (h1 : n ≤ 9223372036854775807) : mag n ≤ 9223372036854775808 := by unfold mag; split <;> omega
theorem mag_neg (n : Int) : mag (-n) = mag n := by unfold mag; split <;> split <;> omega
theorem mag_mul (a b : Int) : mag (a * b) = mag a * mag b := by
  unfold mag
  by_cases ha : a < 0 <;> by_cases hb : b < 0
  · rw [if_pos ha, if_pos hb, Int.neg_mul_neg, if_neg]
    have := Int.mul_pos_of_neg_of_neg ha hb; omega
  · rw [if_pos ha, if_neg hb, Int.neg_mul]
    by_cases h0 : b = 0
    · subst h0; simp
    · rw [if_pos (Int.mul_neg_of_neg_of_pos ha (by omega))]
  · rw [if_neg ha, if_pos hb, Int.mul_neg]
    by_cases h0 : a = 0
    · subst h0; simp
    · rw [if_pos (Int.mul_neg_of_pos_of_neg (by omega) hb)]
  · rw [if_neg ha, if_neg hb, if_neg]
    have := Int.mul_nonneg (a := a) (b := b) (by omega) (by omega); omega

/-- The sign of a product, as the program reckons it. -/
theorem mul_sign (a b : Int) : a * b = if (decide (a < 0) != decide (b < 0)) = true then -(mag a * mag b) else mag a * mag b := by
  unfold mag
  by_cases ha : a < 0 <;> by_cases hb : b < 0 <;> simp [ha, hb, Int.neg_mul, Int.mul_neg]

/-- Division with a quotient and a rest is unique. -/
theorem div_unique {x d q r : Int} (hx : x = q * d + r) (h0 : 0 ≤ r) (h1 : r < d) : x / d = q ∧ x % d = r := by
  have hd : 0 < d := by omega
  have e : x / d = q := by
    rw [hx, Int.add_comm, Int.add_mul_ediv_right _ _ (by omega), Int.ediv_eq_zero_of_lt h0 h1]; omega
  refine ⟨e, ?_⟩
  have h := Int.emod_add_mul_ediv x d
  rw [e, Int.mul_comm] at h
  omega

/-- floor(-p / d): the quotient, one more where there is a rest, and the sign. -/
theorem neg_div (p d : Int) (hd : 0 < d) : (-p) / d = -(p / d + if p % d = 0 then 0 else 1) := by
  have h := Int.emod_add_mul_ediv p d
  have h0 := Int.emod_nonneg p (b := d) (by omega)
  have h1 := Int.emod_lt_of_pos p hd
  by_cases hz : p % d = 0
  · rw [if_pos hz]
    refine (div_unique (q := -(p / d + 0)) (r := 0) ?_ (Int.le_refl 0) hd).1
    rw [Int.neg_mul, Int.add_mul, Int.mul_comm (p / d)]; omega
  · rw [if_neg hz]
    refine (div_unique (q := -(p / d + 1)) (r := d - p % d) ?_ (by omega) (by omega)).1
    rw [Int.neg_mul, Int.add_mul, Int.mul_comm (p / d)]; omega

/-- The floor of a product's quotient, by absolute values and the sign as the program reckons it. -/
theorem flo_sign (x c : Int) (hc : c ≠ 0) :
    flo x c = if (decide (x < 0) != decide (c < 0)) = true then -(mag x / mag c + if mag x % mag c = 0 then 0 else 1) else mag x / mag c := by
  unfold flo
  by_cases h : 0 < c
  · rw [if_pos h]
    have hn : ¬ c < 0 := by omega
    by_cases hx : x < 0
    · simp only [hx, hn, mag, decide_true, decide_false, if_pos, if_false]
      have := neg_div (-x) c h
      rw [Int.neg_neg] at this
      simpa using this
    · simp [hx, hn, mag]
  · rw [if_neg h]
    have hn : c < 0 := by omega
    by_cases hx : x < 0
    · simp [hx, hn, mag]
    · simp only [hx, hn, mag, decide_true, decide_false, if_pos, if_false]
      have := neg_div x (-c) (by omega)
      simpa using this

theorem mag_mul_sign (a b : Int) (c : Int) : (mag (a * b) = mag a * mag b) ∧ ((mag a * mag b = 0) ∨ (decide (a * b < 0) != decide (c < 0)) = ((decide (a < 0) != decide (b < 0)) != decide (c < 0))) := by
  refine ⟨mag_mul a b, ?_⟩
  by_cases h0 : a * b = 0
  · left; rw [← mag_mul, h0]; rfl
  · right
    have ha : a ≠ 0 := fun h => h0 (by rw [h, Int.zero_mul])
    have hb : b ≠ 0 := fun h => h0 (by rw [h, Int.mul_zero])
    congr 1
    by_cases h1 : a < 0 <;> by_cases h2 : b < 0
    · have := Int.mul_pos_of_neg_of_neg h1 h2
      simp [h1, h2]; omega
    · have := Int.mul_neg_of_neg_of_pos h1 (show 0 < b by omega)
      simp [h1, h2, this]
    · have := Int.mul_neg_of_pos_of_neg (show 0 < a by omega) h2
      simp [h1, h2, this]
    · have := Int.mul_pos (show 0 < a by omega) (show 0 < b by omega)
      simp [h1, h2]; omega

/-- The floor of a * b / c from p = |a| * |b|, d = |c| and the three signs. -/
theorem flo_mul (a b c : Int) (hc : c ≠ 0) :
    flo (a * b) c = if ((decide (a < 0) != decide (b < 0)) != decide (c < 0)) = true then -((mag a * mag b) / mag c + if (mag a * mag b) % mag c = 0 then 0 else 1) else (mag a * mag b) / mag c := by
  rw [flo_sign _ _ hc, mag_mul]
  rcases (mag_mul_sign a b c).2 with h | h
  · rw [h]; simp
  · rw [h]

end Go.Proofs.YtfhphgeanpmgaaaDoor.Fx
