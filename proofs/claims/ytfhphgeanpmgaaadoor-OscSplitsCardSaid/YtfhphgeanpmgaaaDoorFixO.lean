/- The plain arithmetic of the library's quotient of two words (digit by digit): no program in sight. -/
import Derived.Test.YtfhphgeanpmgaaaDoorFixN
namespace Go.Proofs.YtfhphgeanpmgaaaDoor.Fx
open Go

/-- q is a guess, not too small, of the next digit; r is what it leaves. -/
def DigInv (U A D N q r : Int) : Prop := 0 ≤ q ∧ q ≤ 8589934592 ∧ 0 ≤ r ∧ U = q * D + r ∧ (U * 4294967296 + A) / (D * 4294967296 + N) ≤ q

/-- What is known of the numbers of one digit. -/
def DigFit (U A D N : Int) : Prop := 0 ≤ U ∧ U < D * 4294967296 + N ∧ 0 ≤ A ∧ A < 4294967296 ∧ 2147483648 ≤ D ∧ D < 4294967296 ∧ 0 ≤ N ∧ N < 4294967296

theorem dig_true {U A D N : Int} (f : DigFit U A D N) : ∃ T R, U * 4294967296 + A = T * D * 4294967296 + T * N + R ∧ 0 ≤ R ∧ R < D * 4294967296 + N ∧ T = (U * 4294967296 + A) / (D * 4294967296 + N) ∧ R = (U * 4294967296 + A) % (D * 4294967296 + N) ∧ 0 ≤ T ∧ T < 4294967296 := by
  obtain ⟨f1, f2, f3, f4, f5, f6, f7, f8⟩ := f
  have hY : 0 < D * 4294967296 + N := by omega
  have e := Int.emod_add_mul_ediv (U * 4294967296 + A) (D * 4294967296 + N)
  have r0 := Int.emod_nonneg (U * 4294967296 + A) (b := D * 4294967296 + N) (by omega)
  have r1 := Int.emod_lt_of_pos (U * 4294967296 + A) hY
  have t0 : 0 ≤ (U * 4294967296 + A) / (D * 4294967296 + N) := Int.ediv_nonneg (by omega) (by omega)
  have t1 : (U * 4294967296 + A) / (D * 4294967296 + N) < 4294967296 := Int.ediv_lt_of_lt_mul hY (by rw [Int.mul_add]; omega)
  generalize (U * 4294967296 + A) / (D * 4294967296 + N) = T at *
  generalize (U * 4294967296 + A) % (D * 4294967296 + N) = R at *
  refine ⟨T, R, ?_, r0, r1, rfl, rfl, t0, t1⟩
  rw [← e, Int.mul_comm _ T, Int.mul_add, Int.mul_assoc]; omega

theorem dig_start {U A D N : Int} (f : DigFit U A D N) : DigInv U A D N (U / D) (U - U / D * D) ∧ U - U / D * D < 4294967296 ∧ (0 ≤ U / D * D ∧ U / D * D ≤ U) ∧ (0 ≤ U / D ∧ U / D ≤ 8589934592) := by
  have f' := f
  obtain ⟨f1, f2, f3, f4, f5, f6, f7, f8⟩ := f
  obtain ⟨T, R, e, r0, r1, hT, hR, t0, t1⟩ := dig_true f'
  have hD : 0 < D := by omega
  have h := Int.emod_add_mul_ediv U D
  have g0 := Int.emod_nonneg U (b := D) (by omega)
  have g1 := Int.emod_lt_of_pos U hD
  rw [Int.mul_comm] at h
  have hq0 : 0 ≤ U / D := Int.ediv_nonneg f1 (by omega)
  have hq1 : U / D ≤ 8589934592 := Int.le_of_lt_add_one (Int.ediv_lt_of_lt_mul hD (by omega))
  have hz : 0 ≤ U / D * D := Int.mul_nonneg hq0 (by omega)
  refine ⟨⟨hq0, hq1, by omega, by omega, ?_⟩, by omega, ⟨hz, by omega⟩, hq0, hq1⟩
  rw [← hT]
  refine Int.le_ediv_of_mul_le hD ?_
  have : 0 ≤ T * N := Int.mul_nonneg t0 f7
  omega

theorem dig_down {U A D N q r : Int} (f : DigFit U A D N) (h : DigInv U A D N q r) (hc : 4294967296 ≤ q ∨ 4294967296 * r + A < q * N) : DigInv U A D N (q - 1) (r + D) ∧ 1 ≤ q := by
  have f' := f
  obtain ⟨f1, f2, f3, f4, f5, f6, f7, f8⟩ := f
  obtain ⟨T, R, e, r0, r1, hT, hR, t0, t1⟩ := dig_true f'
  obtain ⟨h1, h2, h3, h4, h5⟩ := h
  rw [← hT] at h5
  have hlt : T < q := by
    rcases hc with hc | hc
    · omega
    · refine Int.lt_of_not_ge fun hge => ?_
      have : T = q := by omega
      subst this
      omega
  refine ⟨⟨by omega, by omega, by omega, ?_, by rw [← hT]; omega⟩, by omega⟩
  rw [Int.sub_mul]; omega

theorem dig_end {U A D N q r : Int} (f : DigFit U A D N) (h : DigInv U A D N q r) (_h1 : q < 4294967296) (h2 : q * N ≤ 4294967296 * r + A) : q = (U * 4294967296 + A) / (D * 4294967296 + N) := by
  have f' := f
  obtain ⟨f1, f2, f3, f4, f5, f6, f7, f8⟩ := f
  obtain ⟨g1, g2, g3, g4, g5⟩ := h
  refine Int.le_antisymm (Int.le_ediv_of_mul_le (by omega) ?_) g5
  rw [Int.mul_add, ← Int.mul_assoc]; omega

theorem dig_break {U A D N q r : Int} (f : DigFit U A D N) (h : DigInv U A D N q r) (h1 : 4294967296 ≤ r) : q = (U * 4294967296 + A) / (D * 4294967296 + N) := by
  have f' := f
  obtain ⟨f1, f2, f3, f4, f5, f6, f7, f8⟩ := f
  have h' := h
  obtain ⟨g1, g2, g3, g4, g5⟩ := h
  have hq : q < 4294967296 := by
    refine Int.lt_of_not_ge fun hge => ?_
    have : 4294967296 * D ≤ q * D := Int.mul_le_mul_of_nonneg_right hge (by omega)
    omega
  have hn : q * N ≤ 4294967296 * 4294967296 := Int.mul_le_mul (by omega) (by omega) f7 (by omega)
  exact dig_end f' h' hq (by omega)

theorem dig_small {U A D N q r : Int} (f : DigFit U A D N) (h : DigInv U A D N q r) (h1 : q < 4294967296) : 0 ≤ q * N ∧ q * N ≤ 18446744065119617025 := by
  obtain ⟨f1, f2, f3, f4, f5, f6, f7, f8⟩ := f
  have : q * N ≤ 4294967295 * 4294967295 := Int.mul_le_mul (by omega) (by omega) f7 (by omega)
  exact ⟨Int.mul_nonneg h.1 f7, by omega⟩

/-- The rest that a digit leaves, as the program reckons it (each step modulo 2^64). -/
theorem dig_rest {U A D N q : Int} (f : DigFit U A D N) (hq : q = (U * 4294967296 + A) / (D * 4294967296 + N)) :
    IntKind.u64.wrap (IntKind.u64.wrap (IntKind.u64.wrap (U * 4294967296) + A) - IntKind.u64.wrap (q * (D * 4294967296 + N))) = (U * 4294967296 + A) % (D * 4294967296 + N) := by
  obtain ⟨T, R, e, r0, r1, hT, hR, t0, t1⟩ := dig_true f
  obtain ⟨f1, f2, f3, f4, f5, f6, f7, f8⟩ := f
  rw [← hR]
  rw [hq, ← hT, Int.mul_add, ← Int.mul_assoc]
  simp only [IntKind.wrap_u64]
  omega

/-- The two words, shifted until the divisor's highest bit is set. -/
theorem shifted {hi lo y : Int} {s : Nat} (hs : s ≤ 63) (h0 : 0 < hi) (h1 : hi < y) (h2 : 0 ≤ lo) (h3 : lo ≤ 18446744073709551615) (h4 : 9223372036854775808 ≤ y * 2 ^ s) (h5 : y * 2 ^ s < 18446744073709551616) :
    ∃ U V : Int, bits .or .u64 (IntKind.u64.wrap (hi * 2 ^ s)) (lo / 2 ^ (64 - s)) = U ∧ IntKind.u64.wrap (lo * 2 ^ s) = V ∧ 0 ≤ U ∧ U < y * 2 ^ s ∧ 0 ≤ V ∧ V < 18446744073709551616 ∧
      (hi * 18446744073709551616 + lo) * 2 ^ s = U * 18446744073709551616 + V := by
  have pn : ((2 ^ s : Nat) : Int) = 2 ^ s := by rw [Int.natCast_pow]; rfl
  have qn : ((2 ^ (64 - s) : Nat) : Int) = 2 ^ (64 - s) := by rw [Int.natCast_pow]; rfl
  have pq : (2 : Int) ^ (64 - s) * 2 ^ s = 18446744073709551616 := by rw [← Int.pow_add, show 64 - s + s = 64 from by omega]; decide
  have p0 : (0 : Int) < 2 ^ s := Int.pow_pos (by decide)
  have q0 : (0 : Int) < 2 ^ (64 - s) := Int.pow_pos (by decide)
  have hdiv : lo * 2 ^ s / 18446744073709551616 = lo / 2 ^ (64 - s) := by rw [← pq, Int.mul_ediv_mul_of_pos_left _ _ p0]
  have hlt : lo / 2 ^ (64 - s) < 2 ^ s := Int.ediv_lt_of_lt_mul q0 (by rw [Int.mul_comm, pq]; omega)
  have hge : 0 ≤ lo / 2 ^ (64 - s) := Int.ediv_nonneg h2 (by omega)
  have hhi : (hi + 1) * 2 ^ s ≤ y * 2 ^ s := Int.mul_le_mul_of_nonneg_right (by omega) (by omega)
  rw [Int.add_mul, Int.one_mul] at hhi
  have hh0 : 0 ≤ hi * 2 ^ s := Int.mul_nonneg (by omega) (by omega)
  have hw : IntKind.u64.wrap (hi * 2 ^ s) = hi * 2 ^ s := by rw [IntKind.wrap_u64]; omega
  have hor : bits .or .u64 (hi * 2 ^ s) (lo / 2 ^ (64 - s)) = hi * 2 ^ s + lo / 2 ^ (64 - s) := by
    refine u64_or_add s hh0 (by omega) hge (by omega) ?_ ?_
    · obtain ⟨n, rfl⟩ := Int.eq_ofNat_of_zero_le (by omega : 0 ≤ hi)
      rw [← pn, ← Int.natCast_mul, Int.toNat_natCast]
      exact Nat.mul_mod_left _ _
    · have : (((lo / 2 ^ (64 - s)).toNat : Nat) : Int) < ((2 ^ s : Nat) : Int) := by rw [Int.toNat_of_nonneg hge, pn]; exact hlt
      exact Int.ofNat_lt.1 this
  refine ⟨_, _, rfl, rfl, ?_⟩
  rw [hw, hor, IntKind.wrap_u64, Int.add_mul]
  refine ⟨by omega, by omega, by omega, by omega, ?_⟩
  rw [← hdiv, Int.mul_assoc, Int.mul_comm 18446744073709551616, ← Int.mul_assoc]
  omega

/-- From the two digits to the quotient and the rest. -/
theorem digits {X y U V Y q1 q0 : Int} {s : Nat} (hy : 0 < y) (hY : y * 2 ^ s = Y) (hX : X * 2 ^ s = U * 18446744073709551616 + V) (h1 : q1 = (U * 4294967296 + V / 4294967296) / Y)
    (h0 : q0 = ((U * 4294967296 + V / 4294967296) % Y * 4294967296 + V % 4294967296) / Y) :
    q1 * 4294967296 + q0 = X / y ∧ ((U * 4294967296 + V / 4294967296) % Y * 4294967296 + V % 4294967296) % Y / 2 ^ s = X % y := by
  have p0 : (0 : Int) < 2 ^ s := Int.pow_pos (by decide)
  have hY0 : 0 < Y := by rw [← hY]; exact Int.mul_pos hy p0
  have e1 := Int.emod_add_mul_ediv (U * 4294967296 + V / 4294967296) Y
  rw [← h1] at e1
  generalize (U * 4294967296 + V / 4294967296) % Y = R1 at *
  have e0 := Int.emod_add_mul_ediv (R1 * 4294967296 + V % 4294967296) Y
  have r0 := Int.emod_nonneg (R1 * 4294967296 + V % 4294967296) (b := Y) (by omega)
  have r1 := Int.emod_lt_of_pos (R1 * 4294967296 + V % 4294967296) hY0
  rw [← h0] at e0
  generalize (R1 * 4294967296 + V % 4294967296) % Y = R0 at *
  have hx : X * 2 ^ s = (q1 * 4294967296 + q0) * Y + R0 := by
    rw [hX, Int.add_mul, Int.mul_assoc, Int.mul_comm 4294967296 Y, ← Int.mul_assoc, Int.mul_comm q1 Y, Int.mul_comm q0 Y]
    omega
  obtain ⟨a, b⟩ := div_unique hx r0 r1
  rw [← hY, Int.mul_ediv_mul_of_pos_left _ _ p0] at a
  rw [← hY, Int.mul_comm X, Int.mul_comm y, Int.mul_emod_mul_of_pos _ _ p0] at b
  exact ⟨a.symm, by rw [← b, Int.mul_ediv_cancel_left _ (by omega)]⟩
end Go.Proofs.YtfhphgeanpmgaaaDoor.Fx
