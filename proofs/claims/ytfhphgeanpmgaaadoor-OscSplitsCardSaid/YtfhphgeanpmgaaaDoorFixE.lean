/- Contracts of layer 1: MulDiv and Mul, of the program and of the specification. -/
import Derived.Test.YtfhphgeanpmgaaaDoorFixD
namespace Go.Proofs.YtfhphgeanpmgaaaDoor
open Go.RowKit Fx

theorem Fx.qok_okI {x c : Int} (hc : c ≠ 0) : qok x c = okI (flo x c) := by
  unfold qok okI; simp [hc]
theorem Fx.qok_zero (x : Int) : qok x 0 = false := by unfold qok; simp
theorem Fx.mag_bound {a b : Int} (h0 : -9223372036854775808 ≤ a) (h1 : a ≤ 9223372036854775807) (h2 : -9223372036854775808 ≤ b) (h3 : b ≤ 9223372036854775807) :
    0 ≤ mag a * mag b ∧ mag a * mag b ≤ 85070591730234615865843651857942052864 := by
  have a0 := mag_nonneg a
  have b0 := mag_nonneg b
  refine ⟨Int.mul_nonneg a0 b0, ?_⟩
  have := Int.mul_le_mul (mag_le h0 h1) (mag_le h2 h3) b0 (by decide)
  exact Int.le_trans this (by decide)
/-- Where the high word is not below the divisor, there is no int. -/
theorem Fx.qok_high {a b c : Int} (h : mag c ≤ mag a * mag b / 18446744073709551616) : qok (a * b) c = false := by
  by_cases hc : c = 0
  · subst hc; exact qok_zero _
  · rw [qok_okI hc, flo_mul a b c hc]
    have m := mag_nonneg c
    have mz : mag c ≠ 0 := fun h => hc (mag_zero.1 h)
    have hq : 18446744073709551616 ≤ mag a * mag b / mag c := by
      refine Int.le_ediv_of_mul_le (by omega) ?_
      have := Int.mul_le_mul_of_nonneg_left h (show (0 : Int) ≤ 18446744073709551616 by decide)
      have := Int.mul_ediv_self_le (x := mag a * mag b) (k := 18446744073709551616) (by decide)
      omega
    refine okI_no ?_
    split
    · split <;> omega
    · omega

theorem Fx.sign_bool {x y z : Bool} : ((x != y) != z) = (!(!x == y) == z) := by cases x <;> cases y <;> cases z <;> rfl

end Go.Proofs.YtfhphgeanpmgaaaDoor
