/- Contracts of layer 1: MulDiv and Mul, of the program and of the specification. -/
import Derived.Test.YtjcpfkibaohjjaaFixD
namespace Go.Proofs.Ytjcpfkibaohjjaa
open Go.RowKit Fx

theorem Fx.qok_okI {x c : Int} (hc : c ≠ 0) : qok x c = okI (flo x c) := by
  unfold qok okI; simp [hc]
theorem Fx.qok_zero (x : Int) : qok x 0 = false := by unfold qok; simp
theorem Fx.mag_bound {a b : Int} (h0 : -9223372036854775808 ≤ a) (h1 : a ≤ 9223372036854775807) (h2 : -9223372036854775808 ≤ b) (h3 : b ≤ 9223372036854775807) :
    0 ≤ mag a * mag b ∧ mag a * mag b ≤ 85070591730234615865843651857942052864 := by
  have a0 := mag_nonneg a
  have b0 := mag_nonneg b
  refine ⟨Int.mul_nonneg a0 b0, ?_⟩
  have := Int.mul_le_mul (mag_le h0 h1) (mag_le h2 h3) b0 (by decide)
  exact Int.le_trans this (by decide)
/-- Where the high word is not below the divisor, there is no int. -/
theorem Fx.qok_high {a b c : Int} (h : mag c ≤ mag a * mag b / 18446744073709551616) : qok (a * b) c = false := by
  by_cases hc : c = 0
  · subst hc; exact qok_zero _
  · rw [qok_okI hc, flo_mul a b c hc]
    have m := mag_nonneg c
    have mz : mag c ≠ 0 := fun h => hc (mag_zero.1 h)
    have hq : 18446744073709551616 ≤ mag a * mag b / mag c := by
      refine Int.le_ediv_of_mul_le (by omega) ?_
      have := Int.mul_le_mul_of_nonneg_left h (show (0 : Int) ≤ 18446744073709551616 by decide)
      have := Int.mul_ediv_self_le (x := mag a * mag b) (k := 18446744073709551616) (by decide)
      omega
    refine okI_no ?_
    split
    · split <;> omega
    · omega

theorem div64_any (hi lo y X : Int) (w : World) (h0 : 0 ≤ hi) (h1 : hi < y) (h2 : 0 ≤ lo) (h3 : lo ≤ 18446744073709551615) (h5 : y ≤ 18446744073709551615) (hX : hi * 18446744073709551616 + lo = X) :
    Calls Try.prog 53 #[.int .u64 hi, .int .u64 lo, .int .u64 y] w fun e w' => e = .returned (.tuple #[.int .u64 (X / y), .int .u64 (X % y)]) ∧ ∃ n, w' = w.drewN n := by
  subst hX
  by_cases hz : hi = 0
  · subst hz
    refine (div64_low lo y w h2 h3 (by omega) h5).mono fun e w' h => ?_
    rw [show (0 : Int) * 18446744073709551616 + lo = lo from by omega]
    exact h
  · exact div64_high hi lo y w (by omega) h1 h2 h3 h5

theorem Fx.sign_bool {x y z : Bool} : ((x != y) != z) = (!(!x == y) == z) := by cases x <;> cases y <;> cases z <;> rfl

set_option maxRecDepth 100000 in
theorem muldiv_zero (a b : Int) (w : World) (h0 : -9223372036854775808 ≤ a) (h1 : a ≤ 9223372036854775807) (h2 : -9223372036854775808 ≤ b) (h3 : b ≤ 9223372036854775807) :
    Calls Try.prog 49 #[.int .i64 a, .int .i64 b, .int .i64 0] w fun e w' => e = .returned (.tuple #[.int .i64 (sel (qok (a * b) 0) (flo (a * b) 0)), .bool (qok (a * b) 0)]) ∧ ∃ n, w' = w.drewN n := by
  obtain ⟨p0, p1⟩ := mag_bound h0 h1 h2 h3
  have a0 := mag_nonneg a
  have a1 := mag_le h0 h1
  have b0 := mag_nonneg b
  have b1 := mag_le h2 h3
  have hq := Lib.hid (qok_zero (a * b))
  go_enter Try.func49, Try.ntmps49
  go_wp2_with fail
  refine (mag_any a _ h0 h1).mono ?_
  rintro e w' ⟨rfl, rfl⟩
  go_wp2_with fail
  refine (mag_any b _ h2 h3).mono ?_
  rintro e w' ⟨rfl, rfl⟩
  go_wp2_with fail
  refine (mul64_any (mag a) (mag b) _ a0 (by omega) b0 (by omega)).mono ?_
  rintro e w' ⟨rfl, rfl⟩
  go_wp2_with fail
  refine (mag_any 0 _ (by omega) (by omega)).mono ?_
  rintro e w' ⟨rfl, rfl⟩
  rw [show mag 0 = 0 from rfl]
  go_wp2_with fail
  go_ret2
  exact ⟨by rw [hq.out]; rfl, 0, rfl⟩

set_option maxRecDepth 100000 in
theorem muldiv_big (a b c : Int) (w : World) (h0 : -9223372036854775808 ≤ a) (h1 : a ≤ 9223372036854775807) (h2 : -9223372036854775808 ≤ b) (h3 : b ≤ 9223372036854775807) (h4 : -9223372036854775808 ≤ c) (h5 : c ≤ 9223372036854775807) (hz : c ≠ 0) (hh : mag c ≤ mag a * mag b / 18446744073709551616) :
    Calls Try.prog 49 #[.int .i64 a, .int .i64 b, .int .i64 c] w fun e w' => e = .returned (.tuple #[.int .i64 (sel (qok (a * b) c) (flo (a * b) c)), .bool (qok (a * b) c)]) ∧ ∃ n, w' = w.drewN n := by
  obtain ⟨p0, p1⟩ := mag_bound h0 h1 h2 h3
  have a0 := mag_nonneg a
  have a1 := mag_le h0 h1
  have b0 := mag_nonneg b
  have b1 := mag_le h2 h3
  have c0 := mag_nonneg c
  have c1 := mag_le h4 h5
  have mz : mag c ≠ 0 := fun h => hz (mag_zero.1 h)
  have mz' : (mag c == 0) = false := by simpa using mz
  have ho := Lib.hid (qok_okI (x := a * b) hz)
  have hq := Lib.hid (qok_high hh)
  go_enter Try.func49, Try.ntmps49
  go_wp2_with fail
  refine (mag_any a _ h0 h1).mono ?_
  rintro e w' ⟨rfl, rfl⟩
  go_wp2_with fail
  refine (mag_any b _ h2 h3).mono ?_
  rintro e w' ⟨rfl, rfl⟩
  go_wp2_with fail
  refine (mul64_any (mag a) (mag b) _ a0 (by omega) b0 (by omega)).mono ?_
  rintro e w' ⟨rfl, rfl⟩
  go_wp2_with fail
  refine (mag_any c _ h4 h5).mono ?_
  rintro e w' ⟨rfl, rfl⟩
  go_wp2_with fail
  go_ret2
  exact ⟨by rw [hq.out]; rfl, 0, rfl⟩

set_option maxRecDepth 100000 in
set_option maxHeartbeats 400000 in
theorem muldiv_neg (a b c : Int) (w : World) (h0 : -9223372036854775808 ≤ a) (h1 : a ≤ 9223372036854775807) (h2 : -9223372036854775808 ≤ b) (h3 : b ≤ 9223372036854775807) (h4 : -9223372036854775808 ≤ c) (h5 : c ≤ 9223372036854775807) (hz : c ≠ 0) (hh : ¬ mag c ≤ mag a * mag b / 18446744073709551616) (hs : (!(!decide (a < 0) == decide (b < 0)) == decide (c < 0)) = true) :
    Calls Try.prog 49 #[.int .i64 a, .int .i64 b, .int .i64 c] w fun e w' => e = .returned (.tuple #[.int .i64 (sel (qok (a * b) c) (flo (a * b) c)), .bool (qok (a * b) c)]) ∧ ∃ n, w' = w.drewN n := by
  obtain ⟨p0, p1⟩ := mag_bound h0 h1 h2 h3
  have a0 := mag_nonneg a
  have a1 := mag_le h0 h1
  have b0 := mag_nonneg b
  have b1 := mag_le h2 h3
  have c0 := mag_nonneg c
  have c1 := mag_le h4 h5
  have mz : mag c ≠ 0 := fun h => hz (mag_zero.1 h)
  have mz' : (mag c == 0) = false := by simpa using mz
  have ho := Lib.hid (qok_okI (x := a * b) hz)
  obtain ⟨Q, hQ⟩ : ∃ Q, mag a * mag b / mag c = Q := ⟨_, rfl⟩
  obtain ⟨R, hR⟩ : ∃ R, mag a * mag b % mag c = R := ⟨_, rfl⟩
  have hf := flo_mul a b c hz
  rw [hQ, hR, sign_bool] at hf
  have Q0 : 0 ≤ Q := by rw [← hQ]; exact Int.ediv_nonneg p0 c0
  have Q1 : Q ≤ 18446744073709551615 := by
    rw [← hQ]
    refine Int.le_of_lt_add_one (Int.ediv_lt_of_lt_mul (by omega) ?_)
    omega
  have R0 : 0 ≤ R := by rw [← hR]; exact Int.emod_nonneg _ mz
  have R1 : R < mag c := by rw [← hR]; exact Int.emod_lt_of_pos _ (by omega)
  have eX : mag a * mag b / 18446744073709551616 * 18446744073709551616 + mag a * mag b % 18446744073709551616 = mag a * mag b := by omega
  have HX := Lib.hid eX
  clear eX
  rw [if_pos hs] at hf
  have HG := Lib.hid hf
  clear hf
  by_cases hr : R = 0
  · subst hr
    go_enter Try.func49, Try.ntmps49
    go_wp2_with fail
    refine (mag_any a _ h0 h1).mono ?_
    rintro e w' ⟨rfl, rfl⟩
    go_wp2_with fail
    refine (mag_any b _ h2 h3).mono ?_
    rintro e w' ⟨rfl, rfl⟩
    go_wp2_with fail
    refine (mul64_any (mag a) (mag b) _ a0 (by omega) b0 (by omega)).mono ?_
    rintro e w' ⟨rfl, rfl⟩
    go_wp2_with fail
    refine (mag_any c _ h4 h5).mono ?_
    rintro e w' ⟨rfl, rfl⟩
    go_wp2_with fail
    refine (div64_any (mag a * mag b / 18446744073709551616) (mag a * mag b % 18446744073709551616) (mag c) (mag a * mag b) _ (by omega) (by omega) (by omega) (by omega) (by omega) HX.out).mono ?_
    rintro e w' ⟨rfl, n, rfl⟩
    go_wp2_with fail
    refine (negated_any Q _ _ Q0 Q1).mono ?_
    rintro e w' ⟨rfl, rfl⟩
    go_wp2_with fail
    go_ret2
    exact ⟨by rw [ho.out, HG.out]; simp, n, rfl⟩
  · have hr' : (R == 0) = false := by simpa using hr
    go_enter Try.func49, Try.ntmps49
    go_wp2_with fail
    refine (mag_any a _ h0 h1).mono ?_
    rintro e w' ⟨rfl, rfl⟩
    go_wp2_with fail
    refine (mag_any b _ h2 h3).mono ?_
    rintro e w' ⟨rfl, rfl⟩
    go_wp2_with fail
    refine (mul64_any (mag a) (mag b) _ a0 (by omega) b0 (by omega)).mono ?_
    rintro e w' ⟨rfl, rfl⟩
    go_wp2_with fail
    refine (mag_any c _ h4 h5).mono ?_
    rintro e w' ⟨rfl, rfl⟩
    go_wp2_with fail
    refine (div64_any (mag a * mag b / 18446744073709551616) (mag a * mag b % 18446744073709551616) (mag c) (mag a * mag b) _ (by omega) (by omega) (by omega) (by omega) (by omega) HX.out).mono ?_
    rintro e w' ⟨rfl, n, rfl⟩
    go_wp2_with fail
    refine (negated_any Q _ _ Q0 Q1).mono ?_
    rintro e w' ⟨rfl, rfl⟩
    go_wp2_with fail
    go_ret2
    exact ⟨by rw [ho.out, HG.out]; simp [hr], n, rfl⟩

set_option maxRecDepth 100000 in
theorem muldiv_pos (a b c : Int) (w : World) (h0 : -9223372036854775808 ≤ a) (h1 : a ≤ 9223372036854775807) (h2 : -9223372036854775808 ≤ b) (h3 : b ≤ 9223372036854775807) (h4 : -9223372036854775808 ≤ c) (h5 : c ≤ 9223372036854775807) (hz : c ≠ 0) (hh : ¬ mag c ≤ mag a * mag b / 18446744073709551616) (hs : (!(!decide (a < 0) == decide (b < 0)) == decide (c < 0)) = false) :
    Calls Try.prog 49 #[.int .i64 a, .int .i64 b, .int .i64 c] w fun e w' => e = .returned (.tuple #[.int .i64 (sel (qok (a * b) c) (flo (a * b) c)), .bool (qok (a * b) c)]) ∧ ∃ n, w' = w.drewN n := by
  obtain ⟨p0, p1⟩ := mag_bound h0 h1 h2 h3
  have a0 := mag_nonneg a
  have a1 := mag_le h0 h1
  have b0 := mag_nonneg b
  have b1 := mag_le h2 h3
  have c0 := mag_nonneg c
  have c1 := mag_le h4 h5
  have mz : mag c ≠ 0 := fun h => hz (mag_zero.1 h)
  have mz' : (mag c == 0) = false := by simpa using mz
  have ho := Lib.hid (qok_okI (x := a * b) hz)
  obtain ⟨Q, hQ⟩ : ∃ Q, mag a * mag b / mag c = Q := ⟨_, rfl⟩
  obtain ⟨R, hR⟩ : ∃ R, mag a * mag b % mag c = R := ⟨_, rfl⟩
  have hf := flo_mul a b c hz
  rw [hQ, hR, sign_bool] at hf
  have Q0 : 0 ≤ Q := by rw [← hQ]; exact Int.ediv_nonneg p0 c0
  have Q1 : Q ≤ 18446744073709551615 := by
    rw [← hQ]
    refine Int.le_of_lt_add_one (Int.ediv_lt_of_lt_mul (by omega) ?_)
    omega
  have R0 : 0 ≤ R := by rw [← hR]; exact Int.emod_nonneg _ mz
  have R1 : R < mag c := by rw [← hR]; exact Int.emod_lt_of_pos _ (by omega)
  have eX : mag a * mag b / 18446744073709551616 * 18446744073709551616 + mag a * mag b % 18446744073709551616 = mag a * mag b := by omega
  have HX := Lib.hid eX
  clear eX
  rw [if_neg (by rw [hs]; decide)] at hf
  have HG := Lib.hid hf
  clear hf
  go_enter Try.func49, Try.ntmps49
  go_wp2_with fail
  refine (mag_any a _ h0 h1).mono ?_
  rintro e w' ⟨rfl, rfl⟩
  go_wp2_with fail
  refine (mag_any b _ h2 h3).mono ?_
  rintro e w' ⟨rfl, rfl⟩
  go_wp2_with fail
  refine (mul64_any (mag a) (mag b) _ a0 (by omega) b0 (by omega)).mono ?_
  rintro e w' ⟨rfl, rfl⟩
  go_wp2_with fail
  refine (mag_any c _ h4 h5).mono ?_
  rintro e w' ⟨rfl, rfl⟩
  go_wp2_with fail
  refine (div64_any (mag a * mag b / 18446744073709551616) (mag a * mag b % 18446744073709551616) (mag c) (mag a * mag b) _ (by omega) (by omega) (by omega) (by omega) (by omega) HX.out).mono ?_
  rintro e w' ⟨rfl, n, rfl⟩
  by_cases hm : 9223372036854775807 < Q
  · go_wp2_with fail
    go_ret2
    exact ⟨by rw [ho.out, HG.out, okI_no (.inr hm)]; rfl, n, rfl⟩
  · go_wp2_with fail
    go_ret2
    exact ⟨by rw [ho.out, HG.out, okI_yes (by omega) (by omega)]; rfl, n, rfl⟩

theorem muldiv_any (a b c : Int) (w : World) (h0 : -9223372036854775808 ≤ a) (h1 : a ≤ 9223372036854775807) (h2 : -9223372036854775808 ≤ b) (h3 : b ≤ 9223372036854775807) (h4 : -9223372036854775808 ≤ c) (h5 : c ≤ 9223372036854775807) :
    Calls Try.prog 49 #[.int .i64 a, .int .i64 b, .int .i64 c] w fun e w' => e = .returned (.tuple #[.int .i64 (sel (qok (a * b) c) (flo (a * b) c)), .bool (qok (a * b) c)]) ∧ ∃ n, w' = w.drewN n := by
  by_cases hz : c = 0
  · subst hz; exact muldiv_zero a b w h0 h1 h2 h3
  · by_cases hh : mag c ≤ mag a * mag b / 18446744073709551616
    · exact muldiv_big a b c w h0 h1 h2 h3 h4 h5 hz hh
    · rcases hs : (!(!decide (a < 0) == decide (b < 0)) == decide (c < 0)) with _ | _
      · exact muldiv_pos a b c w h0 h1 h2 h3 h4 h5 hz hh hs
      · exact muldiv_neg a b c w h0 h1 h2 h3 h4 h5 hz hh hs
end Go.Proofs.Ytjcpfkibaohjjaa
