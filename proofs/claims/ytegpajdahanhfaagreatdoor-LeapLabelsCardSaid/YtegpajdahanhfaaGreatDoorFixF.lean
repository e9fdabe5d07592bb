/- Contracts of layer 1: the specification's MulDiv, and the products and quotients of both. -/
import Derived.Test.YtegpajdahanhfaaGreatDoorFixE
import Derived.Test.YtegpajdahanhfaaGreatDoorFixP
namespace Go.Proofs.YtegpajdahanhfaaGreatDoor
open Go.RowKit Fx

set_option maxRecDepth 100000 in
theorem rmuldiv_zero (a b : Int) (w : World) :
    Calls Tryz.prog 110 #[.int .i64 a, .int .i64 b, .int .i64 0] w fun e w' => e = .returned (.tuple #[.int .i64 (sel (qok (a * b) 0) (flo (a * b) 0)), .bool (qok (a * b) 0)]) ∧ w = w' := by
  have hq := Lib.hid (qok_zero (a * b))
  go_enter Tryz.func110, Tryz.ntmps110
  go_wp2_with fail
  go_ret2
  exact ⟨by rw [hq.out]; rfl, rfl⟩

set_option maxRecDepth 100000 in
set_option maxHeartbeats 400000 in
theorem rmuldiv_neg (a b c : Int) (w : World) (h0 : -9223372036854775808 ≤ a) (h1 : a ≤ 9223372036854775807) (h2 : -9223372036854775808 ≤ b) (h3 : b ≤ 9223372036854775807) (h4 : -9223372036854775808 ≤ c) (h5 : c ≤ 9223372036854775807) (hz : c ≠ 0) (hs : (!(!decide (a < 0) == decide (b < 0)) == decide (c < 0)) = true) :
    Calls Tryz.prog 110 #[.int .i64 a, .int .i64 b, .int .i64 c] w fun e w' => e = .returned (.tuple #[.int .i64 (sel (qok (a * b) c) (flo (a * b) c)), .bool (qok (a * b) c)]) ∧ w = w' := by
  obtain ⟨p0, p1⟩ := mag_bound h0 h1 h2 h3
  have a0 := mag_nonneg a
  have a1 := mag_le h0 h1
  have b0 := mag_nonneg b
  have b1 := mag_le h2 h3
  have c0 := mag_nonneg c
  have c1 := mag_le h4 h5
  have mz : mag c ≠ 0 := fun h => hz (mag_zero.1 h)
  have mz' : (c == 0) = false := by simpa using hz
  have ho := Lib.hid (qok_okI (x := a * b) hz)
  obtain ⟨Q, hQ⟩ : ∃ Q, mag a * mag b / mag c = Q := ⟨_, rfl⟩
  obtain ⟨R, hR⟩ : ∃ R, mag a * mag b % mag c = R := ⟨_, rfl⟩
  have hf := flo_mul a b c hz
  rw [hQ, hR, sign_bool] at hf
  have Q0 : 0 ≤ Q := by rw [← hQ]; exact Int.ediv_nonneg p0 c0
  have Q1 : Q ≤ 85070591730234615865843651857942052864 := by rw [← hQ]; exact Int.le_trans (Int.ediv_le_self _ p0) p1
  have R0 : 0 ≤ R := by rw [← hR]; exact Int.emod_nonneg _ mz
  have R1 : R < mag c := by rw [← hR]; exact Int.emod_lt_of_pos _ (by omega)
  have eX : mag a * mag b / 18446744073709551616 * 18446744073709551616 + mag a * mag b % 18446744073709551616 = mag a * mag b := by omega
  have HX := Lib.hid eX
  have HQ := Lib.hid hQ
  have HR := Lib.hid hR
  clear eX hQ hR
  rw [if_pos hs] at hf
  have HG := Lib.hid hf
  clear hf
  by_cases hr : R = 0
  · have hr2 : ¬ 0 < R := by omega
    go_enter Tryz.func110, Tryz.ntmps110
    go_wp2_with fail
    refine (size_any a _ h0 h1).mono ?_
    rintro e w' ⟨rfl, rfl⟩
    go_wp2_with fail
    refine (size_any b _ h2 h3).mono ?_
    rintro e w' ⟨rfl, rfl⟩
    go_wp2_with fail
    refine (product_any (mag a) (mag b) _ a0 (by omega) b0 (by omega)).mono ?_
    rintro e w' ⟨rfl, rfl⟩
    go_wp2_with fail
    refine (size_any c _ h4 h5).mono ?_
    rintro e w' ⟨rfl, rfl⟩
    go_wp2_with fail
    refine (divide_any (mag a * mag b / 18446744073709551616) (mag a * mag b % 18446744073709551616) (mag c) _ (by omega) (by omega) (by omega) (by omega) (by omega) (by omega)).mono ?_
    rintro e w' ⟨rfl, rfl⟩
    rw [HX.out, HQ.out, HR.out]
    go_wp2_with fail
    refine (signed_any true _ _ _ (by omega) (by omega) (by omega) (by omega)).mono ?_
    rintro e w' ⟨rfl, rfl⟩
    go_wp2_with fail
    go_ret2
    exact ⟨by rw [ho.out, HG.out, if_pos hr, show -(Q / 18446744073709551616 * 18446744073709551616 + Q % 18446744073709551616) = -(Q + 0) from by omega]; rfl, rfl⟩
  · have hr2 : 0 < R := by omega
    by_cases hm : Q % 18446744073709551616 = 18446744073709551615
    · have hw : IntKind.u64.wrap 18446744073709551616 = 0 := by rw [IntKind.wrap_u64]; decide
      go_enter Tryz.func110, Tryz.ntmps110
      go_wp2_with fail
      refine (size_any a _ h0 h1).mono ?_
      rintro e w' ⟨rfl, rfl⟩
      go_wp2_with fail
      refine (size_any b _ h2 h3).mono ?_
      rintro e w' ⟨rfl, rfl⟩
      go_wp2_with fail
      refine (product_any (mag a) (mag b) _ a0 (by omega) b0 (by omega)).mono ?_
      rintro e w' ⟨rfl, rfl⟩
      go_wp2_with fail
      refine (size_any c _ h4 h5).mono ?_
      rintro e w' ⟨rfl, rfl⟩
      go_wp2_with fail
      refine (divide_any (mag a * mag b / 18446744073709551616) (mag a * mag b % 18446744073709551616) (mag c) _ (by omega) (by omega) (by omega) (by omega) (by omega) (by omega)).mono ?_
      rintro e w' ⟨rfl, rfl⟩
      rw [HX.out, HQ.out, HR.out]
      go_wp2_with fail
      refine (signed_any true _ _ _ (by omega) (by omega) (by omega) (by omega)).mono ?_
      rintro e w' ⟨rfl, rfl⟩
      go_wp2_with fail
      go_ret2
      exact ⟨by rw [ho.out, HG.out, if_neg hr, show -((Q / 18446744073709551616 + 1) * 18446744073709551616) = -(Q + 1) from by omega]; rfl, rfl⟩
    · have hw : (Q % 18446744073709551616 + 1 == 0) = false := by simp; omega
      go_enter Tryz.func110, Tryz.ntmps110
      go_wp2_with fail
      refine (size_any a _ h0 h1).mono ?_
      rintro e w' ⟨rfl, rfl⟩
      go_wp2_with fail
      refine (size_any b _ h2 h3).mono ?_
      rintro e w' ⟨rfl, rfl⟩
      go_wp2_with fail
      refine (product_any (mag a) (mag b) _ a0 (by omega) b0 (by omega)).mono ?_
      rintro e w' ⟨rfl, rfl⟩
      go_wp2_with fail
      refine (size_any c _ h4 h5).mono ?_
      rintro e w' ⟨rfl, rfl⟩
      go_wp2_with fail
      refine (divide_any (mag a * mag b / 18446744073709551616) (mag a * mag b % 18446744073709551616) (mag c) _ (by omega) (by omega) (by omega) (by omega) (by omega) (by omega)).mono ?_
      rintro e w' ⟨rfl, rfl⟩
      rw [HX.out, HQ.out, HR.out]
      go_wp2_with fail
      refine (signed_any true _ _ _ (by omega) (by omega) (by omega) (by omega)).mono ?_
      rintro e w' ⟨rfl, rfl⟩
      go_wp2_with fail
      go_ret2
      exact ⟨by rw [ho.out, HG.out, if_neg hr, show -(Q / 18446744073709551616 * 18446744073709551616 + (Q % 18446744073709551616 + 1)) = -(Q + 1) from by omega]; rfl, rfl⟩

set_option maxRecDepth 100000 in
theorem rmuldiv_pos (a b c : Int) (w : World) (h0 : -9223372036854775808 ≤ a) (h1 : a ≤ 9223372036854775807) (h2 : -9223372036854775808 ≤ b) (h3 : b ≤ 9223372036854775807) (h4 : -9223372036854775808 ≤ c) (h5 : c ≤ 9223372036854775807) (hz : c ≠ 0) (hs : (!(!decide (a < 0) == decide (b < 0)) == decide (c < 0)) = false) :
    Calls Tryz.prog 110 #[.int .i64 a, .int .i64 b, .int .i64 c] w fun e w' => e = .returned (.tuple #[.int .i64 (sel (qok (a * b) c) (flo (a * b) c)), .bool (qok (a * b) c)]) ∧ w = w' := by
  obtain ⟨p0, p1⟩ := mag_bound h0 h1 h2 h3
  have a0 := mag_nonneg a
  have a1 := mag_le h0 h1
  have b0 := mag_nonneg b
  have b1 := mag_le h2 h3
  have c0 := mag_nonneg c
  have c1 := mag_le h4 h5
  have mz : mag c ≠ 0 := fun h => hz (mag_zero.1 h)
  have mz' : (c == 0) = false := by simpa using hz
  have ho := Lib.hid (qok_okI (x := a * b) hz)
  obtain ⟨Q, hQ⟩ : ∃ Q, mag a * mag b / mag c = Q := ⟨_, rfl⟩
  obtain ⟨R, hR⟩ : ∃ R, mag a * mag b % mag c = R := ⟨_, rfl⟩
  have hf := flo_mul a b c hz
  rw [hQ, hR, sign_bool] at hf
  have Q0 : 0 ≤ Q := by rw [← hQ]; exact Int.ediv_nonneg p0 c0
  have Q1 : Q ≤ 85070591730234615865843651857942052864 := by rw [← hQ]; exact Int.le_trans (Int.ediv_le_self _ p0) p1
  have R0 : 0 ≤ R := by rw [← hR]; exact Int.emod_nonneg _ mz
  have R1 : R < mag c := by rw [← hR]; exact Int.emod_lt_of_pos _ (by omega)
  have eX : mag a * mag b / 18446744073709551616 * 18446744073709551616 + mag a * mag b % 18446744073709551616 = mag a * mag b := by omega
  have HX := Lib.hid eX
  have HQ := Lib.hid hQ
  have HR := Lib.hid hR
  clear eX hQ hR
  rw [if_neg (by rw [hs]; decide)] at hf
  have HG := Lib.hid hf
  clear hf
  go_enter Tryz.func110, Tryz.ntmps110
  go_wp2_with fail
  refine (size_any a _ h0 h1).mono ?_
  rintro e w' ⟨rfl, rfl⟩
  go_wp2_with fail
  refine (size_any b _ h2 h3).mono ?_
  rintro e w' ⟨rfl, rfl⟩
  go_wp2_with fail
  refine (product_any (mag a) (mag b) _ a0 (by omega) b0 (by omega)).mono ?_
  rintro e w' ⟨rfl, rfl⟩
  go_wp2_with fail
  refine (size_any c _ h4 h5).mono ?_
  rintro e w' ⟨rfl, rfl⟩
  go_wp2_with fail
  refine (divide_any (mag a * mag b / 18446744073709551616) (mag a * mag b % 18446744073709551616) (mag c) _ (by omega) (by omega) (by omega) (by omega) (by omega) (by omega)).mono ?_
  rintro e w' ⟨rfl, rfl⟩
  rw [HX.out, HQ.out, HR.out]
  go_wp2_with fail
  refine (signed_any false _ _ _ (by omega) (by omega) (by omega) (by omega)).mono ?_
  rintro e w' ⟨rfl, rfl⟩
  go_wp2_with fail
  go_ret2
  exact ⟨by rw [ho.out, HG.out, show Q / 18446744073709551616 * 18446744073709551616 + Q % 18446744073709551616 = Q from by omega]; rfl, rfl⟩

theorem rmuldiv_any (a b c : Int) (w : World) (h0 : -9223372036854775808 ≤ a) (h1 : a ≤ 9223372036854775807) (h2 : -9223372036854775808 ≤ b) (h3 : b ≤ 9223372036854775807) (h4 : -9223372036854775808 ≤ c) (h5 : c ≤ 9223372036854775807) :
    Calls Tryz.prog 110 #[.int .i64 a, .int .i64 b, .int .i64 c] w fun e w' => e = .returned (.tuple #[.int .i64 (sel (qok (a * b) c) (flo (a * b) c)), .bool (qok (a * b) c)]) ∧ w = w' := by
  by_cases hz : c = 0
  · subst hz; exact rmuldiv_zero a b w
  · rcases hs : (!(!decide (a < 0) == decide (b < 0)) == decide (c < 0)) with _ | _
    · exact rmuldiv_pos a b c w h0 h1 h2 h3 h4 h5 hz hs
    · exact rmuldiv_neg a b c w h0 h1 h2 h3 h4 h5 hz hs

theorem Fx.flo_one (x : Int) : flo x 1 = x := by unfold flo; rw [if_pos (by decide), Int.ediv_one]
theorem Fx.qok_one (x : Int) : qok x 1 = okI x := by rw [qok_okI (by decide), flo_one]

theorem rfloor_any (a b : Int) (w : World) (h0 : -9223372036854775808 ≤ a) (h1 : a ≤ 9223372036854775807) (h2 : -9223372036854775808 ≤ b) (h3 : b ≤ 9223372036854775807) :
    Calls Tryz.prog 91 #[.int .i64 a, .int .i64 b] w fun e w' => e = .returned (.tuple #[.int .i64 (sel (qok a b) (flo a b)), .bool (qok a b)]) ∧ w = w' := by
  go_enter Tryz.func91, Tryz.ntmps91
  go_wp2_with fail
  refine (rmuldiv_any a 1 b _ h0 h1 (by decide) (by decide) h2 h3).mono ?_
  rintro e w' ⟨rfl, rfl⟩
  rw [Int.mul_one]
  go_wp2_with fail
  go_ret2
  exact ⟨rfl, rfl⟩

theorem floor_any (a b : Int) (w : World) (h0 : -9223372036854775808 ≤ a) (h1 : a ≤ 9223372036854775807) (h2 : -9223372036854775808 ≤ b) (h3 : b ≤ 9223372036854775807) :
    Calls Tryz.prog 67 #[.int .i64 a, .int .i64 b] w fun e w' => e = .returned (.tuple #[.int .i64 (sel (qok a b) (flo a b)), .bool (qok a b)]) ∧ w = w' := by
  by_cases hd : b ≠ 0 ∧ ¬(a = -9223372036854775808 ∧ b = -1)
  · have hd' := Lib.hid (decide_eq_true hd)
    obtain ⟨hb, hc⟩ := hd
    obtain ⟨T, M, e1, e2, b1, b2, b3, b4, b5, h⟩ := quot hb hc h0 h1 h2 h3
    have hq := Lib.hid b5
    have hb' : (b == 0) = false := by simpa using hb
    clear b5
    rcases h with ⟨a1, a2, a3⟩ | ⟨a1, a2, a3, a4, a5, a6⟩ | ⟨a1, a2, a3, a4, a5, a6⟩
    · have hv := Lib.hid a2
      subst a1
      clear a2 a3
      go_enter Tryz.func67, Tryz.ntmps67
      go_wp2_with fail
      refine (divides_any a b _).mono ?_
      rintro e w' ⟨rfl, rfl⟩
      rw [hd'.out]
      go_wp2_with fail
      go_ret2
      exact ⟨by rw [hq.out, hv.out]; rfl, rfl⟩
    · have hv := Lib.hid a3
      have hm : (M == 0) = false := by simpa using a1
      clear a3 a4
      go_enter Tryz.func67, Tryz.ntmps67
      go_wp2_with fail
      refine (divides_any a b _).mono ?_
      rintro e w' ⟨rfl, rfl⟩
      rw [hd'.out]
      go_wp2_with fail
      go_ret2
      exact ⟨by rw [hq.out, hv.out]; rfl, rfl⟩
    · have hv := Lib.hid a3
      have hm : (M == 0) = false := by simpa using a1
      clear a3 a4
      go_enter Tryz.func67, Tryz.ntmps67
      go_wp2_with fail
      refine (divides_any a b _).mono ?_
      rintro e w' ⟨rfl, rfl⟩
      rw [hd'.out]
      go_wp2_with fail
      go_ret2
      exact ⟨by rw [hq.out, hv.out]; rfl, rfl⟩
  · have hd' := Lib.hid (decide_eq_false hd)
    have hq := Lib.hid (quot_no hd)
    clear hd
    go_enter Tryz.func67, Tryz.ntmps67
    go_wp2_with fail
    refine (divides_any a b _).mono ?_
    rintro e w' ⟨rfl, rfl⟩
    rw [hd'.out]
    go_wp2_with fail
    go_ret2
    exact ⟨by rw [hq.out]; rfl, rfl⟩

end Go.Proofs.YtegpajdahanhfaaGreatDoor
