/- Contracts of layer 1: the nearest integer and rates. -/
import Derived.Test.YtkcllhcinbcgiaaFixG
namespace Go.Proofs.Ytkcllhcinbcgiaa
open Go.RowKit Fx

theorem Fx.tmod2 {q : Int} : q.tmod 2 = 0 ↔ q % 2 = 0 :=
  ⟨fun h => Int.emod_eq_zero_of_dvd (Int.dvd_of_tmod_eq_zero h), fun h => Int.tmod_eq_zero_of_dvd (Int.dvd_of_emod_eq_zero h)⟩

/-- What the nearest integer goes by: the quotient q, what is cut off (C) and whether q is odd. -/
theorem Fx.near_parts {a b : Int} (h0 : -9223372036854775808 ≤ a) (h1 : a ≤ 9223372036854775807) (h2 : -9223372036854775808 ≤ b) (h3 : b ≤ 9223372036854775807) (hq : qok a b = true) :
    ∃ q r C : Int, flo a b = q ∧ a - q * b = r ∧ mag r = C ∧ -9223372036854775808 ≤ q ∧ q ≤ 9223372036854775807 ∧ -9223372036854775808 ≤ r ∧ r ≤ 9223372036854775807 ∧ 0 ≤ C ∧ C < mag b ∧
      (0 < C → okI (q + 1) = true) ∧ nearI a b = (if mag b < 2 * C ∨ (2 * C = mag b ∧ q % 2 ≠ 0) then q + 1 else q) ∧ wrap64 (a - wrap64 (q * b)) = r := by
  obtain ⟨hb, c1, c2⟩ := qok_iff.1 hq
  have hC := cut_lt a b hb
  have mb := mag_le h2 h3
  have rr : -9223372036854775808 ≤ a - flo a b * b ∧ a - flo a b * b ≤ 9223372036854775807 := by
    have : mag (a - flo a b * b) < 9223372036854775808 := by omega
    unfold mag at this; split at this <;> omega
  refine ⟨flo a b, a - flo a b * b, mag (a - flo a b * b), rfl, rfl, rfl, c1, c2, rr.1, rr.2, mag_nonneg _, hC, fun h => ?_, rfl, ?_⟩
  · refine (flo_next hb h0 h1 h2 h3 hq fun he => ?_).1
    rw [he, Int.sub_self] at h
    exact absurd h (by decide)
  · unfold wrap64; omega

theorem near_yes (a b : Int) (w : World) (h0 : -9223372036854775808 ≤ a) (h1 : a ≤ 9223372036854775807) (h2 : -9223372036854775808 ≤ b) (h3 : b ≤ 9223372036854775807) (hq : qok a b = true) :
    Calls Try.prog 28 #[.int .i64 a, .int .i64 b] w fun e w' => e = .returned (.tuple #[.int .i64 (nearI a b), .bool true]) ∧ w = w' := by
  obtain ⟨q, r, C, e1, e2, e3, q0, q1, r0, r1, C0, C1, hn, hv, hw⟩ := near_parts h0 h1 h2 h3 hq
  have mb := mag_le h2 h3
  have Hq := Lib.hid hq
  have Hr := Lib.hid e2
  have HC := Lib.hid e3
  have Hv := Lib.hid hv
  have Hn := Lib.hid hn
  clear hq hv hn e2
  have He := Lib.hid e1
  clear e1 e3
  by_cases c1 : mag b - C < C
  · have hn := Hn.out (by omega)
    obtain ⟨n0, n1⟩ := okI_iff.1 hn
    rw [if_pos (.inl (by omega))] at Hv
    clear hn
    go_enter Try.func28, Try.ntmps28
    go_wp2_with fail
    refine (floor_yes a b _ h0 h1 h2 h3 Hq.out).mono ?_
    rintro e w' ⟨rfl, rfl⟩
    rw [He.out]
    go_wp2_with fail
    refine (mag_any r _ r0 r1).mono ?_
    rintro e w' ⟨rfl, rfl⟩
    rw [HC.out]
    go_wp2_with fail
    refine (mag_any b _ h2 h3).mono ?_
    rintro e w' ⟨rfl, rfl⟩
    go_wp2_with fail
    go_ret2
    exact ⟨by rw [Hv.out]; rfl, rfl⟩
  · by_cases c2 : C = mag b - C
    · have hc2 : (C == mag b - C) = true := by simpa using c2
      have Hc2 := Lib.hid c2
      clear c2
      have hn := Hn.out (by have := Hc2.out; omega)
      obtain ⟨n0, n1⟩ := okI_iff.1 hn
      clear hn
      by_cases c3 : q.tmod 2 = 0
      · rw [if_neg (by have := Hc2.out; have := tmod2.1 c3; intro h; rcases h with h | h <;> omega)] at Hv
        go_enter Try.func28, Try.ntmps28
        go_wp2_with fail
        refine (floor_yes a b _ h0 h1 h2 h3 Hq.out).mono ?_
        rintro e w' ⟨rfl, rfl⟩
        rw [He.out]
        go_wp2_with fail
        refine (mag_any r _ r0 r1).mono ?_
        rintro e w' ⟨rfl, rfl⟩
        rw [HC.out]
        go_wp2_with fail
        refine (mag_any b _ h2 h3).mono ?_
        rintro e w' ⟨rfl, rfl⟩
        go_wp2_with fail
        go_ret2
        exact ⟨by rw [Hv.out]; rfl, rfl⟩
      · have c3' : (q.tmod 2 == 0) = false := by simpa using c3
        rw [if_pos (.inr ⟨by have := Hc2.out; omega, fun h => c3 (tmod2.2 h)⟩)] at Hv
        go_enter Try.func28, Try.ntmps28
        go_wp2_with fail
        refine (floor_yes a b _ h0 h1 h2 h3 Hq.out).mono ?_
        rintro e w' ⟨rfl, rfl⟩
        rw [He.out]
        go_wp2_with fail
        refine (mag_any r _ r0 r1).mono ?_
        rintro e w' ⟨rfl, rfl⟩
        rw [HC.out]
        go_wp2_with fail
        refine (mag_any b _ h2 h3).mono ?_
        rintro e w' ⟨rfl, rfl⟩
        go_wp2_with fail
        go_ret2
        exact ⟨by rw [Hv.out]; rfl, rfl⟩
    · have c2' : (C == mag b - C) = false := by simpa using c2
      rw [if_neg (by intro h; rcases h with h | h <;> omega)] at Hv
      go_enter Try.func28, Try.ntmps28
      go_wp2_with fail
      refine (floor_yes a b _ h0 h1 h2 h3 Hq.out).mono ?_
      rintro e w' ⟨rfl, rfl⟩
      rw [He.out]
      go_wp2_with fail
      refine (mag_any r _ r0 r1).mono ?_
      rintro e w' ⟨rfl, rfl⟩
      rw [HC.out]
      go_wp2_with fail
      refine (mag_any b _ h2 h3).mono ?_
      rintro e w' ⟨rfl, rfl⟩
      go_wp2_with fail
      go_ret2
      exact ⟨by rw [Hv.out]; rfl, rfl⟩

theorem near_any (a b : Int) (w : World) (h0 : -9223372036854775808 ≤ a) (h1 : a ≤ 9223372036854775807) (h2 : -9223372036854775808 ≤ b) (h3 : b ≤ 9223372036854775807) :
    Calls Try.prog 28 #[.int .i64 a, .int .i64 b] w fun e w' => e = .returned (.tuple #[.int .i64 (sel (qok a b) (nearI a b)), .bool (qok a b)]) ∧ w = w' := by
  rcases hq : qok a b with _ | _
  · have Hq := Lib.hid hq
    clear hq
    go_enter Try.func28, Try.ntmps28
    go_wp2_with fail
    refine (floor_no a b _ h0 h1 h2 h3 Hq.out).mono ?_
    rintro e w' ⟨rfl, rfl⟩
    go_wp2_with fail
    go_ret2
    exact ⟨rfl, rfl⟩
  · exact near_yes a b w h0 h1 h2 h3 hq

set_option maxHeartbeats 400000 in
set_option maxRecDepth 100000 in
theorem rnear_far (a b : Int) (w : World) (h0 : -9223372036854775808 ≤ a) (h1 : a ≤ 9223372036854775807) (h2 : -9223372036854775808 ≤ b) (h3 : b ≤ 9223372036854775807) (hq : qok a b = true) (hs : (!decide (a < 0) == decide (b < 0)) = true) (hz : 0 < mag a % mag b) (hm : mag (a - flo a b * b) = mag b - mag a % mag b) :
    Calls Try.prog 29 #[.int .i64 a, .int .i64 b] w fun e w' => e = .returned (.tuple #[.int .i64 (nearI a b), .bool true]) ∧ w = w' := by
  obtain ⟨q, r, C, e1, e2, e3, q0, q1, r0, r1, C0, C1, hn, hv, hw⟩ := near_parts h0 h1 h2 h3 hq
  have mb := mag_le h2 h3
  have Hq := Lib.hid hq
  have Hr := Lib.hid e2
  have HC := Lib.hid e3
  have Hv := Lib.hid hv
  have Hn := Lib.hid hn
  clear hq hv hn e2
  have a0 := mag_nonneg a
  have a1 := mag_le h0 h1
  have He := Lib.hid e1
  clear e1 e3
  have hR : mag a % mag b = mag b - C := by rw [← HC.out, ← Hr.out, ← He.out]; omega
  have HR := Lib.hid hR
  have hrr : mag b - (mag b - C) = C := by omega
  have hC0 : 0 < mag b - C := by omega
  clear hR hm hz
  by_cases c1 : mag b - C < C
  · have Hn1 := Lib.hid (Hn.out (by omega))
    rw [if_pos (.inl (by omega))] at Hv
    go_enter Try.func29, Try.ntmps29
    go_wp2_with fail
    refine (rfloor_yes a b _ h0 h1 h2 h3 Hq.out).mono ?_
    rintro e w' ⟨rfl, rfl⟩
    rw [He.out]
    go_wp2_with fail
    refine (size_any a _ h0 h1).mono ?_
    rintro e w' ⟨rfl, rfl⟩
    go_wp2_with fail
    refine (size_any b _ h2 h3).mono ?_
    rintro e w' ⟨rfl, rfl⟩
    go_wp2_with fail
    refine (divide_any 0 (mag a) (mag b) _ (by decide) (by decide) a0 (by omega) (by omega) (by omega)).mono ?_
    rintro e w' ⟨rfl, rfl⟩
    rw [show (0 : Int) * 18446744073709551616 + mag a = mag a from by omega, HR.out]
    go_wp2_with fail
    refine (size_any b _ h2 h3).mono ?_
    rintro e w' ⟨rfl, rfl⟩
    go_wp2_with fail
    refine (size_any b _ h2 h3).mono ?_
    rintro e w' ⟨rfl, rfl⟩
    go_wp2_with fail
    refine (radd_yes q 1 _ q0 q1 (by decide) (by decide) Hn1.out).mono ?_
    rintro e w' ⟨rfl, rfl⟩
    go_wp2_with fail
    go_ret2
    exact ⟨by rw [Hv.out]; rfl, rfl⟩
  · have c1d : decide (mag b - C < C) = false := by simpa using c1
    by_cases c2 : C = mag b - C
    · have hc2 : (C == mag b - C) = true := by simpa using c2
      have Hc2 := Lib.hid c2
      clear c2
      by_cases c3 : q.tmod 2 = 0
      · rw [if_neg (by have := Hc2.out; have := tmod2.1 c3; intro h; rcases h with h | h <;> omega)] at Hv
        go_enter Try.func29, Try.ntmps29
        go_wp2_with fail
        refine (rfloor_yes a b _ h0 h1 h2 h3 Hq.out).mono ?_
        rintro e w' ⟨rfl, rfl⟩
        rw [He.out]
        go_wp2_with fail
        refine (size_any a _ h0 h1).mono ?_
        rintro e w' ⟨rfl, rfl⟩
        go_wp2_with fail
        refine (size_any b _ h2 h3).mono ?_
        rintro e w' ⟨rfl, rfl⟩
        go_wp2_with fail
        refine (divide_any 0 (mag a) (mag b) _ (by decide) (by decide) a0 (by omega) (by omega) (by omega)).mono ?_
        rintro e w' ⟨rfl, rfl⟩
        rw [show (0 : Int) * 18446744073709551616 + mag a = mag a from by omega, HR.out]
        go_wp2_with fail
        refine (size_any b _ h2 h3).mono ?_
        rintro e w' ⟨rfl, rfl⟩
        go_wp2_with fail
        refine (size_any b _ h2 h3).mono ?_
        rintro e w' ⟨rfl, rfl⟩
        go_wp2_with fail
        go_ret2
        exact ⟨by rw [Hv.out]; rfl, rfl⟩
      · have c3' : (q.tmod 2 == 0) = false := by simpa using c3
        have Hn1 := Lib.hid (Hn.out (by have := Hc2.out; omega))
        rw [if_pos (.inr ⟨by have := Hc2.out; omega, fun h => c3 (tmod2.2 h)⟩)] at Hv
        go_enter Try.func29, Try.ntmps29
        go_wp2_with fail
        refine (rfloor_yes a b _ h0 h1 h2 h3 Hq.out).mono ?_
        rintro e w' ⟨rfl, rfl⟩
        rw [He.out]
        go_wp2_with fail
        refine (size_any a _ h0 h1).mono ?_
        rintro e w' ⟨rfl, rfl⟩
        go_wp2_with fail
        refine (size_any b _ h2 h3).mono ?_
        rintro e w' ⟨rfl, rfl⟩
        go_wp2_with fail
        refine (divide_any 0 (mag a) (mag b) _ (by decide) (by decide) a0 (by omega) (by omega) (by omega)).mono ?_
        rintro e w' ⟨rfl, rfl⟩
        rw [show (0 : Int) * 18446744073709551616 + mag a = mag a from by omega, HR.out]
        go_wp2_with fail
        refine (size_any b _ h2 h3).mono ?_
        rintro e w' ⟨rfl, rfl⟩
        go_wp2_with fail
        refine (size_any b _ h2 h3).mono ?_
        rintro e w' ⟨rfl, rfl⟩
        go_wp2_with fail
        refine (radd_yes q 1 _ q0 q1 (by decide) (by decide) Hn1.out).mono ?_
        rintro e w' ⟨rfl, rfl⟩
        go_wp2_with fail
        go_ret2
        exact ⟨by rw [Hv.out]; rfl, rfl⟩
    · have c2' : (C == mag b - C) = false := by simpa using c2
      rw [if_neg (by intro h; rcases h with h | h <;> omega)] at Hv
      go_enter Try.func29, Try.ntmps29
      go_wp2_with fail
      refine (rfloor_yes a b _ h0 h1 h2 h3 Hq.out).mono ?_
      rintro e w' ⟨rfl, rfl⟩
      rw [He.out]
      go_wp2_with fail
      refine (size_any a _ h0 h1).mono ?_
      rintro e w' ⟨rfl, rfl⟩
      go_wp2_with fail
      refine (size_any b _ h2 h3).mono ?_
      rintro e w' ⟨rfl, rfl⟩
      go_wp2_with fail
      refine (divide_any 0 (mag a) (mag b) _ (by decide) (by decide) a0 (by omega) (by omega) (by omega)).mono ?_
      rintro e w' ⟨rfl, rfl⟩
      rw [show (0 : Int) * 18446744073709551616 + mag a = mag a from by omega, HR.out]
      go_wp2_with fail
      refine (size_any b _ h2 h3).mono ?_
      rintro e w' ⟨rfl, rfl⟩
      go_wp2_with fail
      refine (size_any b _ h2 h3).mono ?_
      rintro e w' ⟨rfl, rfl⟩
      go_wp2_with fail
      go_ret2
      exact ⟨by rw [Hv.out]; rfl, rfl⟩

set_option maxHeartbeats 400000 in
set_option maxRecDepth 100000 in
theorem rnear_same (a b : Int) (w : World) (h0 : -9223372036854775808 ≤ a) (h1 : a ≤ 9223372036854775807) (h2 : -9223372036854775808 ≤ b) (h3 : b ≤ 9223372036854775807) (hq : qok a b = true) (hs : (!decide (a < 0) == decide (b < 0)) = false) (hz : 0 < mag a % mag b) (hm : mag (a - flo a b * b) = mag a % mag b) :
    Calls Try.prog 29 #[.int .i64 a, .int .i64 b] w fun e w' => e = .returned (.tuple #[.int .i64 (nearI a b), .bool true]) ∧ w = w' := by
  obtain ⟨q, r, C, e1, e2, e3, q0, q1, r0, r1, C0, C1, hn, hv, hw⟩ := near_parts h0 h1 h2 h3 hq
  have mb := mag_le h2 h3
  have Hq := Lib.hid hq
  have Hr := Lib.hid e2
  have HC := Lib.hid e3
  have Hv := Lib.hid hv
  have Hn := Lib.hid hn
  clear hq hv hn e2
  have a0 := mag_nonneg a
  have a1 := mag_le h0 h1
  have He := Lib.hid e1
  clear e1 e3
  have hR : mag a % mag b = C := by rw [← HC.out, ← Hr.out, ← He.out]; omega
  have HR := Lib.hid hR
  have hC0 : 0 < C := by omega
  clear hR hm hz
  by_cases c1 : mag b - C < C
  · have Hn1 := Lib.hid (Hn.out (by omega))
    rw [if_pos (.inl (by omega))] at Hv
    go_enter Try.func29, Try.ntmps29
    go_wp2_with fail
    refine (rfloor_yes a b _ h0 h1 h2 h3 Hq.out).mono ?_
    rintro e w' ⟨rfl, rfl⟩
    rw [He.out]
    go_wp2_with fail
    refine (size_any a _ h0 h1).mono ?_
    rintro e w' ⟨rfl, rfl⟩
    go_wp2_with fail
    refine (size_any b _ h2 h3).mono ?_
    rintro e w' ⟨rfl, rfl⟩
    go_wp2_with fail
    refine (divide_any 0 (mag a) (mag b) _ (by decide) (by decide) a0 (by omega) (by omega) (by omega)).mono ?_
    rintro e w' ⟨rfl, rfl⟩
    rw [show (0 : Int) * 18446744073709551616 + mag a = mag a from by omega, HR.out]
    go_wp2_with fail
    refine (size_any b _ h2 h3).mono ?_
    rintro e w' ⟨rfl, rfl⟩
    go_wp2_with fail
    refine (radd_yes q 1 _ q0 q1 (by decide) (by decide) Hn1.out).mono ?_
    rintro e w' ⟨rfl, rfl⟩
    go_wp2_with fail
    go_ret2
    exact ⟨by rw [Hv.out]; rfl, rfl⟩
  · have c1d : decide (mag b - C < C) = false := by simpa using c1
    by_cases c2 : C = mag b - C
    · have hc2 : (C == mag b - C) = true := by simpa using c2
      have Hc2 := Lib.hid c2
      clear c2
      by_cases c3 : q.tmod 2 = 0
      · rw [if_neg (by have := Hc2.out; have := tmod2.1 c3; intro h; rcases h with h | h <;> omega)] at Hv
        go_enter Try.func29, Try.ntmps29
        go_wp2_with fail
        refine (rfloor_yes a b _ h0 h1 h2 h3 Hq.out).mono ?_
        rintro e w' ⟨rfl, rfl⟩
        rw [He.out]
        go_wp2_with fail
        refine (size_any a _ h0 h1).mono ?_
        rintro e w' ⟨rfl, rfl⟩
        go_wp2_with fail
        refine (size_any b _ h2 h3).mono ?_
        rintro e w' ⟨rfl, rfl⟩
        go_wp2_with fail
        refine (divide_any 0 (mag a) (mag b) _ (by decide) (by decide) a0 (by omega) (by omega) (by omega)).mono ?_
        rintro e w' ⟨rfl, rfl⟩
        rw [show (0 : Int) * 18446744073709551616 + mag a = mag a from by omega, HR.out]
        go_wp2_with fail
        refine (size_any b _ h2 h3).mono ?_
        rintro e w' ⟨rfl, rfl⟩
        go_wp2_with fail
        go_ret2
        exact ⟨by rw [Hv.out]; rfl, rfl⟩
      · have c3' : (q.tmod 2 == 0) = false := by simpa using c3
        have Hn1 := Lib.hid (Hn.out (by have := Hc2.out; omega))
        rw [if_pos (.inr ⟨by have := Hc2.out; omega, fun h => c3 (tmod2.2 h)⟩)] at Hv
        go_enter Try.func29, Try.ntmps29
        go_wp2_with fail
        refine (rfloor_yes a b _ h0 h1 h2 h3 Hq.out).mono ?_
        rintro e w' ⟨rfl, rfl⟩
        rw [He.out]
        go_wp2_with fail
        refine (size_any a _ h0 h1).mono ?_
        rintro e w' ⟨rfl, rfl⟩
        go_wp2_with fail
        refine (size_any b _ h2 h3).mono ?_
        rintro e w' ⟨rfl, rfl⟩
        go_wp2_with fail
        refine (divide_any 0 (mag a) (mag b) _ (by decide) (by decide) a0 (by omega) (by omega) (by omega)).mono ?_
        rintro e w' ⟨rfl, rfl⟩
        rw [show (0 : Int) * 18446744073709551616 + mag a = mag a from by omega, HR.out]
        go_wp2_with fail
        refine (size_any b _ h2 h3).mono ?_
        rintro e w' ⟨rfl, rfl⟩
        go_wp2_with fail
        refine (radd_yes q 1 _ q0 q1 (by decide) (by decide) Hn1.out).mono ?_
        rintro e w' ⟨rfl, rfl⟩
        go_wp2_with fail
        go_ret2
        exact ⟨by rw [Hv.out]; rfl, rfl⟩
    · have c2' : (C == mag b - C) = false := by simpa using c2
      rw [if_neg (by intro h; rcases h with h | h <;> omega)] at Hv
      go_enter Try.func29, Try.ntmps29
      go_wp2_with fail
      refine (rfloor_yes a b _ h0 h1 h2 h3 Hq.out).mono ?_
      rintro e w' ⟨rfl, rfl⟩
      rw [He.out]
      go_wp2_with fail
      refine (size_any a _ h0 h1).mono ?_
      rintro e w' ⟨rfl, rfl⟩
      go_wp2_with fail
      refine (size_any b _ h2 h3).mono ?_
      rintro e w' ⟨rfl, rfl⟩
      go_wp2_with fail
      refine (divide_any 0 (mag a) (mag b) _ (by decide) (by decide) a0 (by omega) (by omega) (by omega)).mono ?_
      rintro e w' ⟨rfl, rfl⟩
      rw [show (0 : Int) * 18446744073709551616 + mag a = mag a from by omega, HR.out]
      go_wp2_with fail
      refine (size_any b _ h2 h3).mono ?_
      rintro e w' ⟨rfl, rfl⟩
      go_wp2_with fail
      go_ret2
      exact ⟨by rw [Hv.out]; rfl, rfl⟩

set_option maxRecDepth 100000 in
theorem rnear_exact (a b : Int) (w : World) (h0 : -9223372036854775808 ≤ a) (h1 : a ≤ 9223372036854775807) (h2 : -9223372036854775808 ≤ b) (h3 : b ≤ 9223372036854775807) (hq : qok a b = true) (hz : mag a % mag b = 0) (hm : mag (a - flo a b * b) = 0) :
    Calls Try.prog 29 #[.int .i64 a, .int .i64 b] w fun e w' => e = .returned (.tuple #[.int .i64 (nearI a b), .bool true]) ∧ w = w' := by
  obtain ⟨q, r, C, e1, e2, e3, q0, q1, r0, r1, C0, C1, hn, hv, hw⟩ := near_parts h0 h1 h2 h3 hq
  have mb := mag_le h2 h3
  have Hq := Lib.hid hq
  have Hr := Lib.hid e2
  have HC := Lib.hid e3
  have Hv := Lib.hid hv
  have Hn := Lib.hid hn
  clear hq hv hn e2
  have a0 := mag_nonneg a
  have a1 := mag_le h0 h1
  have He := Lib.hid e1
  clear e1 e3
  have hC : C = 0 := by rw [← HC.out, ← Hr.out, ← He.out]; exact hm
  subst hC
  have HR := Lib.hid hz
  clear hz hm
  have hb0 : 0 < mag b := by omega
  have hb1 : (0 == mag b) = false := by simp; omega
  rw [if_neg (by intro h; rcases h with h | h <;> omega)] at Hv
  go_enter Try.func29, Try.ntmps29
  go_wp2_with fail
  refine (rfloor_yes a b _ h0 h1 h2 h3 Hq.out).mono ?_
  rintro e w' ⟨rfl, rfl⟩
  rw [He.out]
  go_wp2_with fail
  refine (size_any a _ h0 h1).mono ?_
  rintro e w' ⟨rfl, rfl⟩
  go_wp2_with fail
  refine (size_any b _ h2 h3).mono ?_
  rintro e w' ⟨rfl, rfl⟩
  go_wp2_with fail
  refine (divide_any 0 (mag a) (mag b) _ (by decide) (by decide) a0 (by omega) (by omega) (by omega)).mono ?_
  rintro e w' ⟨rfl, rfl⟩
  rw [show (0 : Int) * 18446744073709551616 + mag a = mag a from by omega, HR.out]
  go_wp2_with fail
  refine (size_any b _ h2 h3).mono ?_
  rintro e w' ⟨rfl, rfl⟩
  go_wp2_with fail
  go_ret2
  exact ⟨by rw [Hv.out]; rfl, rfl⟩

theorem rnear_any (a b : Int) (w : World) (h0 : -9223372036854775808 ≤ a) (h1 : a ≤ 9223372036854775807) (h2 : -9223372036854775808 ≤ b) (h3 : b ≤ 9223372036854775807) :
    Calls Try.prog 29 #[.int .i64 a, .int .i64 b] w fun e w' => e = .returned (.tuple #[.int .i64 (sel (qok a b) (nearI a b)), .bool (qok a b)]) ∧ w = w' := by
  rcases hq : qok a b with _ | _
  · have Hq := Lib.hid hq
    clear hq
    go_enter Try.func29, Try.ntmps29
    go_wp2_with fail
    refine (rfloor_no a b _ h0 h1 h2 h3 Hq.out).mono ?_
    rintro e w' ⟨rfl, rfl⟩
    go_wp2_with fail
    go_ret2
    exact ⟨rfl, rfl⟩
  · have hb := (qok_iff.1 hq).1
    have hm := cut_mag a b hb
    have h4 : 0 ≤ mag a % mag b := Int.emod_nonneg _ fun h => hb (mag_zero.1 h)
    by_cases hz : mag a % mag b = 0
    · rw [if_neg (by omega)] at hm
      exact rnear_exact a b w h0 h1 h2 h3 hq hz (hm.trans hz)
    · rcases hs : (!decide (a < 0) == decide (b < 0)) with _ | _
      · rw [if_neg (by rw [hs]; simp)] at hm
        exact rnear_same a b w h0 h1 h2 h3 hq hs (by omega) hm
      · rw [if_pos ⟨by omega, hs⟩] at hm
        exact rnear_far a b w h0 h1 h2 h3 hq hs (by omega) hm

end Go.Proofs.Ytkcllhcinbcgiaa
