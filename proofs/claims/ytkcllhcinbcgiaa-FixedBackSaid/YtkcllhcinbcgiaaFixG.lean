/- Contracts of layer 1: the nearest integer, rates, the specification's quotient rounded up. -/
import Derived.Test.YtkcllhcinbcgiaaFixF
namespace Go.Proofs.Ytkcllhcinbcgiaa
open Go.RowKit Fx

theorem rfloor_yes (a b : Int) (w : World) (h0 : -9223372036854775808 ≤ a) (h1 : a ≤ 9223372036854775807) (h2 : -9223372036854775808 ≤ b) (h3 : b ≤ 9223372036854775807) (hq : qok a b = true) :
    Calls Try.prog 25 #[.int .i64 a, .int .i64 b] w fun e w' => e = .returned (.tuple #[.int .i64 (flo a b), .bool true]) ∧ w = w' :=
  (rfloor_any a b w h0 h1 h2 h3).mono fun _ _ h => by rw [hq] at h; exact h
theorem rfloor_no (a b : Int) (w : World) (h0 : -9223372036854775808 ≤ a) (h1 : a ≤ 9223372036854775807) (h2 : -9223372036854775808 ≤ b) (h3 : b ≤ 9223372036854775807) (hq : qok a b = false) :
    Calls Try.prog 25 #[.int .i64 a, .int .i64 b] w fun e w' => e = .returned (.tuple #[.int .i64 0, .bool false]) ∧ w = w' :=
  (rfloor_any a b w h0 h1 h2 h3).mono fun _ _ h => by rw [hq] at h; exact h
theorem floor_yes (a b : Int) (w : World) (h0 : -9223372036854775808 ≤ a) (h1 : a ≤ 9223372036854775807) (h2 : -9223372036854775808 ≤ b) (h3 : b ≤ 9223372036854775807) (hq : qok a b = true) :
    Calls Try.prog 24 #[.int .i64 a, .int .i64 b] w fun e w' => e = .returned (.tuple #[.int .i64 (flo a b), .bool true]) ∧ w = w' :=
  (floor_any a b w h0 h1 h2 h3).mono fun _ _ h => by rw [hq] at h; exact h
theorem floor_no (a b : Int) (w : World) (h0 : -9223372036854775808 ≤ a) (h1 : a ≤ 9223372036854775807) (h2 : -9223372036854775808 ≤ b) (h3 : b ≤ 9223372036854775807) (hq : qok a b = false) :
    Calls Try.prog 24 #[.int .i64 a, .int .i64 b] w fun e w' => e = .returned (.tuple #[.int .i64 0, .bool false]) ∧ w = w' :=
  (floor_any a b w h0 h1 h2 h3).mono fun _ _ h => by rw [hq] at h; exact h
theorem rmul_yes (a b : Int) (w : World) (h0 : -9223372036854775808 ≤ a) (h1 : a ≤ 9223372036854775807) (h2 : -9223372036854775808 ≤ b) (h3 : b ≤ 9223372036854775807) (hq : okI (a * b) = true) :
    Calls Try.prog 20 #[.int .i64 a, .int .i64 b] w fun e w' => e = .returned (.tuple #[.int .i64 (a * b), .bool true]) ∧ w = w' :=
  (rmul_any a b w h0 h1 h2 h3).mono fun _ _ h => by rw [hq] at h; exact h
theorem rmul_no (a b : Int) (w : World) (h0 : -9223372036854775808 ≤ a) (h1 : a ≤ 9223372036854775807) (h2 : -9223372036854775808 ≤ b) (h3 : b ≤ 9223372036854775807) (hq : okI (a * b) = false) :
    Calls Try.prog 20 #[.int .i64 a, .int .i64 b] w fun e w' => e = .returned (.tuple #[.int .i64 0, .bool false]) ∧ w = w' :=
  (rmul_any a b w h0 h1 h2 h3).mono fun _ _ h => by rw [hq] at h; exact h
theorem radd_yes (a b : Int) (w : World) (h0 : -9223372036854775808 ≤ a) (h1 : a ≤ 9223372036854775807) (h2 : -9223372036854775808 ≤ b) (h3 : b ≤ 9223372036854775807) (hq : okI (a + b) = true) :
    Calls Try.prog 16 #[.int .i64 a, .int .i64 b] w fun e w' => e = .returned (.tuple #[.int .i64 (a + b), .bool true]) ∧ w = w' :=
  (radd_any a b w h0 h1 h2 h3).mono fun _ _ h => by rw [hq] at h; exact h

theorem rceil_any (a b : Int) (w : World) (h0 : -9223372036854775808 ≤ a) (h1 : a ≤ 9223372036854775807) (h2 : -9223372036854775808 ≤ b) (h3 : b ≤ 9223372036854775807) :
    Calls Try.prog 27 #[.int .i64 a, .int .i64 b] w fun e w' => e = .returned (.tuple #[.int .i64 (sel (qok a b) (ceiI a b)), .bool (qok a b)]) ∧ w = w' := by
  rcases hq : qok a b with _ | _
  · have Hq := Lib.hid hq
    clear hq
    go_enter Try.func27, Try.ntmps27
    go_wp2_with fail
    refine (rfloor_no a b _ h0 h1 h2 h3 Hq.out).mono ?_
    rintro e w' ⟨rfl, rfl⟩
    go_wp2_with fail
    go_ret2
    exact ⟨rfl, rfl⟩
  · have Hq := Lib.hid hq
    obtain ⟨b5, c1, c2⟩ := qok_iff.1 hq
    clear hq
    have Hc : Hid (ceiI a b = if flo a b * b = a then flo a b else flo a b + 1) := Lib.hid rfl
    by_cases he : flo a b * b = a
    · have HE := Lib.hid he
      rw [he, if_pos rfl] at Hc
      have Ho := Lib.hid (okI_yes h0 h1)
      clear he
      go_enter Try.func27, Try.ntmps27
      go_wp2_with fail
      refine (rfloor_yes a b _ h0 h1 h2 h3 Hq.out).mono ?_
      rintro e w' ⟨rfl, rfl⟩
      go_wp2_with fail
      refine (rmul_yes (flo a b) b _ c1 c2 h2 h3 (by rw [HE.out]; exact Ho.out)).mono ?_
      rintro e w' ⟨rfl, rfl⟩
      rw [HE.out]
      go_wp2_with fail
      go_ret2
      exact ⟨by rw [Hc.out]; rfl, rfl⟩
    · rw [if_neg he] at Hc
      have Hn := Lib.hid (flo_next b5 h0 h1 h2 h3 Hq.out he).1
      have hb := okI_iff.1 Hn.out
      obtain ⟨hb0, hb1⟩ := hb
      have he' : (flo a b * b == a) = false := by simpa using he
      rcases ho : okI (flo a b * b) with _ | _
      · have Ho := Lib.hid ho
        clear ho
        go_enter Try.func27, Try.ntmps27
        go_wp2_with fail
        refine (rfloor_yes a b _ h0 h1 h2 h3 Hq.out).mono ?_
        rintro e w' ⟨rfl, rfl⟩
        go_wp2_with fail
        refine (rmul_no (flo a b) b _ c1 c2 h2 h3 Ho.out).mono ?_
        rintro e w' ⟨rfl, rfl⟩
        go_wp2_with fail
        refine (radd_yes (flo a b) 1 _ c1 c2 (by decide) (by decide) Hn.out).mono ?_
        rintro e w' ⟨rfl, rfl⟩
        go_wp2_with fail
        go_ret2
        exact ⟨by rw [Hc.out]; rfl, rfl⟩
      · have Ho := Lib.hid ho
        clear ho
        go_enter Try.func27, Try.ntmps27
        go_wp2_with fail
        refine (rfloor_yes a b _ h0 h1 h2 h3 Hq.out).mono ?_
        rintro e w' ⟨rfl, rfl⟩
        go_wp2_with fail
        refine (rmul_yes (flo a b) b _ c1 c2 h2 h3 Ho.out).mono ?_
        rintro e w' ⟨rfl, rfl⟩
        go_wp2_with fail
        refine (radd_yes (flo a b) 1 _ c1 c2 (by decide) (by decide) Hn.out).mono ?_
        rintro e w' ⟨rfl, rfl⟩
        go_wp2_with fail
        go_ret2
        exact ⟨by rw [Hc.out]; rfl, rfl⟩
end Go.Proofs.Ytkcllhcinbcgiaa
