/- Contracts of layer 1: the specification's MulDiv, and the products and quotients of both. -/
import Derived.Test.YtfhphgeanpmgaaaDoorFixE
import Derived.Test.YtfhphgeanpmgaaaDoorFixP
namespace Go.Proofs.YtfhphgeanpmgaaaDoor
open Go.RowKit Fx

theorem Fx.flo_one (x : Int) : flo x 1 = x := by unfold flo; rw [if_pos (by decide), Int.ediv_one]
theorem Fx.qok_one (x : Int) : qok x 1 = okI x := by rw [qok_okI (by decide), flo_one]

theorem floor_any (a b : Int) (w : World) (h0 : -9223372036854775808 ≤ a) (h1 : a ≤ 9223372036854775807) (h2 : -9223372036854775808 ≤ b) (h3 : b ≤ 9223372036854775807) :
    Calls Tryd.prog 30 #[.int .i64 a, .int .i64 b] w fun e w' => e = .returned (.tuple #[.int .i64 (sel (qok a b) (flo a b)), .bool (qok a b)]) ∧ w = w' := by
  by_cases hd : b ≠ 0 ∧ ¬(a = -9223372036854775808 ∧ b = -1)
  · have hd' := Lib.hid (decide_eq_true hd)
    obtain ⟨hb, hc⟩ := hd
    obtain ⟨T, M, e1, e2, b1, b2, b3, b4, b5, h⟩ := quot hb hc h0 h1 h2 h3
    have hq := Lib.hid b5
    have hb' : (b == 0) = false := by simpa using hb
    clear b5
    rcases h with ⟨a1, a2, a3⟩ | ⟨a1, a2, a3, a4, a5, a6⟩ | ⟨a1, a2, a3, a4, a5, a6⟩
    · have hv := Lib.hid a2
      subst a1
      clear a2 a3
      go_enter Tryd.func30, Tryd.ntmps30
      go_wp2_with fail
      refine (divides_any a b _).mono ?_
      rintro e w' ⟨rfl, rfl⟩
      rw [hd'.out]
      go_wp2_with fail
      go_ret2
      exact ⟨by rw [hq.out, hv.out]; rfl, rfl⟩
    · have hv := Lib.hid a3
      have hm : (M == 0) = false := by simpa using a1
      clear a3 a4
      go_enter Tryd.func30, Tryd.ntmps30
      go_wp2_with fail
      refine (divides_any a b _).mono ?_
      rintro e w' ⟨rfl, rfl⟩
      rw [hd'.out]
      go_wp2_with fail
      go_ret2
      exact ⟨by rw [hq.out, hv.out]; rfl, rfl⟩
    · have hv := Lib.hid a3
      have hm : (M == 0) = false := by simpa using a1
      clear a3 a4
      go_enter Tryd.func30, Tryd.ntmps30
      go_wp2_with fail
      refine (divides_any a b _).mono ?_
      rintro e w' ⟨rfl, rfl⟩
      rw [hd'.out]
      go_wp2_with fail
      go_ret2
      exact ⟨by rw [hq.out, hv.out]; rfl, rfl⟩
  · have hd' := Lib.hid (decide_eq_false hd)
    have hq := Lib.hid (quot_no hd)
    clear hd
    go_enter Tryd.func30, Tryd.ntmps30
    go_wp2_with fail
    refine (divides_any a b _).mono ?_
    rintro e w' ⟨rfl, rfl⟩
    rw [hd'.out]
    go_wp2_with fail
    go_ret2
    exact ⟨by rw [hq.out]; rfl, rfl⟩

end Go.Proofs.YtfhphgeanpmgaaaDoor
