/- The walks of the statements of layer 1 that lean on no reference. -/
import Derived.Test.YtkcllhcinbcgiaaFixK
namespace Go.Proofs.Ytkcllhcinbcgiaa
open Go.RowKit Fx

theorem add_yes (a b : Int) (w : World) (h0 : -9223372036854775808 ≤ a) (h1 : a ≤ 9223372036854775807) (h2 : -9223372036854775808 ≤ b) (h3 : b ≤ 9223372036854775807) (hq : okI (a + b) = true) :
    Calls Try.prog 15 #[.int .i64 a, .int .i64 b] w fun e w' => e = .returned (.tuple #[.int .i64 (a + b), .bool true]) ∧ w = w' :=
  (add_any a b w h0 h1 h2 h3).mono fun _ _ h => by rw [hq] at h; exact h
theorem add_no (a b : Int) (w : World) (h0 : -9223372036854775808 ≤ a) (h1 : a ≤ 9223372036854775807) (h2 : -9223372036854775808 ≤ b) (h3 : b ≤ 9223372036854775807) (hq : okI (a + b) = false) :
    Calls Try.prog 15 #[.int .i64 a, .int .i64 b] w fun e w' => e = .returned (.tuple #[.int .i64 0, .bool false]) ∧ w = w' :=
  (add_any a b w h0 h1 h2 h3).mono fun _ _ h => by rw [hq] at h; exact h
theorem sub_yes (a b : Int) (w : World) (h0 : -9223372036854775808 ≤ a) (h1 : a ≤ 9223372036854775807) (h2 : -9223372036854775808 ≤ b) (h3 : b ≤ 9223372036854775807) (hq : okI (a - b) = true) :
    Calls Try.prog 17 #[.int .i64 a, .int .i64 b] w fun e w' => e = .returned (.tuple #[.int .i64 (a - b), .bool true]) ∧ w = w' :=
  (sub_any a b w h0 h1 h2 h3).mono fun _ _ h => by rw [hq] at h; exact h
theorem sub_no (a b : Int) (w : World) (h0 : -9223372036854775808 ≤ a) (h1 : a ≤ 9223372036854775807) (h2 : -9223372036854775808 ≤ b) (h3 : b ≤ 9223372036854775807) (hq : okI (a - b) = false) :
    Calls Try.prog 17 #[.int .i64 a, .int .i64 b] w fun e w' => e = .returned (.tuple #[.int .i64 0, .bool false]) ∧ w = w' :=
  (sub_any a b w h0 h1 h2 h3).mono fun _ _ h => by rw [hq] at h; exact h
theorem muldiv_yes {d : Int} (a b c : Int) (w : World) (h0 : -9223372036854775808 ≤ a) (h1 : a ≤ 9223372036854775807) (h2 : -9223372036854775808 ≤ b) (h3 : b ≤ 9223372036854775807) (h4 : -9223372036854775808 ≤ c) (h5 : c ≤ 9223372036854775807) (hq : qok (a * b) c = true) (hf : flo (a * b) c = d) :
    Calls Try.prog 30 #[.int .i64 a, .int .i64 b, .int .i64 c] w fun e w' => e = .returned (.tuple #[.int .i64 d, .bool true]) ∧ ∃ n, w' = w.drewN n :=
  (muldiv_any a b c w h0 h1 h2 h3 h4 h5).mono fun _ _ h => by rw [hq, hf] at h; exact h
theorem ceil_yes (a b : Int) (w : World) (h0 : -9223372036854775808 ≤ a) (h1 : a ≤ 9223372036854775807) (h2 : -9223372036854775808 ≤ b) (h3 : b ≤ 9223372036854775807) (hq : qok a b = true) :
    Calls Try.prog 26 #[.int .i64 a, .int .i64 b] w fun e w' => e = .returned (.tuple #[.int .i64 (ceiI a b), .bool true]) ∧ w = w' :=
  (ceil_any a b w h0 h1 h2 h3).mono fun _ _ h => by rw [hq] at h; exact h
theorem ceil_no (a b : Int) (w : World) (h0 : -9223372036854775808 ≤ a) (h1 : a ≤ 9223372036854775807) (h2 : -9223372036854775808 ≤ b) (h3 : b ≤ 9223372036854775807) (hq : qok a b = false) :
    Calls Try.prog 26 #[.int .i64 a, .int .i64 b] w fun e w' => e = .returned (.tuple #[.int .i64 0, .bool false]) ∧ w = w' :=
  (ceil_any a b w h0 h1 h2 h3).mono fun _ _ h => by rw [hq] at h; exact h
theorem near_no (a b : Int) (w : World) (h0 : -9223372036854775808 ≤ a) (h1 : a ≤ 9223372036854775807) (h2 : -9223372036854775808 ≤ b) (h3 : b ≤ 9223372036854775807) (hq : qok a b = false) :
    Calls Try.prog 28 #[.int .i64 a, .int .i64 b] w fun e w' => e = .returned (.tuple #[.int .i64 0, .bool false]) ∧ w = w' :=
  (near_any a b w h0 h1 h2 h3).mono fun _ _ h => by rw [hq] at h; exact h

/-- A product is divided by its factor. -/
theorem Fx.flo_cancel (a b : Int) (hb : b ≠ 0) : flo (a * b) b = a := by
  refine flo_unique (r := 0) (by omega) ?_
  omega
theorem Fx.qok_cancel {a b : Int} (hb : b ≠ 0) (h0 : -9223372036854775808 ≤ a) (h1 : a ≤ 9223372036854775807) : qok (a * b) b = true := by
  rw [qok_okI' hb, flo_cancel a b hb]; exact okI_yes h0 h1
/-- Floor and Ceil differ by at most 1, and Near is one of them. -/
theorem Fx.near_one {a b : Int} (h0 : -9223372036854775808 ≤ a) (h1 : a ≤ 9223372036854775807) (h2 : -9223372036854775808 ≤ b) (h3 : b ≤ 9223372036854775807) (hq : qok a b = true) :
    (flo a b ≤ ceiI a b ∧ ceiI a b - flo a b ≤ 1) ∧ (nearI a b = flo a b ∨ (nearI a b ≠ flo a b ∧ nearI a b = ceiI a b)) := by
  obtain ⟨q, r, C, e1, e2, e3, q0, q1, r0, r1, C0, C1, hn, hv, hw⟩ := near_parts h0 h1 h2 h3 hq
  rw [e1, hv]
  have hc : ceiI a b = if q * b = a then q else q + 1 := by unfold ceiI; rw [e1]
  rw [hc]
  refine ⟨by split <;> omega, ?_⟩
  split
  · right
    refine ⟨by omega, ?_⟩
    rw [if_neg]
    intro he
    have : r = 0 := by omega
    subst this
    have : C = 0 := by rw [← e3]; rfl
    subst this
    omega
  · left; rfl

theorem Fx.quot_back {a b : Int} (h0 : -9223372036854775808 ≤ a) (h1 : a ≤ 9223372036854775807) (h2 : -9223372036854775808 ≤ b) (h3 : b ≤ 9223372036854775807) (hb : b ≠ 0) (hq : qok a b = false) : a = -9223372036854775808 ∧ b = -1 := by
  refine Decidable.byContradiction fun hx => ?_
  obtain ⟨_, _, _, _, _, _, _, _, b5, _⟩ := quot hb hx h0 h1 h2 h3
  rw [hq] at b5; cases b5

set_option maxRecDepth 100000 in
theorem fixedBack_low (w : World) :
    Calls Try.prog 8 #[.int .i64 (-9223372036854775808), .int .i64 (-1)] w fun e w' => e = .returned (.bool true) ∧ ∃ n, w' = w.drewN n := by
  go_enter Try.func8, Try.ntmps8
  go_wp2_with fail
  refine (add_no (-9223372036854775808) (-1) _ (by decide) (by decide) (by decide) (by decide) (by decide)).mono ?_
  rintro e w' ⟨rfl, rfl⟩
  go_wp2_with fail
  refine (sub_yes (-9223372036854775808) (-1) _ (by decide) (by decide) (by decide) (by decide) (by decide)).mono ?_
  rintro e w' ⟨rfl, rfl⟩
  go_wp2_with fail
  refine (add_yes (-9223372036854775807) (-1) _ (by decide) (by decide) (by decide) (by decide) (by decide)).mono ?_
  rintro e w' ⟨rfl, rfl⟩
  go_wp2_with fail
  refine (muldiv_yes (-9223372036854775808) (-1) (-1) (d := -9223372036854775808) _ (by decide) (by decide) (by decide) (by decide) (by decide) (by decide) (by decide) (by decide)).mono ?_
  rintro e w' ⟨rfl, n5, rfl⟩
  go_wp2_with fail
  refine (mul_no (-9223372036854775808) (-1) _ (by decide) (by decide) (by decide) (by decide) (by decide)).mono ?_
  rintro e w' ⟨rfl, n6, rfl⟩
  go_wp2_with fail
  refine (floor_no (-9223372036854775808) (-1) _ (by decide) (by decide) (by decide) (by decide) (by decide)).mono ?_
  rintro e w' ⟨rfl, rfl⟩
  go_wp2_with fail
  refine (ceil_no (-9223372036854775808) (-1) _ (by decide) (by decide) (by decide) (by decide) (by decide)).mono ?_
  rintro e w' ⟨rfl, rfl⟩
  go_wp2_with fail
  refine (near_no (-9223372036854775808) (-1) _ (by decide) (by decide) (by decide) (by decide) (by decide)).mono ?_
  rintro e w' ⟨rfl, rfl⟩
  go_wp2_with fail
  refine (awake1_any _).mono ?_
  rintro e w' ⟨rfl, n1, rfl⟩
  go_wp2_with fail
  go_ret
  exact ⟨rfl, _, rfl⟩

set_option maxRecDepth 100000 in
theorem fixedBack_zero (a : Int) (w : World) (h0 : -9223372036854775808 ≤ a) (h1 : a ≤ 9223372036854775807) :
    Calls Try.prog 8 #[.int .i64 a, .int .i64 0] w fun e w' => e = .returned (.bool true) ∧ ∃ n, w' = w.drewN n := by
  have o1 : Hid (okI (a + 0) = true) := Lib.hid (by rw [Int.add_zero]; exact okI_yes h0 h1)
  have o2 : Hid (okI (a - 0) = true) := Lib.hid (by rw [Int.sub_zero]; exact okI_yes h0 h1)
  go_enter Try.func8, Try.ntmps8
  go_wp2_with fail
  refine (add_yes a 0 _ h0 h1 (by decide) (by decide) o1.out).mono ?_
  rintro e w' ⟨rfl, rfl⟩
  rw [Int.add_zero]
  go_wp2_with fail
  refine (sub_yes a 0 _ h0 h1 (by decide) (by decide) o2.out).mono ?_
  rintro e w' ⟨rfl, rfl⟩
  rw [Int.sub_zero]
  go_wp2_with fail
  refine (sub_yes a 0 _ h0 h1 (by decide) (by decide) o2.out).mono ?_
  rintro e w' ⟨rfl, rfl⟩
  rw [Int.sub_zero]
  go_wp2_with fail
  refine (add_yes a 0 _ h0 h1 (by decide) (by decide) o1.out).mono ?_
  rintro e w' ⟨rfl, rfl⟩
  rw [Int.add_zero]
  go_wp2_with fail
  refine (awake1_any _).mono ?_
  rintro e w' ⟨rfl, n1, rfl⟩
  go_wp2_with fail
  go_ret
  exact ⟨rfl, _, rfl⟩

set_option maxRecDepth 100000 in
set_option maxHeartbeats 1000000 in
theorem fixedBack_00 (a b : Int) (w : World) (h0 : -9223372036854775808 ≤ a) (h1 : a ≤ 9223372036854775807) (h2 : -9223372036854775808 ≤ b) (h3 : b ≤ 9223372036854775807) (hA : Hid (okI (a + b) = false)) (hS : Hid (okI (a - b) = false)) :
    Calls Try.prog 8 #[.int .i64 a, .int .i64 b] w fun e w' => e = .returned (.bool true) ∧ ∃ n, w' = w.drewN n := by
  have oa := Lib.hid (okI_yes h0 h1)
  by_cases hb : b = 0
  · subst hb
    exact fixedBack_zero a w h0 h1
  · have hb' : (b == 0) = false := by simpa using hb
    have hc := Lib.hid (flo_cancel a b hb)
    have hd := Lib.hid (qok_cancel hb h0 h1)
    rcases hm : okI (a * b) with _ | _
    · have HM := Lib.hid hm
      clear hm
      rcases hq : qok a b with _ | _
      · have HQ := Lib.hid hq
        clear hq
        obtain ⟨rfl, rfl⟩ : a = -9223372036854775808 ∧ b = -1 := by
          have := quot_back h0 h1 h2 h3 hb HQ.out
          exact this
        exact fixedBack_low w
      · have HQ := Lib.hid hq
        obtain ⟨⟨c1, c2⟩, c3⟩ := near_one h0 h1 h2 h3 hq
        obtain ⟨_, f0, f1⟩ := qok_iff.1 hq
        clear hq
        have d1 : decide (ceiI a b < flo a b) = false := by simp; omega
        rcases c3 with c3 | ⟨c3, c4⟩
        · have HN := Lib.hid c3
          clear c3
          go_enter Try.func8, Try.ntmps8
          go_wp2_with fail
          refine (add_no a b _ h0 h1 h2 h3 hA.out).mono ?_
          rintro e w' ⟨rfl, rfl⟩
          go_wp2_with fail
          refine (sub_no a b _ h0 h1 h2 h3 hS.out).mono ?_
          rintro e w' ⟨rfl, rfl⟩
          go_wp2_with fail
          refine (muldiv_yes a b b _ h0 h1 h2 h3 h2 h3 hd.out hc.out).mono ?_
          rintro e w' ⟨rfl, n16, rfl⟩
          go_wp2_with fail
          refine (mul_no a b _ h0 h1 h2 h3 HM.out).mono ?_
          rintro e w' ⟨rfl, n17, rfl⟩
          go_wp2_with fail
          refine (floor_yes a b _ h0 h1 h2 h3 HQ.out).mono ?_
          rintro e w' ⟨rfl, rfl⟩
          go_wp2_with fail
          refine (ceil_yes a b _ h0 h1 h2 h3 HQ.out).mono ?_
          rintro e w' ⟨rfl, rfl⟩
          go_wp2_with fail
          refine (near_yes a b _ h0 h1 h2 h3 HQ.out).mono ?_
          rintro e w' ⟨rfl, rfl⟩
          rw [HN.out]
          go_wp2_with fail
          refine (awake1_any _).mono ?_
          rintro e w' ⟨rfl, n1, rfl⟩
          go_wp2_with fail
          go_ret
          exact ⟨rfl, _, rfl⟩
        · have HN := Lib.hid c4
          have c5 : (ceiI a b == flo a b) = false := by rw [c4] at c3; simpa using c3
          have c6 : ceiI a b ≠ flo a b := by rw [← c4]; exact c3
          clear c3 c4
          go_enter Try.func8, Try.ntmps8
          go_wp2_with fail
          refine (add_no a b _ h0 h1 h2 h3 hA.out).mono ?_
          rintro e w' ⟨rfl, rfl⟩
          go_wp2_with fail
          refine (sub_no a b _ h0 h1 h2 h3 hS.out).mono ?_
          rintro e w' ⟨rfl, rfl⟩
          go_wp2_with fail
          refine (muldiv_yes a b b _ h0 h1 h2 h3 h2 h3 hd.out hc.out).mono ?_
          rintro e w' ⟨rfl, n16, rfl⟩
          go_wp2_with fail
          refine (mul_no a b _ h0 h1 h2 h3 HM.out).mono ?_
          rintro e w' ⟨rfl, n17, rfl⟩
          go_wp2_with fail
          refine (floor_yes a b _ h0 h1 h2 h3 HQ.out).mono ?_
          rintro e w' ⟨rfl, rfl⟩
          go_wp2_with fail
          refine (ceil_yes a b _ h0 h1 h2 h3 HQ.out).mono ?_
          rintro e w' ⟨rfl, rfl⟩
          go_wp2_with fail
          refine (near_yes a b _ h0 h1 h2 h3 HQ.out).mono ?_
          rintro e w' ⟨rfl, rfl⟩
          rw [HN.out]
          go_wp2_with fail
          refine (awake1_any _).mono ?_
          rintro e w' ⟨rfl, n1, rfl⟩
          go_wp2_with fail
          go_ret
          exact ⟨rfl, _, rfl⟩
    · have HM := Lib.hid hm
      clear hm
      rcases hq : qok a b with _ | _
      · have HQ := Lib.hid hq
        clear hq
        obtain ⟨rfl, rfl⟩ : a = -9223372036854775808 ∧ b = -1 := by
          have := quot_back h0 h1 h2 h3 hb HQ.out
          exact this
        exact fixedBack_low w
      · have HQ := Lib.hid hq
        obtain ⟨⟨c1, c2⟩, c3⟩ := near_one h0 h1 h2 h3 hq
        obtain ⟨_, f0, f1⟩ := qok_iff.1 hq
        clear hq
        have d1 : decide (ceiI a b < flo a b) = false := by simp; omega
        rcases c3 with c3 | ⟨c3, c4⟩
        · have HN := Lib.hid c3
          clear c3
          go_enter Try.func8, Try.ntmps8
          go_wp2_with fail
          refine (add_no a b _ h0 h1 h2 h3 hA.out).mono ?_
          rintro e w' ⟨rfl, rfl⟩
          go_wp2_with fail
          refine (sub_no a b _ h0 h1 h2 h3 hS.out).mono ?_
          rintro e w' ⟨rfl, rfl⟩
          go_wp2_with fail
          refine (muldiv_yes a b b _ h0 h1 h2 h3 h2 h3 hd.out hc.out).mono ?_
          rintro e w' ⟨rfl, n24, rfl⟩
          go_wp2_with fail
          refine (mul_yes a b _ h0 h1 h2 h3 HM.out).mono ?_
          rintro e w' ⟨rfl, n25, rfl⟩
          go_wp2_with fail
          refine (floor_yes (a * b) b _ (okI_iff.1 HM.out).1 (okI_iff.1 HM.out).2 h2 h3 hd.out).mono ?_
          rintro e w' ⟨rfl, rfl⟩
          rw [hc.out]
          go_wp2_with fail
          refine (floor_yes a b _ h0 h1 h2 h3 HQ.out).mono ?_
          rintro e w' ⟨rfl, rfl⟩
          go_wp2_with fail
          refine (ceil_yes a b _ h0 h1 h2 h3 HQ.out).mono ?_
          rintro e w' ⟨rfl, rfl⟩
          go_wp2_with fail
          refine (near_yes a b _ h0 h1 h2 h3 HQ.out).mono ?_
          rintro e w' ⟨rfl, rfl⟩
          rw [HN.out]
          go_wp2_with fail
          refine (awake1_any _).mono ?_
          rintro e w' ⟨rfl, n1, rfl⟩
          go_wp2_with fail
          go_ret
          exact ⟨rfl, _, rfl⟩
        · have HN := Lib.hid c4
          have c5 : (ceiI a b == flo a b) = false := by rw [c4] at c3; simpa using c3
          have c6 : ceiI a b ≠ flo a b := by rw [← c4]; exact c3
          clear c3 c4
          go_enter Try.func8, Try.ntmps8
          go_wp2_with fail
          refine (add_no a b _ h0 h1 h2 h3 hA.out).mono ?_
          rintro e w' ⟨rfl, rfl⟩
          go_wp2_with fail
          refine (sub_no a b _ h0 h1 h2 h3 hS.out).mono ?_
          rintro e w' ⟨rfl, rfl⟩
          go_wp2_with fail
          refine (muldiv_yes a b b _ h0 h1 h2 h3 h2 h3 hd.out hc.out).mono ?_
          rintro e w' ⟨rfl, n24, rfl⟩
          go_wp2_with fail
          refine (mul_yes a b _ h0 h1 h2 h3 HM.out).mono ?_
          rintro e w' ⟨rfl, n25, rfl⟩
          go_wp2_with fail
          refine (floor_yes (a * b) b _ (okI_iff.1 HM.out).1 (okI_iff.1 HM.out).2 h2 h3 hd.out).mono ?_
          rintro e w' ⟨rfl, rfl⟩
          rw [hc.out]
          go_wp2_with fail
          refine (floor_yes a b _ h0 h1 h2 h3 HQ.out).mono ?_
          rintro e w' ⟨rfl, rfl⟩
          go_wp2_with fail
          refine (ceil_yes a b _ h0 h1 h2 h3 HQ.out).mono ?_
          rintro e w' ⟨rfl, rfl⟩
          go_wp2_with fail
          refine (near_yes a b _ h0 h1 h2 h3 HQ.out).mono ?_
          rintro e w' ⟨rfl, rfl⟩
          rw [HN.out]
          go_wp2_with fail
          refine (awake1_any _).mono ?_
          rintro e w' ⟨rfl, n1, rfl⟩
          go_wp2_with fail
          go_ret
          exact ⟨rfl, _, rfl⟩

set_option maxRecDepth 100000 in
set_option maxHeartbeats 1000000 in
theorem fixedBack_01 (a b : Int) (w : World) (h0 : -9223372036854775808 ≤ a) (h1 : a ≤ 9223372036854775807) (h2 : -9223372036854775808 ≤ b) (h3 : b ≤ 9223372036854775807) (hA : Hid (okI (a + b) = false)) (hS : Hid (okI (a - b) = true)) :
    Calls Try.prog 8 #[.int .i64 a, .int .i64 b] w fun e w' => e = .returned (.bool true) ∧ ∃ n, w' = w.drewN n := by
  have oa := Lib.hid (okI_yes h0 h1)
  by_cases hb : b = 0
  · subst hb
    exact fixedBack_zero a w h0 h1
  · have hb' : (b == 0) = false := by simpa using hb
    have hc := Lib.hid (flo_cancel a b hb)
    have hd := Lib.hid (qok_cancel hb h0 h1)
    rcases hm : okI (a * b) with _ | _
    · have HM := Lib.hid hm
      clear hm
      rcases hq : qok a b with _ | _
      · have HQ := Lib.hid hq
        clear hq
        obtain ⟨rfl, rfl⟩ : a = -9223372036854775808 ∧ b = -1 := by
          have := quot_back h0 h1 h2 h3 hb HQ.out
          exact this
        exact fixedBack_low w
      · have HQ := Lib.hid hq
        obtain ⟨⟨c1, c2⟩, c3⟩ := near_one h0 h1 h2 h3 hq
        obtain ⟨_, f0, f1⟩ := qok_iff.1 hq
        clear hq
        have d1 : decide (ceiI a b < flo a b) = false := by simp; omega
        rcases c3 with c3 | ⟨c3, c4⟩
        · have HN := Lib.hid c3
          clear c3
          go_enter Try.func8, Try.ntmps8
          go_wp2_with fail
          refine (add_no a b _ h0 h1 h2 h3 hA.out).mono ?_
          rintro e w' ⟨rfl, rfl⟩
          go_wp2_with fail
          refine (sub_yes a b _ h0 h1 h2 h3 hS.out).mono ?_
          rintro e w' ⟨rfl, rfl⟩
          go_wp2_with fail
          refine (add_yes (a - b) b _ (okI_iff.1 hS.out).1 (okI_iff.1 hS.out).2 h2 h3 (by rw [show a - b + b = a from by omega]; exact oa.out)).mono ?_
          rintro e w' ⟨rfl, rfl⟩
          rw [show a - b + b = a from by omega]
          go_wp2_with fail
          refine (muldiv_yes a b b _ h0 h1 h2 h3 h2 h3 hd.out hc.out).mono ?_
          rintro e w' ⟨rfl, n36, rfl⟩
          go_wp2_with fail
          refine (mul_no a b _ h0 h1 h2 h3 HM.out).mono ?_
          rintro e w' ⟨rfl, n37, rfl⟩
          go_wp2_with fail
          refine (floor_yes a b _ h0 h1 h2 h3 HQ.out).mono ?_
          rintro e w' ⟨rfl, rfl⟩
          go_wp2_with fail
          refine (ceil_yes a b _ h0 h1 h2 h3 HQ.out).mono ?_
          rintro e w' ⟨rfl, rfl⟩
          go_wp2_with fail
          refine (near_yes a b _ h0 h1 h2 h3 HQ.out).mono ?_
          rintro e w' ⟨rfl, rfl⟩
          rw [HN.out]
          go_wp2_with fail
          refine (awake1_any _).mono ?_
          rintro e w' ⟨rfl, n1, rfl⟩
          go_wp2_with fail
          go_ret
          exact ⟨rfl, _, rfl⟩
        · have HN := Lib.hid c4
          have c5 : (ceiI a b == flo a b) = false := by rw [c4] at c3; simpa using c3
          have c6 : ceiI a b ≠ flo a b := by rw [← c4]; exact c3
          clear c3 c4
          go_enter Try.func8, Try.ntmps8
          go_wp2_with fail
          refine (add_no a b _ h0 h1 h2 h3 hA.out).mono ?_
          rintro e w' ⟨rfl, rfl⟩
          go_wp2_with fail
          refine (sub_yes a b _ h0 h1 h2 h3 hS.out).mono ?_
          rintro e w' ⟨rfl, rfl⟩
          go_wp2_with fail
          refine (add_yes (a - b) b _ (okI_iff.1 hS.out).1 (okI_iff.1 hS.out).2 h2 h3 (by rw [show a - b + b = a from by omega]; exact oa.out)).mono ?_
          rintro e w' ⟨rfl, rfl⟩
          rw [show a - b + b = a from by omega]
          go_wp2_with fail
          refine (muldiv_yes a b b _ h0 h1 h2 h3 h2 h3 hd.out hc.out).mono ?_
          rintro e w' ⟨rfl, n36, rfl⟩
          go_wp2_with fail
          refine (mul_no a b _ h0 h1 h2 h3 HM.out).mono ?_
          rintro e w' ⟨rfl, n37, rfl⟩
          go_wp2_with fail
          refine (floor_yes a b _ h0 h1 h2 h3 HQ.out).mono ?_
          rintro e w' ⟨rfl, rfl⟩
          go_wp2_with fail
          refine (ceil_yes a b _ h0 h1 h2 h3 HQ.out).mono ?_
          rintro e w' ⟨rfl, rfl⟩
          go_wp2_with fail
          refine (near_yes a b _ h0 h1 h2 h3 HQ.out).mono ?_
          rintro e w' ⟨rfl, rfl⟩
          rw [HN.out]
          go_wp2_with fail
          refine (awake1_any _).mono ?_
          rintro e w' ⟨rfl, n1, rfl⟩
          go_wp2_with fail
          go_ret
          exact ⟨rfl, _, rfl⟩
    · have HM := Lib.hid hm
      clear hm
      rcases hq : qok a b with _ | _
      · have HQ := Lib.hid hq
        clear hq
        obtain ⟨rfl, rfl⟩ : a = -9223372036854775808 ∧ b = -1 := by
          have := quot_back h0 h1 h2 h3 hb HQ.out
          exact this
        exact fixedBack_low w
      · have HQ := Lib.hid hq
        obtain ⟨⟨c1, c2⟩, c3⟩ := near_one h0 h1 h2 h3 hq
        obtain ⟨_, f0, f1⟩ := qok_iff.1 hq
        clear hq
        have d1 : decide (ceiI a b < flo a b) = false := by simp; omega
        rcases c3 with c3 | ⟨c3, c4⟩
        · have HN := Lib.hid c3
          clear c3
          go_enter Try.func8, Try.ntmps8
          go_wp2_with fail
          refine (add_no a b _ h0 h1 h2 h3 hA.out).mono ?_
          rintro e w' ⟨rfl, rfl⟩
          go_wp2_with fail
          refine (sub_yes a b _ h0 h1 h2 h3 hS.out).mono ?_
          rintro e w' ⟨rfl, rfl⟩
          go_wp2_with fail
          refine (add_yes (a - b) b _ (okI_iff.1 hS.out).1 (okI_iff.1 hS.out).2 h2 h3 (by rw [show a - b + b = a from by omega]; exact oa.out)).mono ?_
          rintro e w' ⟨rfl, rfl⟩
          rw [show a - b + b = a from by omega]
          go_wp2_with fail
          refine (muldiv_yes a b b _ h0 h1 h2 h3 h2 h3 hd.out hc.out).mono ?_
          rintro e w' ⟨rfl, n44, rfl⟩
          go_wp2_with fail
          refine (mul_yes a b _ h0 h1 h2 h3 HM.out).mono ?_
          rintro e w' ⟨rfl, n45, rfl⟩
          go_wp2_with fail
          refine (floor_yes (a * b) b _ (okI_iff.1 HM.out).1 (okI_iff.1 HM.out).2 h2 h3 hd.out).mono ?_
          rintro e w' ⟨rfl, rfl⟩
          rw [hc.out]
          go_wp2_with fail
          refine (floor_yes a b _ h0 h1 h2 h3 HQ.out).mono ?_
          rintro e w' ⟨rfl, rfl⟩
          go_wp2_with fail
          refine (ceil_yes a b _ h0 h1 h2 h3 HQ.out).mono ?_
          rintro e w' ⟨rfl, rfl⟩
          go_wp2_with fail
          refine (near_yes a b _ h0 h1 h2 h3 HQ.out).mono ?_
          rintro e w' ⟨rfl, rfl⟩
          rw [HN.out]
          go_wp2_with fail
          refine (awake1_any _).mono ?_
          rintro e w' ⟨rfl, n1, rfl⟩
          go_wp2_with fail
          go_ret
          exact ⟨rfl, _, rfl⟩
        · have HN := Lib.hid c4
          have c5 : (ceiI a b == flo a b) = false := by rw [c4] at c3; simpa using c3
          have c6 : ceiI a b ≠ flo a b := by rw [← c4]; exact c3
          clear c3 c4
          go_enter Try.func8, Try.ntmps8
          go_wp2_with fail
          refine (add_no a b _ h0 h1 h2 h3 hA.out).mono ?_
          rintro e w' ⟨rfl, rfl⟩
          go_wp2_with fail
          refine (sub_yes a b _ h0 h1 h2 h3 hS.out).mono ?_
          rintro e w' ⟨rfl, rfl⟩
          go_wp2_with fail
          refine (add_yes (a - b) b _ (okI_iff.1 hS.out).1 (okI_iff.1 hS.out).2 h2 h3 (by rw [show a - b + b = a from by omega]; exact oa.out)).mono ?_
          rintro e w' ⟨rfl, rfl⟩
          rw [show a - b + b = a from by omega]
          go_wp2_with fail
          refine (muldiv_yes a b b _ h0 h1 h2 h3 h2 h3 hd.out hc.out).mono ?_
          rintro e w' ⟨rfl, n44, rfl⟩
          go_wp2_with fail
          refine (mul_yes a b _ h0 h1 h2 h3 HM.out).mono ?_
          rintro e w' ⟨rfl, n45, rfl⟩
          go_wp2_with fail
          refine (floor_yes (a * b) b _ (okI_iff.1 HM.out).1 (okI_iff.1 HM.out).2 h2 h3 hd.out).mono ?_
          rintro e w' ⟨rfl, rfl⟩
          rw [hc.out]
          go_wp2_with fail
          refine (floor_yes a b _ h0 h1 h2 h3 HQ.out).mono ?_
          rintro e w' ⟨rfl, rfl⟩
          go_wp2_with fail
          refine (ceil_yes a b _ h0 h1 h2 h3 HQ.out).mono ?_
          rintro e w' ⟨rfl, rfl⟩
          go_wp2_with fail
          refine (near_yes a b _ h0 h1 h2 h3 HQ.out).mono ?_
          rintro e w' ⟨rfl, rfl⟩
          rw [HN.out]
          go_wp2_with fail
          refine (awake1_any _).mono ?_
          rintro e w' ⟨rfl, n1, rfl⟩
          go_wp2_with fail
          go_ret
          exact ⟨rfl, _, rfl⟩

set_option maxRecDepth 100000 in
set_option maxHeartbeats 1000000 in
theorem fixedBack_10 (a b : Int) (w : World) (h0 : -9223372036854775808 ≤ a) (h1 : a ≤ 9223372036854775807) (h2 : -9223372036854775808 ≤ b) (h3 : b ≤ 9223372036854775807) (hA : Hid (okI (a + b) = true)) (hS : Hid (okI (a - b) = false)) :
    Calls Try.prog 8 #[.int .i64 a, .int .i64 b] w fun e w' => e = .returned (.bool true) ∧ ∃ n, w' = w.drewN n := by
  have oa := Lib.hid (okI_yes h0 h1)
  by_cases hb : b = 0
  · subst hb
    exact fixedBack_zero a w h0 h1
  · have hb' : (b == 0) = false := by simpa using hb
    have hc := Lib.hid (flo_cancel a b hb)
    have hd := Lib.hid (qok_cancel hb h0 h1)
    rcases hm : okI (a * b) with _ | _
    · have HM := Lib.hid hm
      clear hm
      rcases hq : qok a b with _ | _
      · have HQ := Lib.hid hq
        clear hq
        obtain ⟨rfl, rfl⟩ : a = -9223372036854775808 ∧ b = -1 := by
          have := quot_back h0 h1 h2 h3 hb HQ.out
          exact this
        exact fixedBack_low w
      · have HQ := Lib.hid hq
        obtain ⟨⟨c1, c2⟩, c3⟩ := near_one h0 h1 h2 h3 hq
        obtain ⟨_, f0, f1⟩ := qok_iff.1 hq
        clear hq
        have d1 : decide (ceiI a b < flo a b) = false := by simp; omega
        rcases c3 with c3 | ⟨c3, c4⟩
        · have HN := Lib.hid c3
          clear c3
          go_enter Try.func8, Try.ntmps8
          go_wp2_with fail
          refine (add_yes a b _ h0 h1 h2 h3 hA.out).mono ?_
          rintro e w' ⟨rfl, rfl⟩
          go_wp2_with fail
          refine (sub_yes (a + b) b _ (okI_iff.1 hA.out).1 (okI_iff.1 hA.out).2 h2 h3 (by rw [show a + b - b = a from by omega]; exact oa.out)).mono ?_
          rintro e w' ⟨rfl, rfl⟩
          rw [show a + b - b = a from by omega]
          go_wp2_with fail
          refine (sub_no a b _ h0 h1 h2 h3 hS.out).mono ?_
          rintro e w' ⟨rfl, rfl⟩
          go_wp2_with fail
          refine (muldiv_yes a b b _ h0 h1 h2 h3 h2 h3 hd.out hc.out).mono ?_
          rintro e w' ⟨rfl, n56, rfl⟩
          go_wp2_with fail
          refine (mul_no a b _ h0 h1 h2 h3 HM.out).mono ?_
          rintro e w' ⟨rfl, n57, rfl⟩
          go_wp2_with fail
          refine (floor_yes a b _ h0 h1 h2 h3 HQ.out).mono ?_
          rintro e w' ⟨rfl, rfl⟩
          go_wp2_with fail
          refine (ceil_yes a b _ h0 h1 h2 h3 HQ.out).mono ?_
          rintro e w' ⟨rfl, rfl⟩
          go_wp2_with fail
          refine (near_yes a b _ h0 h1 h2 h3 HQ.out).mono ?_
          rintro e w' ⟨rfl, rfl⟩
          rw [HN.out]
          go_wp2_with fail
          refine (awake1_any _).mono ?_
          rintro e w' ⟨rfl, n1, rfl⟩
          go_wp2_with fail
          go_ret
          exact ⟨rfl, _, rfl⟩
        · have HN := Lib.hid c4
          have c5 : (ceiI a b == flo a b) = false := by rw [c4] at c3; simpa using c3
          have c6 : ceiI a b ≠ flo a b := by rw [← c4]; exact c3
          clear c3 c4
          go_enter Try.func8, Try.ntmps8
          go_wp2_with fail
          refine (add_yes a b _ h0 h1 h2 h3 hA.out).mono ?_
          rintro e w' ⟨rfl, rfl⟩
          go_wp2_with fail
          refine (sub_yes (a + b) b _ (okI_iff.1 hA.out).1 (okI_iff.1 hA.out).2 h2 h3 (by rw [show a + b - b = a from by omega]; exact oa.out)).mono ?_
          rintro e w' ⟨rfl, rfl⟩
          rw [show a + b - b = a from by omega]
          go_wp2_with fail
          refine (sub_no a b _ h0 h1 h2 h3 hS.out).mono ?_
          rintro e w' ⟨rfl, rfl⟩
          go_wp2_with fail
          refine (muldiv_yes a b b _ h0 h1 h2 h3 h2 h3 hd.out hc.out).mono ?_
          rintro e w' ⟨rfl, n56, rfl⟩
          go_wp2_with fail
          refine (mul_no a b _ h0 h1 h2 h3 HM.out).mono ?_
          rintro e w' ⟨rfl, n57, rfl⟩
          go_wp2_with fail
          refine (floor_yes a b _ h0 h1 h2 h3 HQ.out).mono ?_
          rintro e w' ⟨rfl, rfl⟩
          go_wp2_with fail
          refine (ceil_yes a b _ h0 h1 h2 h3 HQ.out).mono ?_
          rintro e w' ⟨rfl, rfl⟩
          go_wp2_with fail
          refine (near_yes a b _ h0 h1 h2 h3 HQ.out).mono ?_
          rintro e w' ⟨rfl, rfl⟩
          rw [HN.out]
          go_wp2_with fail
          refine (awake1_any _).mono ?_
          rintro e w' ⟨rfl, n1, rfl⟩
          go_wp2_with fail
          go_ret
          exact ⟨rfl, _, rfl⟩
    · have HM := Lib.hid hm
      clear hm
      rcases hq : qok a b with _ | _
      · have HQ := Lib.hid hq
        clear hq
        obtain ⟨rfl, rfl⟩ : a = -9223372036854775808 ∧ b = -1 := by
          have := quot_back h0 h1 h2 h3 hb HQ.out
          exact this
        exact fixedBack_low w
      · have HQ := Lib.hid hq
        obtain ⟨⟨c1, c2⟩, c3⟩ := near_one h0 h1 h2 h3 hq
        obtain ⟨_, f0, f1⟩ := qok_iff.1 hq
        clear hq
        have d1 : decide (ceiI a b < flo a b) = false := by simp; omega
        rcases c3 with c3 | ⟨c3, c4⟩
        · have HN := Lib.hid c3
          clear c3
          go_enter Try.func8, Try.ntmps8
          go_wp2_with fail
          refine (add_yes a b _ h0 h1 h2 h3 hA.out).mono ?_
          rintro e w' ⟨rfl, rfl⟩
          go_wp2_with fail
          refine (sub_yes (a + b) b _ (okI_iff.1 hA.out).1 (okI_iff.1 hA.out).2 h2 h3 (by rw [show a + b - b = a from by omega]; exact oa.out)).mono ?_
          rintro e w' ⟨rfl, rfl⟩
          rw [show a + b - b = a from by omega]
          go_wp2_with fail
          refine (sub_no a b _ h0 h1 h2 h3 hS.out).mono ?_
          rintro e w' ⟨rfl, rfl⟩
          go_wp2_with fail
          refine (muldiv_yes a b b _ h0 h1 h2 h3 h2 h3 hd.out hc.out).mono ?_
          rintro e w' ⟨rfl, n64, rfl⟩
          go_wp2_with fail
          refine (mul_yes a b _ h0 h1 h2 h3 HM.out).mono ?_
          rintro e w' ⟨rfl, n65, rfl⟩
          go_wp2_with fail
          refine (floor_yes (a * b) b _ (okI_iff.1 HM.out).1 (okI_iff.1 HM.out).2 h2 h3 hd.out).mono ?_
          rintro e w' ⟨rfl, rfl⟩
          rw [hc.out]
          go_wp2_with fail
          refine (floor_yes a b _ h0 h1 h2 h3 HQ.out).mono ?_
          rintro e w' ⟨rfl, rfl⟩
          go_wp2_with fail
          refine (ceil_yes a b _ h0 h1 h2 h3 HQ.out).mono ?_
          rintro e w' ⟨rfl, rfl⟩
          go_wp2_with fail
          refine (near_yes a b _ h0 h1 h2 h3 HQ.out).mono ?_
          rintro e w' ⟨rfl, rfl⟩
          rw [HN.out]
          go_wp2_with fail
          refine (awake1_any _).mono ?_
          rintro e w' ⟨rfl, n1, rfl⟩
          go_wp2_with fail
          go_ret
          exact ⟨rfl, _, rfl⟩
        · have HN := Lib.hid c4
          have c5 : (ceiI a b == flo a b) = false := by rw [c4] at c3; simpa using c3
          have c6 : ceiI a b ≠ flo a b := by rw [← c4]; exact c3
          clear c3 c4
          go_enter Try.func8, Try.ntmps8
          go_wp2_with fail
          refine (add_yes a b _ h0 h1 h2 h3 hA.out).mono ?_
          rintro e w' ⟨rfl, rfl⟩
          go_wp2_with fail
          refine (sub_yes (a + b) b _ (okI_iff.1 hA.out).1 (okI_iff.1 hA.out).2 h2 h3 (by rw [show a + b - b = a from by omega]; exact oa.out)).mono ?_
          rintro e w' ⟨rfl, rfl⟩
          rw [show a + b - b = a from by omega]
          go_wp2_with fail
          refine (sub_no a b _ h0 h1 h2 h3 hS.out).mono ?_
          rintro e w' ⟨rfl, rfl⟩
          go_wp2_with fail
          refine (muldiv_yes a b b _ h0 h1 h2 h3 h2 h3 hd.out hc.out).mono ?_
          rintro e w' ⟨rfl, n64, rfl⟩
          go_wp2_with fail
          refine (mul_yes a b _ h0 h1 h2 h3 HM.out).mono ?_
          rintro e w' ⟨rfl, n65, rfl⟩
          go_wp2_with fail
          refine (floor_yes (a * b) b _ (okI_iff.1 HM.out).1 (okI_iff.1 HM.out).2 h2 h3 hd.out).mono ?_
          rintro e w' ⟨rfl, rfl⟩
          rw [hc.out]
          go_wp2_with fail
          refine (floor_yes a b _ h0 h1 h2 h3 HQ.out).mono ?_
          rintro e w' ⟨rfl, rfl⟩
          go_wp2_with fail
          refine (ceil_yes a b _ h0 h1 h2 h3 HQ.out).mono ?_
          rintro e w' ⟨rfl, rfl⟩
          go_wp2_with fail
          refine (near_yes a b _ h0 h1 h2 h3 HQ.out).mono ?_
          rintro e w' ⟨rfl, rfl⟩
          rw [HN.out]
          go_wp2_with fail
          refine (awake1_any _).mono ?_
          rintro e w' ⟨rfl, n1, rfl⟩
          go_wp2_with fail
          go_ret
          exact ⟨rfl, _, rfl⟩

set_option maxRecDepth 100000 in
set_option maxHeartbeats 1000000 in
theorem fixedBack_11 (a b : Int) (w : World) (h0 : -9223372036854775808 ≤ a) (h1 : a ≤ 9223372036854775807) (h2 : -9223372036854775808 ≤ b) (h3 : b ≤ 9223372036854775807) (hA : Hid (okI (a + b) = true)) (hS : Hid (okI (a - b) = true)) :
    Calls Try.prog 8 #[.int .i64 a, .int .i64 b] w fun e w' => e = .returned (.bool true) ∧ ∃ n, w' = w.drewN n := by
  have oa := Lib.hid (okI_yes h0 h1)
  by_cases hb : b = 0
  · subst hb
    exact fixedBack_zero a w h0 h1
  · have hb' : (b == 0) = false := by simpa using hb
    have hc := Lib.hid (flo_cancel a b hb)
    have hd := Lib.hid (qok_cancel hb h0 h1)
    rcases hm : okI (a * b) with _ | _
    · have HM := Lib.hid hm
      clear hm
      rcases hq : qok a b with _ | _
      · have HQ := Lib.hid hq
        clear hq
        obtain ⟨rfl, rfl⟩ : a = -9223372036854775808 ∧ b = -1 := by
          have := quot_back h0 h1 h2 h3 hb HQ.out
          exact this
        exact fixedBack_low w
      · have HQ := Lib.hid hq
        obtain ⟨⟨c1, c2⟩, c3⟩ := near_one h0 h1 h2 h3 hq
        obtain ⟨_, f0, f1⟩ := qok_iff.1 hq
        clear hq
        have d1 : decide (ceiI a b < flo a b) = false := by simp; omega
        rcases c3 with c3 | ⟨c3, c4⟩
        · have HN := Lib.hid c3
          clear c3
          go_enter Try.func8, Try.ntmps8
          go_wp2_with fail
          refine (add_yes a b _ h0 h1 h2 h3 hA.out).mono ?_
          rintro e w' ⟨rfl, rfl⟩
          go_wp2_with fail
          refine (sub_yes (a + b) b _ (okI_iff.1 hA.out).1 (okI_iff.1 hA.out).2 h2 h3 (by rw [show a + b - b = a from by omega]; exact oa.out)).mono ?_
          rintro e w' ⟨rfl, rfl⟩
          rw [show a + b - b = a from by omega]
          go_wp2_with fail
          refine (sub_yes a b _ h0 h1 h2 h3 hS.out).mono ?_
          rintro e w' ⟨rfl, rfl⟩
          go_wp2_with fail
          refine (add_yes (a - b) b _ (okI_iff.1 hS.out).1 (okI_iff.1 hS.out).2 h2 h3 (by rw [show a - b + b = a from by omega]; exact oa.out)).mono ?_
          rintro e w' ⟨rfl, rfl⟩
          rw [show a - b + b = a from by omega]
          go_wp2_with fail
          refine (muldiv_yes a b b _ h0 h1 h2 h3 h2 h3 hd.out hc.out).mono ?_
          rintro e w' ⟨rfl, n77, rfl⟩
          go_wp2_with fail
          refine (mul_no a b _ h0 h1 h2 h3 HM.out).mono ?_
          rintro e w' ⟨rfl, n78, rfl⟩
          go_wp2_with fail
          refine (floor_yes a b _ h0 h1 h2 h3 HQ.out).mono ?_
          rintro e w' ⟨rfl, rfl⟩
          go_wp2_with fail
          refine (ceil_yes a b _ h0 h1 h2 h3 HQ.out).mono ?_
          rintro e w' ⟨rfl, rfl⟩
          go_wp2_with fail
          refine (near_yes a b _ h0 h1 h2 h3 HQ.out).mono ?_
          rintro e w' ⟨rfl, rfl⟩
          rw [HN.out]
          go_wp2_with fail
          refine (awake1_any _).mono ?_
          rintro e w' ⟨rfl, n1, rfl⟩
          go_wp2_with fail
          go_ret
          exact ⟨rfl, _, rfl⟩
        · have HN := Lib.hid c4
          have c5 : (ceiI a b == flo a b) = false := by rw [c4] at c3; simpa using c3
          have c6 : ceiI a b ≠ flo a b := by rw [← c4]; exact c3
          clear c3 c4
          go_enter Try.func8, Try.ntmps8
          go_wp2_with fail
          refine (add_yes a b _ h0 h1 h2 h3 hA.out).mono ?_
          rintro e w' ⟨rfl, rfl⟩
          go_wp2_with fail
          refine (sub_yes (a + b) b _ (okI_iff.1 hA.out).1 (okI_iff.1 hA.out).2 h2 h3 (by rw [show a + b - b = a from by omega]; exact oa.out)).mono ?_
          rintro e w' ⟨rfl, rfl⟩
          rw [show a + b - b = a from by omega]
          go_wp2_with fail
          refine (sub_yes a b _ h0 h1 h2 h3 hS.out).mono ?_
          rintro e w' ⟨rfl, rfl⟩
          go_wp2_with fail
          refine (add_yes (a - b) b _ (okI_iff.1 hS.out).1 (okI_iff.1 hS.out).2 h2 h3 (by rw [show a - b + b = a from by omega]; exact oa.out)).mono ?_
          rintro e w' ⟨rfl, rfl⟩
          rw [show a - b + b = a from by omega]
          go_wp2_with fail
          refine (muldiv_yes a b b _ h0 h1 h2 h3 h2 h3 hd.out hc.out).mono ?_
          rintro e w' ⟨rfl, n77, rfl⟩
          go_wp2_with fail
          refine (mul_no a b _ h0 h1 h2 h3 HM.out).mono ?_
          rintro e w' ⟨rfl, n78, rfl⟩
          go_wp2_with fail
          refine (floor_yes a b _ h0 h1 h2 h3 HQ.out).mono ?_
          rintro e w' ⟨rfl, rfl⟩
          go_wp2_with fail
          refine (ceil_yes a b _ h0 h1 h2 h3 HQ.out).mono ?_
          rintro e w' ⟨rfl, rfl⟩
          go_wp2_with fail
          refine (near_yes a b _ h0 h1 h2 h3 HQ.out).mono ?_
          rintro e w' ⟨rfl, rfl⟩
          rw [HN.out]
          go_wp2_with fail
          refine (awake1_any _).mono ?_
          rintro e w' ⟨rfl, n1, rfl⟩
          go_wp2_with fail
          go_ret
          exact ⟨rfl, _, rfl⟩
    · have HM := Lib.hid hm
      clear hm
      rcases hq : qok a b with _ | _
      · have HQ := Lib.hid hq
        clear hq
        obtain ⟨rfl, rfl⟩ : a = -9223372036854775808 ∧ b = -1 := by
          have := quot_back h0 h1 h2 h3 hb HQ.out
          exact this
        exact fixedBack_low w
      · have HQ := Lib.hid hq
        obtain ⟨⟨c1, c2⟩, c3⟩ := near_one h0 h1 h2 h3 hq
        obtain ⟨_, f0, f1⟩ := qok_iff.1 hq
        clear hq
        have d1 : decide (ceiI a b < flo a b) = false := by simp; omega
        rcases c3 with c3 | ⟨c3, c4⟩
        · have HN := Lib.hid c3
          clear c3
          go_enter Try.func8, Try.ntmps8
          go_wp2_with fail
          refine (add_yes a b _ h0 h1 h2 h3 hA.out).mono ?_
          rintro e w' ⟨rfl, rfl⟩
          go_wp2_with fail
          refine (sub_yes (a + b) b _ (okI_iff.1 hA.out).1 (okI_iff.1 hA.out).2 h2 h3 (by rw [show a + b - b = a from by omega]; exact oa.out)).mono ?_
          rintro e w' ⟨rfl, rfl⟩
          rw [show a + b - b = a from by omega]
          go_wp2_with fail
          refine (sub_yes a b _ h0 h1 h2 h3 hS.out).mono ?_
          rintro e w' ⟨rfl, rfl⟩
          go_wp2_with fail
          refine (add_yes (a - b) b _ (okI_iff.1 hS.out).1 (okI_iff.1 hS.out).2 h2 h3 (by rw [show a - b + b = a from by omega]; exact oa.out)).mono ?_
          rintro e w' ⟨rfl, rfl⟩
          rw [show a - b + b = a from by omega]
          go_wp2_with fail
          refine (muldiv_yes a b b _ h0 h1 h2 h3 h2 h3 hd.out hc.out).mono ?_
          rintro e w' ⟨rfl, n85, rfl⟩
          go_wp2_with fail
          refine (mul_yes a b _ h0 h1 h2 h3 HM.out).mono ?_
          rintro e w' ⟨rfl, n86, rfl⟩
          go_wp2_with fail
          refine (floor_yes (a * b) b _ (okI_iff.1 HM.out).1 (okI_iff.1 HM.out).2 h2 h3 hd.out).mono ?_
          rintro e w' ⟨rfl, rfl⟩
          rw [hc.out]
          go_wp2_with fail
          refine (floor_yes a b _ h0 h1 h2 h3 HQ.out).mono ?_
          rintro e w' ⟨rfl, rfl⟩
          go_wp2_with fail
          refine (ceil_yes a b _ h0 h1 h2 h3 HQ.out).mono ?_
          rintro e w' ⟨rfl, rfl⟩
          go_wp2_with fail
          refine (near_yes a b _ h0 h1 h2 h3 HQ.out).mono ?_
          rintro e w' ⟨rfl, rfl⟩
          rw [HN.out]
          go_wp2_with fail
          refine (awake1_any _).mono ?_
          rintro e w' ⟨rfl, n1, rfl⟩
          go_wp2_with fail
          go_ret
          exact ⟨rfl, _, rfl⟩
        · have HN := Lib.hid c4
          have c5 : (ceiI a b == flo a b) = false := by rw [c4] at c3; simpa using c3
          have c6 : ceiI a b ≠ flo a b := by rw [← c4]; exact c3
          clear c3 c4
          go_enter Try.func8, Try.ntmps8
          go_wp2_with fail
          refine (add_yes a b _ h0 h1 h2 h3 hA.out).mono ?_
          rintro e w' ⟨rfl, rfl⟩
          go_wp2_with fail
          refine (sub_yes (a + b) b _ (okI_iff.1 hA.out).1 (okI_iff.1 hA.out).2 h2 h3 (by rw [show a + b - b = a from by omega]; exact oa.out)).mono ?_
          rintro e w' ⟨rfl, rfl⟩
          rw [show a + b - b = a from by omega]
          go_wp2_with fail
          refine (sub_yes a b _ h0 h1 h2 h3 hS.out).mono ?_
          rintro e w' ⟨rfl, rfl⟩
          go_wp2_with fail
          refine (add_yes (a - b) b _ (okI_iff.1 hS.out).1 (okI_iff.1 hS.out).2 h2 h3 (by rw [show a - b + b = a from by omega]; exact oa.out)).mono ?_
          rintro e w' ⟨rfl, rfl⟩
          rw [show a - b + b = a from by omega]
          go_wp2_with fail
          refine (muldiv_yes a b b _ h0 h1 h2 h3 h2 h3 hd.out hc.out).mono ?_
          rintro e w' ⟨rfl, n85, rfl⟩
          go_wp2_with fail
          refine (mul_yes a b _ h0 h1 h2 h3 HM.out).mono ?_
          rintro e w' ⟨rfl, n86, rfl⟩
          go_wp2_with fail
          refine (floor_yes (a * b) b _ (okI_iff.1 HM.out).1 (okI_iff.1 HM.out).2 h2 h3 hd.out).mono ?_
          rintro e w' ⟨rfl, rfl⟩
          rw [hc.out]
          go_wp2_with fail
          refine (floor_yes a b _ h0 h1 h2 h3 HQ.out).mono ?_
          rintro e w' ⟨rfl, rfl⟩
          go_wp2_with fail
          refine (ceil_yes a b _ h0 h1 h2 h3 HQ.out).mono ?_
          rintro e w' ⟨rfl, rfl⟩
          go_wp2_with fail
          refine (near_yes a b _ h0 h1 h2 h3 HQ.out).mono ?_
          rintro e w' ⟨rfl, rfl⟩
          rw [HN.out]
          go_wp2_with fail
          refine (awake1_any _).mono ?_
          rintro e w' ⟨rfl, n1, rfl⟩
          go_wp2_with fail
          go_ret
          exact ⟨rfl, _, rfl⟩

theorem fixedBack_walk (a b : Int) (w : World) (h0 : -9223372036854775808 ≤ a) (h1 : a ≤ 9223372036854775807) (h2 : -9223372036854775808 ≤ b) (h3 : b ≤ 9223372036854775807) :
    Calls Try.prog 8 #[.int .i64 a, .int .i64 b] w fun e w' => e = .returned (.bool true) ∧ ∃ n, w' = w.drewN n := by
  rcases hA : okI (a + b) with _ | _ <;> rcases hS : okI (a - b) with _ | _
  · exact fixedBack_00 a b w h0 h1 h2 h3 (Lib.hid hA) (Lib.hid hS)
  · exact fixedBack_01 a b w h0 h1 h2 h3 (Lib.hid hA) (Lib.hid hS)
  · exact fixedBack_10 a b w h0 h1 h2 h3 (Lib.hid hA) (Lib.hid hS)
  · exact fixedBack_11 a b w h0 h1 h2 h3 (Lib.hid hA) (Lib.hid hS)

end Go.Proofs.Ytkcllhcinbcgiaa
