/- Contracts of layer 3: nanoseconds of units, Time. -/
import Derived.Test.YtemflgjfoappaaaStaB
namespace Go.Proofs.Ytemflgjfoappaaa
open Go.RowKit Fx St

theorem join_yes (s u t : Int) (w : World) (s0 : -9223372036854775808 ≤ s) (s1 : s ≤ 9223372036854775807) (u0 : 0 ≤ u) (u1 : u ≤ 8589934590) (h0 : -9223372036854775808 ≤ s * 1000000000) (h1 : s * 1000000000 ≤ 9223372036854775807)
    (ht : t = s * 1000000000 + (u * 1000000000 + 4294967295) / 4294967296) (h3 : t ≤ 9223372036854775807) :
    Calls Try.prog 39 #[.int .i64 s, .int .i64 u] w fun e w' => e = .returned (.tuple #[.int .i64 t, .bool true]) ∧ ∃ n, w' = w.drewN n := by
  obtain ⟨c, hc⟩ : ∃ c, (u * 1000000000 + 4294967295) / 4294967296 = c := ⟨_, rfl⟩
  obtain ⟨y, hy⟩ : ∃ y, s * 1000000000 = y := ⟨_, rfl⟩
  have c0 : 0 ≤ c := by omega
  have c1 : c ≤ 2000000000 := by omega
  have HC : Hid (ceiI (u * 1000000000) 4294967296 = c) := Lib.hid (by rw [ceiI_pos _ _ (by decide)]; exact hc)
  have HQ := Lib.hid (qok_pos (x := u * 1000000000) (c := 4294967296) (by decide) (by omega) (by omega))
  rw [hy, hc] at ht
  rw [hy] at h0 h1
  have HY := Lib.hid hy
  have HT := Lib.hid ht
  have HO : Hid (okI (y + c) = true) := Lib.hid (okI_yes (by omega) (by omega))
  clear hc hy ht
  go_enter Try.func39, Try.ntmps39
  go_wp2_with fail
  refine (mul_yes s 1000000000 _ s0 s1 (by decide) (by decide) (okI_yes (by rw [HY.out]; exact h0) (by rw [HY.out]; exact h1))).mono ?_
  rintro e w' ⟨rfl, n, rfl⟩
  rw [HY.out]
  go_wp2_with fail
  refine (ceil_yes (u * 1000000000) 4294967296 _ (by omega) (by omega) (by decide) (by decide) HQ.out).mono ?_
  rintro e w' ⟨rfl, rfl⟩
  rw [HC.out]
  go_wp2_with fail
  refine (add_yes y c _ (by omega) (by omega) (by omega) (by omega) HO.out).mono ?_
  rintro e w' ⟨rfl, rfl⟩
  go_wp2_with fail
  go_ret2
  exact ⟨ret2 HT.out.symm rfl, n, rfl⟩

theorem join_no (s u : Int) (w : World) (s0 : -9223372036854775808 ≤ s) (s1 : s ≤ 9223372036854775807) (u0 : 0 ≤ u) (u1 : u ≤ 8589934590)
    (h : s * 1000000000 < -9223372036854775808 ∨ 9223372036854775807 < s * 1000000000 ∨ 9223372036854775807 < s * 1000000000 + (u * 1000000000 + 4294967295) / 4294967296) :
    Calls Try.prog 39 #[.int .i64 s, .int .i64 u] w fun e w' => e = .returned (.tuple #[.int .i64 0, .bool false]) ∧ ∃ n, w' = w.drewN n := by
  obtain ⟨c, hc⟩ : ∃ c, (u * 1000000000 + 4294967295) / 4294967296 = c := ⟨_, rfl⟩
  obtain ⟨y, hy⟩ : ∃ y, s * 1000000000 = y := ⟨_, rfl⟩
  have c0 : 0 ≤ c := by omega
  have c1 : c ≤ 2000000000 := by omega
  have HC : Hid (ceiI (u * 1000000000) 4294967296 = c) := Lib.hid (by rw [ceiI_pos _ _ (by decide)]; exact hc)
  have HQ := Lib.hid (qok_pos (x := u * 1000000000) (c := 4294967296) (by decide) (by omega) (by omega))
  rw [hy, hc] at h
  have HY := Lib.hid hy
  clear hc hy
  by_cases hw : y < -9223372036854775808 ∨ 9223372036854775807 < y
  · have HN : Hid (okI y = false) := Lib.hid (okI_no hw)
    clear h hw
    go_enter Try.func39, Try.ntmps39
    go_wp2_with fail
    refine (mul_no s 1000000000 _ s0 s1 (by decide) (by decide) (by rw [HY.out]; exact HN.out)).mono ?_
    rintro e w' ⟨rfl, n, rfl⟩
    go_wp2_with fail
    go_ret2
    exact ⟨rfl, n, rfl⟩
  · have y0 : -9223372036854775808 ≤ y := by omega
    have y1 : y ≤ 9223372036854775807 := by omega
    have HO : Hid (okI (y + c) = false) := Lib.hid (okI_no (by omega))
    clear h hw
    go_enter Try.func39, Try.ntmps39
    go_wp2_with fail
    refine (mul_yes s 1000000000 _ s0 s1 (by decide) (by decide) (okI_yes (by rw [HY.out]; exact y0) (by rw [HY.out]; exact y1))).mono ?_
    rintro e w' ⟨rfl, n, rfl⟩
    rw [HY.out]
    go_wp2_with fail
    refine (ceil_yes (u * 1000000000) 4294967296 _ (by omega) (by omega) (by decide) (by decide) HQ.out).mono ?_
    rintro e w' ⟨rfl, rfl⟩
    rw [HC.out]
    go_wp2_with fail
    refine (add_no y c _ (by omega) (by omega) (by omega) (by omega) HO.out).mono ?_
    rintro e w' ⟨rfl, rfl⟩
    go_wp2_with fail
    go_ret2
    exact ⟨rfl, n, rfl⟩

theorem nanos_any (u : Int) (w : World) (h0 : -9223372036854775808 ≤ u) (h1 : u ≤ 9223372036854775807) :
    Calls Try.prog 25 #[.int .i64 u] w fun e w' => e = .returned (.int .i64 (cei u)) ∧ ∃ n, w' = w.drewN n := by
  have hm := i64_mask32 u
  have HC := Lib.hid (cei_split u)
  go_enter Try.func25, Try.ntmps25
  go_wp2_with fail
  refine (join_yes (u / 4294967296) (u % 4294967296) (cei u) _ (by omega) (by omega) (by omega) (by omega) (by omega) (by omega) HC.out (by rw [HC.out]; omega)).mono ?_
  rintro e w' ⟨rfl, n, rfl⟩
  go_wp2_with fail
  go_ret
  exact ⟨rfl, n, rfl⟩

theorem rnanos_any (u : Int) (w : World) (h0 : -9223372036854775808 ≤ u) (h1 : u ≤ 9223372036854775807) :
    Calls Try.prog 26 #[.int .i64 u] w fun e w' => e = .returned (.int .i64 (cei u)) ∧ w = w' := by
  have hm := i64_mask32 u
  have HC := Lib.hid (cei_split u)
  go_enter Try.func26, Try.ntmps26
  go_wp2_with fail
  refine (above_any (u % 4294967296) _ (by omega) (by omega)).mono ?_
  rintro e w' ⟨rfl, rfl⟩
  go_wp2_with fail
  go_ret
  exact ⟨ret1 HC.out.symm, rfl⟩

theorem units_yes (t : Int) (w : World) (h0 : -2147483648000000000 ≤ t) (h1 : t < 2147483648000000000) :
    Calls Try.prog 23 #[.int .i64 t] w fun e w' => e = .returned (.tuple #[.int .i64 (uni t), .bool true]) ∧ ∃ n, w' = w.drewN n := by
  go_enter Try.func23, Try.ntmps23
  go_wp2_with fail
  refine (muldiv_yes (d := uni t) t 4294967296 1000000000 _ (by omega) (by omega) (by decide) (by decide) (by decide) (by decide) (qok_pos (by decide) (by omega) (by omega)) (flo_pos (by decide))).mono ?_
  rintro e w' ⟨rfl, n, rfl⟩
  go_wp2_with fail
  go_ret2
  exact ⟨rfl, n, rfl⟩
theorem units_no (t : Int) (w : World) (h0 : -9223372036854775808 ≤ t) (h1 : t ≤ 9223372036854775807) (h : t < -2147483648000000000 ∨ 2147483648000000000 ≤ t) :
    Calls Try.prog 23 #[.int .i64 t] w fun e w' => e = .returned (.tuple #[.int .i64 0, .bool false]) ∧ ∃ n, w' = w.drewN n := by
  have HN := Lib.hid (qok_neg (x := t * 4294967296) (c := 1000000000) (by decide) (by omega))
  clear h
  go_enter Try.func23, Try.ntmps23
  go_wp2_with fail
  refine (muldiv_any t 4294967296 1000000000 _ h0 h1 (by decide) (by decide) (by decide) (by decide)).mono ?_
  rintro e w' ⟨rfl, n, rfl⟩
  rw [HN.out, sel_false]
  go_wp2_with fail
  go_ret2
  exact ⟨rfl, n, rfl⟩

theorem runits_yes (t : Int) (w : World) (h0 : -2147483648000000000 ≤ t) (h1 : t < 2147483648000000000) :
    Calls Try.prog 24 #[.int .i64 t] w fun e w' => e = .returned (.tuple #[.int .i64 (uni t), .bool true]) ∧ w = w' := by
  have HS := Lib.hid (uni_split t)
  obtain ⟨r, hr⟩ : ∃ r, t % 1000000000 = r := ⟨_, rfl⟩
  obtain ⟨q, hq⟩ : ∃ q, t / 1000000000 = q := ⟨_, rfl⟩
  have r0 : 0 ≤ r := by omega
  have r1 : r < 1000000000 := by omega
  have q0 : -2147483648 ≤ q := by omega
  have q1 : q ≤ 2147483647 := by omega
  have Hr := Lib.hid hr
  have Hq := Lib.hid hq
  clear hr hq
  go_enter Try.func24, Try.ntmps24
  go_wp2_with fail
  refine (rsplit_any t _ (by omega) (by omega)).mono ?_
  rintro e w' ⟨rfl, rfl⟩
  rw [Hr.out, Hq.out]
  go_wp2_with fail
  go_ret2
  exact ⟨ret2 (by rw [HS.out, Hr.out, Hq.out]) rfl, rfl⟩
theorem runits_no (t : Int) (w : World) (h0 : -9223372036854775808 ≤ t) (h1 : t ≤ 9223372036854775807) (h : t < -2147483648000000000 ∨ 2147483648000000000 ≤ t) :
    Calls Try.prog 24 #[.int .i64 t] w fun e w' => e = .returned (.tuple #[.int .i64 0, .bool false]) ∧ w = w' := by
  obtain ⟨r, hr⟩ : ∃ r, t % 1000000000 = r := ⟨_, rfl⟩
  obtain ⟨q, hq⟩ : ∃ q, t / 1000000000 = q := ⟨_, rfl⟩
  have r0 : 0 ≤ r := by omega
  have r1 : r < 1000000000 := by omega
  have Hr := Lib.hid hr
  have Hq := Lib.hid hq
  rcases h with h | h
  · have q0 : q < -2147483648 := by omega
    clear hr hq h
    go_enter Try.func24, Try.ntmps24
    go_wp2_with fail
    refine (rsplit_any t _ (by omega) (by omega)).mono ?_
    rintro e w' ⟨rfl, rfl⟩
    rw [Hr.out, Hq.out]
    go_wp2_with fail
    all_goals (go_ret2; exact ⟨rfl, rfl⟩)
  · have q0 : 2147483647 < q := by omega
    have q1 : ¬ q < -2147483648 := by omega
    clear hr hq h
    go_enter Try.func24, Try.ntmps24
    go_wp2_with fail
    refine (rsplit_any t _ (by omega) (by omega)).mono ?_
    rintro e w' ⟨rfl, rfl⟩
    rw [Hr.out, Hq.out]
    go_wp2_with fail
    all_goals (go_ret2; exact ⟨rfl, rfl⟩)
end Go.Proofs.Ytemflgjfoappaaa
