/- Contracts of layer 3: the numbers. -/
import Derived.Test.YtemflgjfoappaaaStaA
namespace Go.Proofs.Ytemflgjfoappaaa
open Go.RowKit Fx St

theorem St.flo_pos {x c : Int} (hc : 0 < c) : flo x c = x / c := if_pos hc
theorem St.ceiI_pos (x c : Int) (hc : 0 < c) : ceiI x c = (x + (c - 1)) / c := by
  unfold ceiI; rw [flo_pos hc]; exact ceil_by x c hc
theorem St.qok_pos {x c : Int} (hc : 0 < c) (h0 : -9223372036854775808 ≤ x / c) (h1 : x / c ≤ 9223372036854775807) : qok x c = true := by
  rw [qok_iff]; unfold flo; rw [if_pos hc]; omega
theorem St.qok_neg {x c : Int} (hc : 0 < c) (h0 : x / c < -9223372036854775808 ∨ 9223372036854775807 < x / c) : qok x c = false := by
  rw [qok_iff']; unfold flo; rw [if_pos hc]; omega

theorem rsplit_any (t : Int) (w : World) (h0 : -9223372036854775808 ≤ t) (h1 : t ≤ 9223372036854775807) :
    Calls Try.prog 36 #[.int .i64 t] w fun e w' => e = .returned (.tuple #[.int .i64 (t / 1000000000), .int .i64 (t % 1000000000)]) ∧ w = w' := by
  obtain ⟨b1, b2, b3, b4⟩ := i64_in h0 h1
  obtain ⟨q, hq⟩ : ∃ q, t.tdiv 1000000000 = q := ⟨_, rfl⟩
  obtain ⟨r, hr⟩ : ∃ r, t.tmod 1000000000 = r := ⟨_, rfl⟩
  rcases tdm t with ⟨a1, a2, a3⟩ | ⟨a1, a2, a3⟩
  all_goals
    rw [hr] at a1 a3 b3 b4
    rw [hq] at a2 b1 b2
    have A2 := Lib.hid a2
    have A3 := Lib.hid a3
    clear a2 a3
    go_enter Try.func36, Try.ntmps36
    go_wp2_with fail
    go_ret2
    exact ⟨ret22 A2.out A3.out, rfl⟩

theorem isTime_any (t : Int) (w : World) :
    Calls Try.prog 38 #[.int .i64 t] w fun e w' => e = .returned (.bool (decide (-8000000000000000000 ≤ t ∧ t ≤ 8000000000000000000))) ∧ w = w' := by
  by_cases hl : -8000000000000000000 ≤ t
  · by_cases hh : t ≤ 8000000000000000000
    · rw [decide_eq_true ⟨hl, hh⟩]
      go_enter Try.func38, Try.ntmps38
      go_wp2
      go_ret
      exact ⟨rfl, rfl⟩
    · rw [decide_eq_false (by omega)]
      go_enter Try.func38, Try.ntmps38
      go_wp2
      go_ret
      exact ⟨rfl, rfl⟩
  · rw [decide_eq_false (by omega)]
    go_enter Try.func38, Try.ntmps38
    go_wp2
    go_ret
    exact ⟨rfl, rfl⟩

theorem inside_any (t : Int) (w : World) :
    Calls Try.prog 19 #[.int .i64 t] w fun e w' => e = .returned (.bool (decide (-8000000000000000000 ≤ t ∧ t ≤ 8000000000000000000))) ∧ w = w' := by
  by_cases hl : -8000000000000000000 ≤ t
  · by_cases hh : t ≤ 8000000000000000000
    · rw [decide_eq_true ⟨hl, hh⟩]
      go_enter Try.func19, Try.ntmps19
      go_wp2
      go_ret
      exact ⟨rfl, rfl⟩
    · rw [decide_eq_false (by omega)]
      go_enter Try.func19, Try.ntmps19
      go_wp2
      go_ret
      exact ⟨rfl, rfl⟩
  · rw [decide_eq_false (by omega)]
    go_enter Try.func19, Try.ntmps19
    go_wp2
    go_ret
    exact ⟨rfl, rfl⟩

/-- How far are two instants apart? -/
def St.apa (a b : Int) : Int := if a < b then b - a else a - b
theorem apart_any (a b : Int) (w : World) (h0 : -8000000000000000000 ≤ a) (h1 : a ≤ 8000000000000000000) (h2 : -8000000000000000000 ≤ b) (h3 : b ≤ 8000000000000000000) :
    Calls Try.prog 20 #[.int .i64 a, .int .i64 b] w fun e w' => e = .returned (.int .u64 (apa a b)) ∧ w = w' := by
  by_cases h : a < b
  · rw [show apa a b = b - a from if_pos h]
    go_enter Try.func20, Try.ntmps20
    go_wp2
    go_ret
    exact ⟨ret1 (by simp only [IntKind.wrap_u64]; omega), rfl⟩
  · rw [show apa a b = a - b from if_neg h]
    go_enter Try.func20, Try.ntmps20
    go_wp2
    go_ret
    exact ⟨ret1 (by simp only [IntKind.wrap_u64]; omega), rfl⟩

theorem diff_any (a b : Int) (w : World) :
    Calls Try.prog 21 #[.int .u64 a, .int .u64 b] w fun e w' => e = .returned (.int .i64 (dif a b)) ∧ w = w' := by
  go_enter Try.func21, Try.ntmps21
  go_wp2
  go_ret
  exact ⟨ret1 (by unfold wrap64 dif; simp only [IntKind.wrap_u64]; omega), rfl⟩
theorem rdiff_any (a b : Int) (w : World) :
    Calls Try.prog 22 #[.int .u64 a, .int .u64 b] w fun e w' => e = .returned (.int .i64 (dif a b)) ∧ w = w' := by
  go_enter Try.func22, Try.ntmps22
  go_wp2
  go_ret
  exact ⟨ret1 (by unfold wrap64 dif; simp only [IntKind.wrap_u64]; omega), rfl⟩

theorem above_any (a : Int) (w : World) (h0 : 0 ≤ a) (h1 : a ≤ 4294967295) :
    Calls Try.prog 40 #[.int .i64 a] w fun e w' => e = .returned (.int .i64 ((a * 1000000000 + 4294967295) / 4294967296)) ∧ w = w' := by
  go_enter Try.func40, Try.ntmps40
  go_wp2
  go_ret
  exact ⟨rfl, rfl⟩

theorem of_any (t : Int) (w : World) (h0 : -9223372036854775808 ≤ t) (h1 : t ≤ 9223372036854775807) :
    Calls Try.prog 12 #[.int .i64 t] w fun e w' => e = .returned (.int .u64 (ofI t)) ∧ w = w' := by
  have hs := Lib.hid (ofI_split t)
  obtain ⟨u, hu⟩ : ∃ u, t % 1000000000 * 4294967296 / 1000000000 = u := ⟨_, rfl⟩
  obtain ⟨q, hq⟩ : ∃ q, t / 1000000000 = q := ⟨_, rfl⟩
  have u0 : 0 ≤ u := by omega
  have u1 : u < 4294967296 := by omega
  have Hu := Lib.hid hu
  have Hq := Lib.hid hq
  clear hu hq
  go_enter Try.func12, Try.ntmps12
  go_wp2_with fail
  refine (split_any t _ h0 h1).mono ?_
  rintro e w' ⟨rfl, rfl⟩
  rw [Hu.out, Hq.out]
  go_wp2_with fail
  go_ret
  refine ⟨ret1 ?_, rfl⟩
  rw [hs.out, Hu.out, Hq.out, ← or32 u0 u1]
  congr 1
  simp only [IntKind.wrap_u64]; omega

theorem rof_any (t : Int) (w : World) (h0 : -9223372036854775808 ≤ t) (h1 : t ≤ 9223372036854775807) :
    Calls Try.prog 13 #[.int .i64 t] w fun e w' => e = .returned (.int .u64 (ofI t)) ∧ w = w' := by
  have hs := Lib.hid (ofI_split t)
  obtain ⟨r, hr⟩ : ∃ r, t % 1000000000 = r := ⟨_, rfl⟩
  obtain ⟨q, hq⟩ : ∃ q, t / 1000000000 = q := ⟨_, rfl⟩
  have u0 : 0 ≤ r := by omega
  have u1 : r < 1000000000 := by omega
  have Hr := Lib.hid hr
  have Hq := Lib.hid hq
  clear hr hq
  go_enter Try.func13, Try.ntmps13
  go_wp2_with fail
  refine (rsplit_any t _ h0 h1).mono ?_
  rintro e w' ⟨rfl, rfl⟩
  rw [Hr.out, Hq.out]
  go_wp2_with fail
  go_ret
  refine ⟨ret1 ?_, rfl⟩
  rw [hs.out, Hr.out, Hq.out]
  simp only [IntKind.wrap_u64]; omega

theorem era_any (t : Int) (w : World) (h0 : -9223372036854775808 ≤ t) (h1 : t ≤ 9223372036854775807) :
    Calls Try.prog 14 #[.int .i64 t] w fun e w' => e = .returned (.int .i64 (era t)) ∧ w = w' := by
  go_enter Try.func14, Try.ntmps14
  go_wp2_with fail
  refine (floor_yes t 4294967296000000000 _ h0 h1 (by decide) (by decide) (qok_pos (by decide) (by omega) (by omega))).mono ?_
  rintro e w' ⟨rfl, rfl⟩
  rw [flo_pos (by decide)]
  go_wp2_with fail
  go_ret
  exact ⟨rfl, rfl⟩

theorem rera_any (t : Int) (w : World) (h0 : -9223372036854775808 ≤ t) (h1 : t ≤ 9223372036854775807) :
    Calls Try.prog 15 #[.int .i64 t] w fun e w' => e = .returned (.int .i64 (era t)) ∧ w = w' := by
  have hs : Hid (era t = t / 1000000000 / 4294967296) := Lib.hid (by unfold era; omega)
  obtain ⟨r, hr⟩ : ∃ r, t % 1000000000 = r := ⟨_, rfl⟩
  obtain ⟨q, hq⟩ : ∃ q, t / 1000000000 = q := ⟨_, rfl⟩
  have q0 : -9223372037 ≤ q := by omega
  have q1 : q ≤ 9223372037 := by omega
  have Hr := Lib.hid hr
  have Hq := Lib.hid hq
  clear hr hq
  by_cases h : q < 0
  · go_enter Try.func15, Try.ntmps15
    go_wp2_with fail
    refine (rsplit_any t _ h0 h1).mono ?_
    rintro e w' ⟨rfl, rfl⟩
    rw [Hr.out, Hq.out]
    go_wp2_with fail
    go_ret
    exact ⟨ret1 (by rw [hs.out, Hq.out]; omega), rfl⟩
  · go_enter Try.func15, Try.ntmps15
    go_wp2_with fail
    refine (rsplit_any t _ h0 h1).mono ?_
    rintro e w' ⟨rfl, rfl⟩
    rw [Hr.out, Hq.out]
    go_wp2_with fail
    go_ret
    exact ⟨ret1 (by rw [hs.out, Hq.out]), rfl⟩
end Go.Proofs.Ytemflgjfoappaaa
