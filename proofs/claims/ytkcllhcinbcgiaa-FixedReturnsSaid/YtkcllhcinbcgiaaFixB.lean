/- Contracts of more small functions of layer 1: the specification's sums, signs, rates, limits. -/
import Derived.Test.YtkcllhcinbcgiaaFixA
import Derived.Deep.QuietTactic
import Derived.BigQuiet
import Derived.BigGuardPart
namespace Go.Proofs.Ytkcllhcinbcgiaa
open Go.RowKit Fx

theorem radd_any (a b : Int) (w : World) (h0 : -9223372036854775808 ≤ a) (h1 : a ≤ 9223372036854775807) (h2 : -9223372036854775808 ≤ b) (h3 : b ≤ 9223372036854775807) :
    Calls Try.prog 16 #[.int .i64 a, .int .i64 b] w fun e w' => e = .returned (.tuple #[.int .i64 (sel (okI (a + b)) (a + b)), .bool (okI (a + b))]) ∧ w = w' := by
  by_cases hr : -9223372036854775808 ≤ a + b ∧ a + b ≤ 9223372036854775807
  · obtain ⟨r0, r1⟩ := hr
    rw [okI_yes r0 r1]
    by_cases hp : 0 < b
    · have : ¬ (9223372036854775807 - b < a) := by omega
      go_enter Try.func16, Try.ntmps16
      go_wp2
      go_ret2
      exact ⟨rfl, rfl⟩
    · by_cases hn : b < 0
      · have : ¬ (a < -9223372036854775808 - b) := by omega
        go_enter Try.func16, Try.ntmps16
        go_wp2
        go_ret2
        exact ⟨rfl, rfl⟩
      · go_enter Try.func16, Try.ntmps16
        go_wp2
        go_ret2
        exact ⟨rfl, rfl⟩
  · rw [okI_no (by omega)]
    by_cases hp : 0 < b
    · have : 9223372036854775807 - b < a := by omega
      go_enter Try.func16, Try.ntmps16
      go_wp2
      go_ret2
      exact ⟨rfl, rfl⟩
    · have hn : b < 0 := by omega
      have : a < -9223372036854775808 - b := by omega
      go_enter Try.func16, Try.ntmps16
      go_wp2
      go_ret2
      exact ⟨rfl, rfl⟩

theorem rsub_any (a b : Int) (w : World) (h0 : -9223372036854775808 ≤ a) (h1 : a ≤ 9223372036854775807) (h2 : -9223372036854775808 ≤ b) (h3 : b ≤ 9223372036854775807) :
    Calls Try.prog 18 #[.int .i64 a, .int .i64 b] w fun e w' => e = .returned (.tuple #[.int .i64 (sel (okI (a - b)) (a - b)), .bool (okI (a - b))]) ∧ w = w' := by
  by_cases hr : -9223372036854775808 ≤ a - b ∧ a - b ≤ 9223372036854775807
  · obtain ⟨r0, r1⟩ := hr
    rw [okI_yes r0 r1]
    by_cases hp : b < 0
    · have : ¬ (9223372036854775807 + b < a) := by omega
      go_enter Try.func18, Try.ntmps18
      go_wp2
      go_ret2
      exact ⟨rfl, rfl⟩
    · by_cases hn : 0 < b
      · have : ¬ (a < -9223372036854775808 + b) := by omega
        go_enter Try.func18, Try.ntmps18
        go_wp2
        go_ret2
        exact ⟨rfl, rfl⟩
      · go_enter Try.func18, Try.ntmps18
        go_wp2
        go_ret2
        exact ⟨rfl, rfl⟩
  · rw [okI_no (by omega)]
    by_cases hp : b < 0
    · have : 9223372036854775807 + b < a := by omega
      go_enter Try.func18, Try.ntmps18
      go_wp2
      go_ret2
      exact ⟨rfl, rfl⟩
    · have hn : 0 < b := by omega
      have : a < -9223372036854775808 + b := by omega
      go_enter Try.func18, Try.ntmps18
      go_wp2
      go_ret2
      exact ⟨rfl, rfl⟩

/-- The number of an absolute value in two words and a sign. -/
theorem signed_any (n : Bool) (hi lo : Int) (w : World) (h0 : 0 ≤ hi) (h1 : hi ≤ 18446744073709551615) (h2 : 0 ≤ lo) (h3 : lo ≤ 18446744073709551615) :
    Calls Try.prog 64 #[.bool n, .int .u64 hi, .int .u64 lo] w fun e w' =>
      e = .returned (.tuple #[.int .i64 (sel (okI (if n = true then -(hi * 18446744073709551616 + lo) else hi * 18446744073709551616 + lo)) (if n = true then -(hi * 18446744073709551616 + lo) else hi * 18446744073709551616 + lo)), .bool (okI (if n = true then -(hi * 18446744073709551616 + lo) else hi * 18446744073709551616 + lo))]) ∧ w = w' := by
  by_cases hh : 0 < hi
  · rw [okI_no (by split <;> omega)]
    by_cases hl : 9223372036854775808 < lo
    · cases n
      · go_enter Try.func64, Try.ntmps64
        go_wp2
        go_ret2
        exact ⟨rfl, rfl⟩
      · go_enter Try.func64, Try.ntmps64
        go_wp2
        go_ret2
        exact ⟨rfl, rfl⟩
    · by_cases he : lo = 9223372036854775808
      · subst he
        cases n
        · go_enter Try.func64, Try.ntmps64
          go_wp2
          go_ret2
          exact ⟨rfl, rfl⟩
        · go_enter Try.func64, Try.ntmps64
          go_wp2
          go_ret2
          exact ⟨rfl, rfl⟩
      · have hb : (lo == 9223372036854775808) = false := by simpa using he
        cases n
        · go_enter Try.func64, Try.ntmps64
          go_wp2
          go_ret2
          exact ⟨rfl, rfl⟩
        · go_enter Try.func64, Try.ntmps64
          go_wp2
          go_ret2
          exact ⟨rfl, rfl⟩
  · obtain rfl : hi = 0 := by omega
    by_cases hl : 9223372036854775808 < lo
    · rw [okI_no (by split <;> omega)]
      have hb : (lo == 9223372036854775808) = false := by simp; omega
      cases n
      · go_enter Try.func64, Try.ntmps64
        go_wp2
        go_ret2
        exact ⟨rfl, rfl⟩
      · go_enter Try.func64, Try.ntmps64
        go_wp2
        go_ret2
        exact ⟨rfl, rfl⟩
    · cases n
      · by_cases he : lo = 9223372036854775808
        · subst he
          rw [okI_no (by simp)]
          go_enter Try.func64, Try.ntmps64
          go_wp2
          go_ret2
          exact ⟨rfl, rfl⟩
        · have hb : (lo == 9223372036854775808) = false := by simpa using he
          rw [okI_yes (by simp; omega) (by simp; omega)]
          go_enter Try.func64, Try.ntmps64
          go_wp2
          go_ret2
          exact ⟨ret2 (by simp [sel]) rfl, rfl⟩
      · rw [okI_yes (by simp; omega) (by simp; omega)]
        by_cases hz : lo = 0
        · subst hz
          go_enter Try.func64, Try.ntmps64
          go_wp2
          go_ret2
          exact ⟨rfl, rfl⟩
        · have hb : (lo == 0) = false := by simpa using hz
          by_cases he : lo = 9223372036854775808
          · subst he
            go_enter Try.func64, Try.ntmps64
            go_wp2
            go_ret2
            exact ⟨rfl, rfl⟩
          · have hc : (lo == 9223372036854775808) = false := by simpa using he
            go_enter Try.func64, Try.ntmps64
            go_wp2
            go_ret2
            exact ⟨ret2 (by simp [sel]; omega) rfl, rfl⟩

theorem negated_any (q : Int) (r : Bool) (w : World) (h0 : 0 ≤ q) (h1 : q ≤ 18446744073709551615) :
    Calls Try.prog 70 #[.int .u64 q, .bool r] w fun e w' =>
      e = .returned (.tuple #[.int .i64 (sel (okI (-(q + if r = true then 1 else 0))) (-(q + if r = true then 1 else 0))), .bool (okI (-(q + if r = true then 1 else 0)))]) ∧ w = w' := by
  by_cases hq : 9223372036854775808 < q
  · rw [okI_no (by split <;> omega)]
    have hb : (q == 9223372036854775808) = false := by simp; omega
    cases r
    · go_enter Try.func70, Try.ntmps70
      go_wp2
      go_ret2
      exact ⟨rfl, rfl⟩
    · go_enter Try.func70, Try.ntmps70
      go_wp2
      go_ret2
      exact ⟨rfl, rfl⟩
  · by_cases he : q = 9223372036854775808
    · subst he
      cases r
      · go_enter Try.func70, Try.ntmps70
        go_wp2
        go_ret2
        exact ⟨ret2 (by unfold wrap64; decide) rfl, rfl⟩
      · go_enter Try.func70, Try.ntmps70
        go_wp2
        go_ret2
        exact ⟨rfl, rfl⟩
    · have hb : (q == 9223372036854775808) = false := by simpa using he
      cases r
      · rw [okI_yes (by simp; omega) (by simp; omega)]
        go_enter Try.func70, Try.ntmps70
        go_wp2
        go_ret2
        exact ⟨ret2 (by unfold wrap64; rw [IntKind.wrap_u64]; simp [sel]; omega) rfl, rfl⟩
      · rw [okI_yes (by simp; omega) (by simp; omega)]
        go_enter Try.func70, Try.ntmps70
        go_wp2
        go_ret2
        exact ⟨ret2 (by unfold wrap64; rw [IntKind.wrap_u64]; simp [sel]; omega) rfl, rfl⟩

theorem divides_any (a b : Int) (w : World) :
    Calls Try.prog 65 #[.int .i64 a, .int .i64 b] w fun e w' => e = .returned (.bool (decide (b ≠ 0 ∧ ¬(a = -9223372036854775808 ∧ b = -1)))) ∧ w = w' := by
  by_cases hb : b = 0
  · subst hb
    rw [decide_eq_false (by simp)]
    go_enter Try.func65, Try.ntmps65
    go_wp2
    go_ret
    exact ⟨rfl, rfl⟩
  · have hb' : (b == 0) = false := by simpa using hb
    have hb2 : (b != 0) = true := by simpa using hb
    by_cases ha : a = -9223372036854775808
    · subst ha
      by_cases hc : b = -1
      · subst hc
        go_enter Try.func65, Try.ntmps65
        go_wp2
        go_ret
        exact ⟨rfl, rfl⟩
      · have hc' : (b == -1) = false := by simpa using hc
        rw [decide_eq_true (by simp [hb, hc])]
        go_enter Try.func65, Try.ntmps65
        go_wp2
        go_ret
        exact ⟨rfl, rfl⟩
    · have ha' : (a == -9223372036854775808) = false := by simpa using ha
      rw [decide_eq_true (by simp [hb, ha])]
      go_enter Try.func65, Try.ntmps65
      go_wp2
      go_ret
      exact ⟨rfl, rfl⟩

theorem rate_any (p : Int) (w : World) :
    Calls Try.prog 71 #[.int .i64 p] w fun e w' => e = .returned (.bool (decide (-500000 ≤ p ∧ p ≤ 500000))) ∧ w = w' := by
  by_cases hl : -500000 ≤ p
  · by_cases hh : p ≤ 500000
    · rw [decide_eq_true ⟨hl, hh⟩]
      go_enter Try.func71, Try.ntmps71
      go_wp2
      go_ret
      exact ⟨rfl, rfl⟩
    · rw [decide_eq_false (by omega)]
      go_enter Try.func71, Try.ntmps71
      go_wp2
      go_ret
      exact ⟨rfl, rfl⟩
  · rw [decide_eq_false (by omega)]
    go_enter Try.func71, Try.ntmps71
    go_wp2
    go_ret
    exact ⟨rfl, rfl⟩

/-- The number from lo to hi that is nearest to n; lo counts first. -/
def Fx.clampI (n lo hi : Int) : Int := if n < lo then lo else if hi < n then hi else n

theorem clamp_any (n lo hi : Int) (w : World) :
    Calls Try.prog 36 #[.int .i64 n, .int .i64 lo, .int .i64 hi] w fun e w' => e = .returned (.int .i64 (clampI n lo hi)) ∧ w = w' := by
  by_cases h1 : n < lo
  · rw [show clampI n lo hi = lo from if_pos h1]
    go_enter Try.func36, Try.ntmps36
    go_wp2
    go_ret
    exact ⟨rfl, rfl⟩
  · by_cases h2 : hi < n
    · rw [show clampI n lo hi = hi from (if_neg h1).trans (if_pos h2)]
      go_enter Try.func36, Try.ntmps36
      go_wp2
      go_ret
      exact ⟨rfl, rfl⟩
    · rw [show clampI n lo hi = n from (if_neg h1).trans (if_neg h2)]
      go_enter Try.func36, Try.ntmps36
      go_wp2
      go_ret
      exact ⟨rfl, rfl⟩

theorem rclamp_any (n lo hi : Int) (w : World) :
    Calls Try.prog 37 #[.int .i64 n, .int .i64 lo, .int .i64 hi] w fun e w' => e = .returned (.int .i64 (clampI n lo hi)) ∧ w = w' := by
  by_cases h1 : n < lo
  · rw [show clampI n lo hi = lo from if_pos h1]
    go_enter Try.func37, Try.ntmps37
    go_wp2
    go_ret
    exact ⟨rfl, rfl⟩
  · by_cases h2 : hi < n
    · rw [show clampI n lo hi = hi from (if_neg h1).trans (if_pos h2)]
      go_enter Try.func37, Try.ntmps37
      go_wp2
      go_ret
      exact ⟨rfl, rfl⟩
    · rw [show clampI n lo hi = n from (if_neg h1).trans (if_neg h2)]
      go_enter Try.func37, Try.ntmps37
      go_wp2
      go_ret
      exact ⟨rfl, rfl⟩

theorem rabs_any (n : Int) (w : World) (h0 : -9223372036854775808 ≤ n) (h1 : n ≤ 9223372036854775807) :
    Calls Try.prog 22 #[.int .i64 n] w fun e w' => e = .returned (.tuple #[.int .i64 (sel (okI (mag n)) (mag n)), .bool (okI (mag n))]) ∧ w = w' := by
  have hm0 := mag_nonneg n
  have hm1 := mag_le h0 h1
  go_enter Try.func22, Try.ntmps22
  go_wp2_with fail
  refine (size_any n _ h0 h1).mono ?_
  rintro e w' ⟨rfl, rfl⟩
  go_wp2_with fail
  refine (signed_any false 0 (mag n) _ (by omega) (by omega) hm0 (by omega)).mono ?_
  rintro e w' ⟨rfl, rfl⟩
  go_wp2_with fail
  go_ret2
  exact ⟨ret2 (by simp) (by simp), rfl⟩
end Go.Proofs.Ytkcllhcinbcgiaa
