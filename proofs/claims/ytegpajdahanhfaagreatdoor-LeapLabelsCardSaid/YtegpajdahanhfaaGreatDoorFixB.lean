/- Contracts of more small functions of layer 1: the specification's sums, signs, rates, limits. -/
import Derived.Test.YtegpajdahanhfaaGreatDoorFixA
import Derived.Deep.QuietTactic
import Derived.BigQuiet
import Derived.BigGuardPart
namespace Go.Proofs.YtegpajdahanhfaaGreatDoor
open Go.RowKit Fx

/-- The number of an absolute value in two words and a sign. -/
theorem signed_any (n : Bool) (hi lo : Int) (w : World) (h0 : 0 ≤ hi) (h1 : hi ≤ 18446744073709551615) (h2 : 0 ≤ lo) (h3 : lo ≤ 18446744073709551615) :
    Calls Tryz.prog 128 #[.bool n, .int .u64 hi, .int .u64 lo] w fun e w' =>
      e = .returned (.tuple #[.int .i64 (sel (okI (if n = true then -(hi * 18446744073709551616 + lo) else hi * 18446744073709551616 + lo)) (if n = true then -(hi * 18446744073709551616 + lo) else hi * 18446744073709551616 + lo)), .bool (okI (if n = true then -(hi * 18446744073709551616 + lo) else hi * 18446744073709551616 + lo))]) ∧ w = w' := by
  by_cases hh : 0 < hi
  · rw [okI_no (by split <;> omega)]
    by_cases hl : 9223372036854775808 < lo
    · cases n
      · go_enter Tryz.func128, Tryz.ntmps128
        go_wp2
        go_ret2
        exact ⟨rfl, rfl⟩
      · go_enter Tryz.func128, Tryz.ntmps128
        go_wp2
        go_ret2
        exact ⟨rfl, rfl⟩
    · by_cases he : lo = 9223372036854775808
      · subst he
        cases n
        · go_enter Tryz.func128, Tryz.ntmps128
          go_wp2
          go_ret2
          exact ⟨rfl, rfl⟩
        · go_enter Tryz.func128, Tryz.ntmps128
          go_wp2
          go_ret2
          exact ⟨rfl, rfl⟩
      · have hb : (lo == 9223372036854775808) = false := by simpa using he
        cases n
        · go_enter Tryz.func128, Tryz.ntmps128
          go_wp2
          go_ret2
          exact ⟨rfl, rfl⟩
        · go_enter Tryz.func128, Tryz.ntmps128
          go_wp2
          go_ret2
          exact ⟨rfl, rfl⟩
  · obtain rfl : hi = 0 := by omega
    by_cases hl : 9223372036854775808 < lo
    · rw [okI_no (by split <;> omega)]
      have hb : (lo == 9223372036854775808) = false := by simp; omega
      cases n
      · go_enter Tryz.func128, Tryz.ntmps128
        go_wp2
        go_ret2
        exact ⟨rfl, rfl⟩
      · go_enter Tryz.func128, Tryz.ntmps128
        go_wp2
        go_ret2
        exact ⟨rfl, rfl⟩
    · cases n
      · by_cases he : lo = 9223372036854775808
        · subst he
          rw [okI_no (by simp)]
          go_enter Tryz.func128, Tryz.ntmps128
          go_wp2
          go_ret2
          exact ⟨rfl, rfl⟩
        · have hb : (lo == 9223372036854775808) = false := by simpa using he
          rw [okI_yes (by simp; omega) (by simp; omega)]
          go_enter Tryz.func128, Tryz.ntmps128
          go_wp2
          go_ret2
          exact ⟨ret2 (by simp [sel]) rfl, rfl⟩
      · rw [okI_yes (by simp; omega) (by simp; omega)]
        by_cases hz : lo = 0
        · subst hz
          go_enter Tryz.func128, Tryz.ntmps128
          go_wp2
          go_ret2
          exact ⟨rfl, rfl⟩
        · have hb : (lo == 0) = false := by simpa using hz
          by_cases he : lo = 9223372036854775808
          · subst he
            go_enter Tryz.func128, Tryz.ntmps128
            go_wp2
            go_ret2
            exact ⟨rfl, rfl⟩
          · have hc : (lo == 9223372036854775808) = false := by simpa using he
            go_enter Tryz.func128, Tryz.ntmps128
            go_wp2
            go_ret2
            exact ⟨ret2 (by simp [sel]; omega) rfl, rfl⟩

theorem divides_any (a b : Int) (w : World) :
    Calls Tryz.prog 88 #[.int .i64 a, .int .i64 b] w fun e w' => e = .returned (.bool (decide (b ≠ 0 ∧ ¬(a = -9223372036854775808 ∧ b = -1)))) ∧ w = w' := by
  by_cases hb : b = 0
  · subst hb
    rw [decide_eq_false (by simp)]
    go_enter Tryz.func88, Tryz.ntmps88
    go_wp2
    go_ret
    exact ⟨rfl, rfl⟩
  · have hb' : (b == 0) = false := by simpa using hb
    have hb2 : (b != 0) = true := by simpa using hb
    by_cases ha : a = -9223372036854775808
    · subst ha
      by_cases hc : b = -1
      · subst hc
        go_enter Tryz.func88, Tryz.ntmps88
        go_wp2
        go_ret
        exact ⟨rfl, rfl⟩
      · have hc' : (b == -1) = false := by simpa using hc
        rw [decide_eq_true (by simp [hb, hc])]
        go_enter Tryz.func88, Tryz.ntmps88
        go_wp2
        go_ret
        exact ⟨rfl, rfl⟩
    · have ha' : (a == -9223372036854775808) = false := by simpa using ha
      rw [decide_eq_true (by simp [hb, ha])]
      go_enter Tryz.func88, Tryz.ntmps88
      go_wp2
      go_ret
      exact ⟨rfl, rfl⟩

/-- The number from lo to hi that is nearest to n; lo counts first. -/
def Fx.clampI (n lo hi : Int) : Int := if n < lo then lo else if hi < n then hi else n

end Go.Proofs.YtegpajdahanhfaaGreatDoor
