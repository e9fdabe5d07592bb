/- Contracts of more small functions of layer 1: the specification's sums, signs, rates, limits. -/
import Derived.Test.YtiecbpecpoojkaaFixA
import Derived.Deep.QuietTactic
import Derived.BigQuiet
import Derived.BigGuardPart
namespace Go.Proofs.Ytiecbpecpoojkaa
open Go.RowKit Fx

theorem negated_any (q : Int) (r : Bool) (w : World) (h0 : 0 ≤ q) (h1 : q ≤ 18446744073709551615) :
    Calls Try.prog 30 #[.int .u64 q, .bool r] w fun e w' =>
      e = .returned (.tuple #[.int .i64 (sel (okI (-(q + if r = true then 1 else 0))) (-(q + if r = true then 1 else 0))), .bool (okI (-(q + if r = true then 1 else 0)))]) ∧ w = w' := by
  by_cases hq : 9223372036854775808 < q
  · rw [okI_no (by split <;> omega)]
    have hb : (q == 9223372036854775808) = false := by simp; omega
    cases r
    · go_enter Try.func30, Try.ntmps30
      go_wp2
      go_ret2
      exact ⟨rfl, rfl⟩
    · go_enter Try.func30, Try.ntmps30
      go_wp2
      go_ret2
      exact ⟨rfl, rfl⟩
  · by_cases he : q = 9223372036854775808
    · subst he
      cases r
      · go_enter Try.func30, Try.ntmps30
        go_wp2
        go_ret2
        exact ⟨ret2 (by unfold wrap64; decide) rfl, rfl⟩
      · go_enter Try.func30, Try.ntmps30
        go_wp2
        go_ret2
        exact ⟨rfl, rfl⟩
    · have hb : (q == 9223372036854775808) = false := by simpa using he
      cases r
      · rw [okI_yes (by simp; omega) (by simp; omega)]
        go_enter Try.func30, Try.ntmps30
        go_wp2
        go_ret2
        exact ⟨ret2 (by unfold wrap64; rw [IntKind.wrap_u64]; simp [sel]; omega) rfl, rfl⟩
      · rw [okI_yes (by simp; omega) (by simp; omega)]
        go_enter Try.func30, Try.ntmps30
        go_wp2
        go_ret2
        exact ⟨ret2 (by unfold wrap64; rw [IntKind.wrap_u64]; simp [sel]; omega) rfl, rfl⟩

theorem divides_any (a b : Int) (w : World) :
    Calls Try.prog 25 #[.int .i64 a, .int .i64 b] w fun e w' => e = .returned (.bool (decide (b ≠ 0 ∧ ¬(a = -9223372036854775808 ∧ b = -1)))) ∧ w = w' := by
  by_cases hb : b = 0
  · subst hb
    rw [decide_eq_false (by simp)]
    go_enter Try.func25, Try.ntmps25
    go_wp2
    go_ret
    exact ⟨rfl, rfl⟩
  · have hb' : (b == 0) = false := by simpa using hb
    have hb2 : (b != 0) = true := by simpa using hb
    by_cases ha : a = -9223372036854775808
    · subst ha
      by_cases hc : b = -1
      · subst hc
        go_enter Try.func25, Try.ntmps25
        go_wp2
        go_ret
        exact ⟨rfl, rfl⟩
      · have hc' : (b == -1) = false := by simpa using hc
        rw [decide_eq_true (by simp [hb, hc])]
        go_enter Try.func25, Try.ntmps25
        go_wp2
        go_ret
        exact ⟨rfl, rfl⟩
    · have ha' : (a == -9223372036854775808) = false := by simpa using ha
      rw [decide_eq_true (by simp [hb, ha])]
      go_enter Try.func25, Try.ntmps25
      go_wp2
      go_ret
      exact ⟨rfl, rfl⟩

/-- The number from lo to hi that is nearest to n; lo counts first. -/
def Fx.clampI (n lo hi : Int) : Int := if n < lo then lo else if hi < n then hi else n

end Go.Proofs.Ytiecbpecpoojkaa
