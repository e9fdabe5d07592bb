/- Contracts of more small functions of layer 1: the specification's sums, signs, rates, limits. -/
import Derived.Test.YtjcpfkibaohjjaaFixA
import Derived.Deep.QuietTactic
import Derived.BigQuiet
import Derived.BigGuardPart
namespace Go.Proofs.Ytjcpfkibaohjjaa
open Go.RowKit Fx

theorem negated_any (q : Int) (r : Bool) (w : World) (h0 : 0 ≤ q) (h1 : q ≤ 18446744073709551615) :
    Calls Try.prog 54 #[.int .u64 q, .bool r] w fun e w' =>
      e = .returned (.tuple #[.int .i64 (sel (okI (-(q + if r = true then 1 else 0))) (-(q + if r = true then 1 else 0))), .bool (okI (-(q + if r = true then 1 else 0)))]) ∧ w = w' := by
  by_cases hq : 9223372036854775808 < q
  · rw [okI_no (by split <;> omega)]
    have hb : (q == 9223372036854775808) = false := by simp; omega
    cases r
    · go_enter Try.func54, Try.ntmps54
      go_wp2
      go_ret2
      exact ⟨rfl, rfl⟩
    · go_enter Try.func54, Try.ntmps54
      go_wp2
      go_ret2
      exact ⟨rfl, rfl⟩
  · by_cases he : q = 9223372036854775808
    · subst he
      cases r
      · go_enter Try.func54, Try.ntmps54
        go_wp2
        go_ret2
        exact ⟨ret2 (by unfold wrap64; decide) rfl, rfl⟩
      · go_enter Try.func54, Try.ntmps54
        go_wp2
        go_ret2
        exact ⟨rfl, rfl⟩
    · have hb : (q == 9223372036854775808) = false := by simpa using he
      cases r
      · rw [okI_yes (by simp; omega) (by simp; omega)]
        go_enter Try.func54, Try.ntmps54
        go_wp2
        go_ret2
        exact ⟨ret2 (by unfold wrap64; rw [IntKind.wrap_u64]; simp [sel]; omega) rfl, rfl⟩
      · rw [okI_yes (by simp; omega) (by simp; omega)]
        go_enter Try.func54, Try.ntmps54
        go_wp2
        go_ret2
        exact ⟨ret2 (by unfold wrap64; rw [IntKind.wrap_u64]; simp [sel]; omega) rfl, rfl⟩

/-- The number from lo to hi that is nearest to n; lo counts first. -/
def Fx.clampI (n lo hi : Int) : Int := if n < lo then lo else if hi < n then hi else n

theorem clamp_any (n lo hi : Int) (w : World) :
    Calls Try.prog 50 #[.int .i64 n, .int .i64 lo, .int .i64 hi] w fun e w' => e = .returned (.int .i64 (clampI n lo hi)) ∧ w = w' := by
  by_cases h1 : n < lo
  · rw [show clampI n lo hi = lo from if_pos h1]
    go_enter Try.func50, Try.ntmps50
    go_wp2
    go_ret
    exact ⟨rfl, rfl⟩
  · by_cases h2 : hi < n
    · rw [show clampI n lo hi = hi from (if_neg h1).trans (if_pos h2)]
      go_enter Try.func50, Try.ntmps50
      go_wp2
      go_ret
      exact ⟨rfl, rfl⟩
    · rw [show clampI n lo hi = n from (if_neg h1).trans (if_neg h2)]
      go_enter Try.func50, Try.ntmps50
      go_wp2
      go_ret
      exact ⟨rfl, rfl⟩

end Go.Proofs.Ytjcpfkibaohjjaa
