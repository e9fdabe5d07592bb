/- Contracts of more small functions of layer 1: the specification's sums, signs, rates, limits. -/
import Derived.Test.YtfhphgeanpmgaaaDoorFixA
import Derived.Deep.QuietTactic
import Derived.BigQuiet
import Derived.BigGuardPart
namespace Go.Proofs.YtfhphgeanpmgaaaDoor
open Go.RowKit Fx

theorem divides_any (a b : Int) (w : World) :
    Calls Tryd.prog 32 #[.int .i64 a, .int .i64 b] w fun e w' => e = .returned (.bool (decide (b ≠ 0 ∧ ¬(a = -9223372036854775808 ∧ b = -1)))) ∧ w = w' := by
  by_cases hb : b = 0
  · subst hb
    rw [decide_eq_false (by simp)]
    go_enter Tryd.func32, Tryd.ntmps32
    go_wp2
    go_ret
    exact ⟨rfl, rfl⟩
  · have hb' : (b == 0) = false := by simpa using hb
    have hb2 : (b != 0) = true := by simpa using hb
    by_cases ha : a = -9223372036854775808
    · subst ha
      by_cases hc : b = -1
      · subst hc
        go_enter Tryd.func32, Tryd.ntmps32
        go_wp2
        go_ret
        exact ⟨rfl, rfl⟩
      · have hc' : (b == -1) = false := by simpa using hc
        rw [decide_eq_true (by simp [hb, hc])]
        go_enter Tryd.func32, Tryd.ntmps32
        go_wp2
        go_ret
        exact ⟨rfl, rfl⟩
    · have ha' : (a == -9223372036854775808) = false := by simpa using ha
      rw [decide_eq_true (by simp [hb, ha])]
      go_enter Tryd.func32, Tryd.ntmps32
      go_wp2
      go_ret
      exact ⟨rfl, rfl⟩

/-- The number from lo to hi that is nearest to n; lo counts first. -/
def Fx.clampI (n lo hi : Int) : Int := if n < lo then lo else if hi < n then hi else n

end Go.Proofs.YtfhphgeanpmgaaaDoor
