/- Contracts of layer 4: instants. -/
import Derived.Test.YtiecbpecpoojkaaPtmA
import Derived.OwnWalk
import Derived.WalkSpells
import Derived.WalkLawsBesides
import Derived.Deep.QuietTactic
import Derived.BigQuiet
import Derived.BigGuardPart
import Derived.WalkSmall
namespace Go.Proofs.Ytiecbpecpoojkaa
open Go.RowKit Fx Pt

/-- The box of a timestamp. -/
def Pt.bx (s n : Int) : Obj := .cells #[.int .i64 s, .int .i64 n] 33

theorem pcheck_any (s n : Int) (w : World) :
    Calls Try.prog 17 #[.agg #[.int .i64 s, .int .i64 n]] w fun e w' => e = .returned (.int .i64 (chk s n)) ∧ w' = w.alloc (.cells #[.int .i64 s, .int .i64 n] 33) := by
  by_cases h1 : s < 0
  · rw [chk_no (.inl h1)]
    go_enter Try.func17, Try.ntmps17
    go_wp2
    all_goals (go_ret; exact ⟨rfl, rfl⟩)
  · by_cases h2 : 281474976710655 < s
    · rw [chk_no (.inr (.inl h2))]
      have d1 : decide (s < 0) = false := decide_eq_false h1
      go_enter Try.func17, Try.ntmps17
      go_wp2
      all_goals (go_ret; exact ⟨rfl, rfl⟩)
    · by_cases h3 : n < 0
      · rw [chk_no (.inr (.inr (.inl h3)))]
        have d1 : decide (s < 0) = false := decide_eq_false h1
        have d2 : decide (281474976710655 < s) = false := decide_eq_false h2
        go_enter Try.func17, Try.ntmps17
        go_wp2
        all_goals (go_ret; exact ⟨rfl, rfl⟩)
      · by_cases h4 : 1000000000 ≤ n
        · rw [chk_no (.inr (.inr (.inr h4)))]
          have d1 : decide (s < 0) = false := decide_eq_false h1
          have d2 : decide (281474976710655 < s) = false := decide_eq_false h2
          have d3 : decide (n < 0) = false := decide_eq_false h3
          go_enter Try.func17, Try.ntmps17
          go_wp2
          all_goals (go_ret; exact ⟨rfl, rfl⟩)
        · rw [chk_yes (by omega) (by omega) (by omega) (by omega)]
          have d1 : decide (s < 0) = false := decide_eq_false h1
          have d2 : decide (281474976710655 < s) = false := decide_eq_false h2
          have d3 : decide (n < 0) = false := decide_eq_false h3
          have d4 : decide (1000000000 ≤ n) = false := decide_eq_false h4
          go_enter Try.func17, Try.ntmps17
          go_wp2
          all_goals (go_ret; exact ⟨rfl, rfl⟩)
end Go.Proofs.Ytiecbpecpoojkaa
