/- Contracts of the small functions of layer 1: absolute values, sums, differences, signs. -/
import Derived.Test.YtegpajdahanhfaaGreatDoorProg
import Derived.Test.YtegpajdahanhfaaGreatDoorFixM
import Derived.WalkKit
import Derived.WalkSpells
import Derived.WalkLawsBesides
import Derived.Lib.Hide
namespace Go.Proofs.YtegpajdahanhfaaGreatDoor
open Go.RowKit Fx

theorem ret1 {k : IntKind} {a b : Int} (h : a = b) : Ending.returned (.int k a) = .returned (.int k b) := by rw [h]
theorem ret2 {a b : Int} {p q : Bool} (h : a = b) (h' : p = q) : Ending.returned (.tuple #[.int .i64 a, .bool p]) = .returned (.tuple #[.int .i64 b, .bool q]) := by rw [h, h']

theorem size_any (n : Int) (w : World) (h0 : -9223372036854775808 ≤ n) (h1 : n ≤ 9223372036854775807) :
    Calls Tryz.prog 126 #[.int .i64 n] w fun e w' => e = .returned (.int .u64 (mag n)) ∧ w = w' := by
  by_cases hn : n < 0
  · go_enter Tryz.func126, Tryz.ntmps126
    go_wp2
    go_ret
    exact ⟨ret1 (by unfold mag; rw [if_pos hn]; omega), rfl⟩
  · go_enter Tryz.func126, Tryz.ntmps126
    go_wp2
    go_ret
    exact ⟨ret1 (by unfold mag; rw [if_neg (by omega)]), rfl⟩

theorem sub_any (a b : Int) (w : World) (h0 : -9223372036854775808 ≤ a) (h1 : a ≤ 9223372036854775807) (h2 : -9223372036854775808 ≤ b) (h3 : b ≤ 9223372036854775807) :
    Calls Tryz.prog 38 #[.int .i64 a, .int .i64 b] w fun e w' => e = .returned (.tuple #[.int .i64 (sel (okI (a - b)) (a - b)), .bool (okI (a - b))]) ∧ w = w' := by
  by_cases hr : -9223372036854775808 ≤ a - b ∧ a - b ≤ 9223372036854775807
  · obtain ⟨r0, r1⟩ := hr
    have ht : (!decide (a - b < a) == decide (0 < b)) = false := by by_cases h : 0 < b <;> simp [h] <;> omega
    rw [okI_yes r0 r1]
    go_enter Tryz.func38, Tryz.ntmps38
    go_wp2
    go_ret2
    exact ⟨rfl, rfl⟩
  · have ht : (!decide (wrap64 (a - b) < a) == decide (0 < b)) = true := by unfold wrap64; by_cases h : 0 < b <;> simp [h] <;> omega
    rw [okI_no (by omega)]
    go_enter Tryz.func38, Tryz.ntmps38
    go_wp2
    go_ret2
    exact ⟨rfl, rfl⟩

end Go.Proofs.YtegpajdahanhfaaGreatDoor
