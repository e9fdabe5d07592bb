/- Contracts of the small functions of layer 1: absolute values, sums, differences, signs. -/
import Derived.Test.YtfhphgeanpmgaaaDoorProg
import Derived.Test.YtfhphgeanpmgaaaDoorFixM
import Derived.WalkKit
import Derived.WalkSpells
import Derived.WalkLawsBesides
import Derived.Lib.Hide
namespace Go.Proofs.YtfhphgeanpmgaaaDoor
open Go.RowKit Fx

theorem ret1 {k : IntKind} {a b : Int} (h : a = b) : Ending.returned (.int k a) = .returned (.int k b) := by rw [h]
theorem ret2 {a b : Int} {p q : Bool} (h : a = b) (h' : p = q) : Ending.returned (.tuple #[.int .i64 a, .bool p]) = .returned (.tuple #[.int .i64 b, .bool q]) := by rw [h, h']

end Go.Proofs.YtfhphgeanpmgaaaDoor
