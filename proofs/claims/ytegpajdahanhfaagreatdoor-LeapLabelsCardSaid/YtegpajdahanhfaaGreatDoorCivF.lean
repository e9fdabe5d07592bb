/- Contracts of layer 5: Text of the specification. -/
import Derived.Test.YtegpajdahanhfaaGreatDoorCivE
namespace Go.Proofs.YtegpajdahanhfaaGreatDoor
open Go.RowKit Fx Cv Pt

/-- The bytes of the text of a civil time. -/
def Cv.ctx (Y M D H I S N : Nat) : List UInt8 := low Y 4 ++ [45] ++ low M 2 ++ [45] ++ low D 2 ++ [84] ++ low H 2 ++ [58] ++ low I 2 ++ [58] ++ low S 2 ++ [46] ++ low N 9 ++ [90]
/-- What Text returns. -/
def Cv.txtC (y m d hh mi s n : Int) : ByteArray := if okC y m d hh mi s n = true then ⟨(ctx y.toNat m.toNat d.toNat hh.toNat mi.toNat s.toNat n.toNat).toArray⟩ else ⟨#[]⟩
theorem Cv.ctx_len (Y M D H I S N : Nat) : (ctx Y M D H I S N).length = 30 := by simp [ctx, low_len]
theorem Cv.ret_s {x y : ByteArray} (h : x = y) : Ending.returned (.string x) = .returned (.string y) := by rw [h]

end Go.Proofs.YtegpajdahanhfaaGreatDoor
