/- Contracts of layer 5: Parse and Of of the specification, for every input. -/
import Derived.Test.YtgeklbpkmfeheaaDoorCivH
namespace Go.Proofs.YtgeklbpkmfeheaaDoor
open Go.RowKit Fx Cv Pt

/-- The error and the parts of a second, or zeros. -/
def Cv.ofE (t : Int) : Int := if inS t = true then 0 else 3
def Cv.ofP (t v : Int) : Int := if inS t = true then v else 0
end Go.Proofs.YtgeklbpkmfeheaaDoor
