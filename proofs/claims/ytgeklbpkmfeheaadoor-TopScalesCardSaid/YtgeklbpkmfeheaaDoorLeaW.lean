/- Contracts of the specification of layer 6: Check, up to the ranges. -/
import Derived.Test.YtgeklbpkmfeheaaDoorLeaD
namespace Go.Proofs.YtgeklbpkmfeheaaDoor
open Go.RowKit Fx Cv Lp

end Go.Proofs.YtgeklbpkmfeheaaDoor
