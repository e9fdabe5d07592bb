/- Contracts of the specification of layer 6: Check. -/
import Derived.Test.YtgeklbpkmfeheaaDoorLeaW
namespace Go.Proofs.YtgeklbpkmfeheaaDoor
open Go.RowKit Fx Cv Lp

end Go.Proofs.YtgeklbpkmfeheaaDoor
