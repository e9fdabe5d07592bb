/- Contracts of the specification of layer 6: Check, of any table. -/
import Derived.Test.YtgeklbpkmfeheaaDoorLeaX
namespace Go.Proofs.YtgeklbpkmfeheaaDoor
open Go.RowKit Fx Cv Lp

end Go.Proofs.YtgeklbpkmfeheaaDoor
