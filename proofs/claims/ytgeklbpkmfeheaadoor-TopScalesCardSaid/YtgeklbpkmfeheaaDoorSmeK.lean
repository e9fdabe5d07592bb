/- Contracts of layer 7: the specification's windows and places. -/
import Derived.Test.YtgeklbpkmfeheaaDoorSmeJ
import Derived.Deep.RegionHeld3
namespace Go.Proofs.YtgeklbpkmfeheaaDoor
open Go.RowKit Fx Cv Lp Sm

end Go.Proofs.YtgeklbpkmfeheaaDoor
