/- No contract of the shelf applies to this seat. -/
import Derived.Test.YtgeklbpkmfeheaaDoorProg
namespace Go.Proofs.YtgeklbpkmfeheaaDoor
end Go.Proofs.YtgeklbpkmfeheaaDoor
