/- No contract of the shelf applies to this seat. -/
import Derived.Test.YtghaboanakecjaaDoorProg
namespace Go.Proofs.YtghaboanakecjaaDoor
end Go.Proofs.YtghaboanakecjaaDoor
