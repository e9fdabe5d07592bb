/- No contract of the shelf applies to this seat. -/
import Derived.Test.YtfhphgeanpmgaaaDoorProg
namespace Go.Proofs.YtfhphgeanpmgaaaDoor
end Go.Proofs.YtfhphgeanpmgaaaDoor
