/- The chapter's examples of layer 1. -/
import Derived.Test.YtemflgjfoappaaaDoorFixI
namespace Go.Proofs.YtemflgjfoappaaaDoor
open Go.RowKit Fx

end Go.Proofs.YtemflgjfoappaaaDoor
