/- The chapter's examples of layer 1. -/
import Derived.Test.YtemflgjfoappaabDoorFixI
namespace Go.Proofs.YtemflgjfoappaabDoor
open Go.RowKit Fx

end Go.Proofs.YtemflgjfoappaabDoor
