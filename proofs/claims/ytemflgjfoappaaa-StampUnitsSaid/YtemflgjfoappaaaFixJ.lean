/- The chapter's examples of layer 1. -/
import Derived.Test.YtemflgjfoappaaaFixI
namespace Go.Proofs.Ytemflgjfoappaaa
open Go.RowKit Fx

end Go.Proofs.Ytemflgjfoappaaa
