/- The chapter's examples of layer 1. -/
import Derived.Test.YtiecbpecpoojkaaFixI
namespace Go.Proofs.Ytiecbpecpoojkaa
open Go.RowKit Fx

end Go.Proofs.Ytiecbpecpoojkaa
