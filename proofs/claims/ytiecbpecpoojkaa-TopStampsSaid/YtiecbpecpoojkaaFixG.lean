/- Contracts of layer 1: the nearest integer, rates, the specification's quotient rounded up. -/
import Derived.Test.YtiecbpecpoojkaaFixF
namespace Go.Proofs.Ytiecbpecpoojkaa
open Go.RowKit Fx

end Go.Proofs.Ytiecbpecpoojkaa
