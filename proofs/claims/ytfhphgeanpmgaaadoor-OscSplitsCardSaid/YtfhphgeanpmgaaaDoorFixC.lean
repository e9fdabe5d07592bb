/- Contracts of layer 1: products in two words, the division bit by bit. -/
import Derived.Test.YtfhphgeanpmgaaaDoorFixB
import Derived.Test.YtfhphgeanpmgaaaDoorFixN
import Derived.Test.YtfhphgeanpmgaaaDoorShelf
namespace Go.Proofs.YtfhphgeanpmgaaaDoor
open Go.RowKit Fx

theorem ret3u {a b a' b' c c' : Int} (h : a = a') (h' : b = b') (h'' : c = c') : Ending.returned (.tuple #[.int .u64 a, .int .u64 b, .int .u64 c]) = .returned (.tuple #[.int .u64 a', .int .u64 b', .int .u64 c']) := by rw [h, h', h'']
theorem ret2u {a b a' b' : Int} (h : a = a') (h' : b = b') : Ending.returned (.tuple #[.int .u64 a, .int .u64 b]) = .returned (.tuple #[.int .u64 a', .int .u64 b']) := by rw [h, h']

end Go.Proofs.YtfhphgeanpmgaaaDoor
