/- Contracts of layer 1: the nearest integer, rates, the specification's quotient rounded up. -/
import Derived.Test.YtfhphgeanpmgaaaDoorFixF
namespace Go.Proofs.YtfhphgeanpmgaaaDoor
open Go.RowKit Fx

theorem floor_yes (a b : Int) (w : World) (h0 : -9223372036854775808 ≤ a) (h1 : a ≤ 9223372036854775807) (h2 : -9223372036854775808 ≤ b) (h3 : b ≤ 9223372036854775807) (hq : qok a b = true) :
    Calls Tryd.prog 30 #[.int .i64 a, .int .i64 b] w fun e w' => e = .returned (.tuple #[.int .i64 (flo a b), .bool true]) ∧ w = w' :=
  (floor_any a b w h0 h1 h2 h3).mono fun _ _ h => by rw [hq] at h; exact h
theorem floor_no (a b : Int) (w : World) (h0 : -9223372036854775808 ≤ a) (h1 : a ≤ 9223372036854775807) (h2 : -9223372036854775808 ≤ b) (h3 : b ≤ 9223372036854775807) (hq : qok a b = false) :
    Calls Tryd.prog 30 #[.int .i64 a, .int .i64 b] w fun e w' => e = .returned (.tuple #[.int .i64 0, .bool false]) ∧ w = w' :=
  (floor_any a b w h0 h1 h2 h3).mono fun _ _ h => by rw [hq] at h; exact h
end Go.Proofs.YtfhphgeanpmgaaaDoor
