/- The walks of the statements of layer 1. -/
import Derived.Test.YtiecbpecpoojkaaFixJ
import Derived.OwnWalk
namespace Go.Proofs.Ytiecbpecpoojkaa
open Go.RowKit Fx

theorem grown_drewN (w : World) (n : Nat) : Grown w (w.drewN n) := Grown.refl w

theorem mul_yes (a b : Int) (w : World) (h0 : -9223372036854775808 ≤ a) (h1 : a ≤ 9223372036854775807) (h2 : -9223372036854775808 ≤ b) (h3 : b ≤ 9223372036854775807) (hq : okI (a * b) = true) :
    Calls Try.prog 20 #[.int .i64 a, .int .i64 b] w fun e w' => e = .returned (.tuple #[.int .i64 (a * b), .bool true]) ∧ ∃ n, w' = w.drewN n :=
  (mul_any a b w h0 h1 h2 h3).mono fun _ _ h => by rw [hq] at h; exact h
theorem mul_no (a b : Int) (w : World) (h0 : -9223372036854775808 ≤ a) (h1 : a ≤ 9223372036854775807) (h2 : -9223372036854775808 ≤ b) (h3 : b ≤ 9223372036854775807) (hq : okI (a * b) = false) :
    Calls Try.prog 20 #[.int .i64 a, .int .i64 b] w fun e w' => e = .returned (.tuple #[.int .i64 0, .bool false]) ∧ ∃ n, w' = w.drewN n :=
  (mul_any a b w h0 h1 h2 h3).mono fun _ _ h => by rw [hq] at h; exact h

end Go.Proofs.Ytiecbpecpoojkaa
