/- Contracts of layer 3: seconds and units. -/
import Derived.Test.YtiecbpecpoojkaaFixL
import Derived.Test.YtiecbpecpoojkaaStaM
namespace Go.Proofs.Ytiecbpecpoojkaa
open Go.RowKit Fx St

theorem ret22 {k k' : IntKind} {a b a' b' : Int} (h : a = a') (h' : b = b') : Ending.returned (.tuple #[.int k a, .int k' b]) = .returned (.tuple #[.int k a', .int k' b']) := by rw [h, h']

theorem i64_in {a : Int} (h0 : -9223372036854775808 ≤ a) (h1 : a ≤ 9223372036854775807) : a.tdiv 1000000000 ≤ 9223372036854775807 ∧ -9223372036854775808 < a.tdiv 1000000000 ∧ a.tmod 1000000000 < 1000000000 ∧ -1000000000 ≤ a.tmod 1000000000 := by
  rcases tdm a with ⟨a1, a2, a3⟩ | ⟨a1, a2, a3⟩ <;> omega

theorem split_any (t : Int) (w : World) (h0 : -9223372036854775808 ≤ t) (h1 : t ≤ 9223372036854775807) :
    Calls Try.prog 13 #[.int .i64 t] w fun e w' => e = .returned (.tuple #[.int .i64 (t / 1000000000), .int .i64 (t % 1000000000 * 4294967296 / 1000000000)]) ∧ w = w' := by
  obtain ⟨b1, b2, b3, b4⟩ := i64_in h0 h1
  obtain ⟨q, hq⟩ : ∃ q, t.tdiv 1000000000 = q := ⟨_, rfl⟩
  obtain ⟨r, hr⟩ : ∃ r, t.tmod 1000000000 = r := ⟨_, rfl⟩
  rcases tdm t with ⟨a1, a2, a3⟩ | ⟨a1, a2, a3⟩
  · rw [hr] at a1 a3 b3 b4
    rw [hq] at a2 b1 b2
    have A2 := Lib.hid a2
    have A3 := Lib.hid a3
    clear a2 a3
    go_enter Try.func13, Try.ntmps13
    go_wp2_with fail
    go_ret2
    exact ⟨ret22 A2.out (by rw [← A3.out]), rfl⟩
  · rw [hr] at a1 a3 b3 b4
    rw [hq] at a2 b1 b2
    have A2 := Lib.hid a2
    have A3 := Lib.hid a3
    clear a2 a3
    go_enter Try.func13, Try.ntmps13
    go_wp2_with fail
    go_ret2
    exact ⟨ret22 A2.out (by rw [← A3.out]), rfl⟩
end Go.Proofs.Ytiecbpecpoojkaa
