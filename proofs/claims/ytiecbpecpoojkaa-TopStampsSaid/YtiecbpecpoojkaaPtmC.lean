/- Contracts of layer 4: instants of the specification, Of. -/
import Derived.Test.YtiecbpecpoojkaaPtmB
namespace Go.Proofs.Ytiecbpecpoojkaa
open Go.RowKit Fx Pt

theorem ret_se {s n e s' n' e' : Int} (h : s = s') (h' : n = n') (h'' : e = e') : Ending.returned (.tuple #[.agg #[.int .i64 s, .int .i64 n], .int .i64 e]) = .returned (.tuple #[.agg #[.int .i64 s', .int .i64 n'], .int .i64 e']) := by rw [h, h', h'']

theorem pof_any (t : Int) (w : World) (h0 : -9223372036854775808 ≤ t) (h1 : t ≤ 9223372036854775807) :
    Calls Try.prog 8 #[.int .i64 t] w fun e w' => e = .returned (.tuple #[.agg #[.int .i64 (ofS t), .int .i64 (ofN t)], .int .i64 (ofE t)]) ∧ Below w.heap.size w w' := by
  by_cases h : t < 2208988800000000000
  · rw [show ofS t = 0 from if_pos h, show ofN t = 0 from if_pos h, show ofE t = 3 from if_pos h]
    go_enter Try.func8, Try.ntmps8
    go_wp2
    exact bodyPost_ret (v := .tuple #[.agg #[.int .i64 0, .int .i64 0], .int .i64 3]) (by simp [results, Try.results8, go_sem]) rfl ⟨rfl, (Below.refl _ _).alloc (Nat.le_refl _) _⟩
  · rw [show ofS t = t / 1000000000 - 2208988800 from if_neg h, show ofN t = t % 1000000000 from if_neg h, show ofE t = 0 from if_neg h]
    go_enter Try.func8, Try.ntmps8
    go_wp2
    exact bodyPost_ret (v := .tuple #[.agg #[.int .i64 (t / 1000000000 - 2208988800), .int .i64 (t % 1000000000)], .int .i64 0]) (by simp [results, Try.results8, go_sem]) rfl ⟨rfl, (Below.refl _ _).alloc (Nat.le_refl _) _⟩
end Go.Proofs.Ytiecbpecpoojkaa
