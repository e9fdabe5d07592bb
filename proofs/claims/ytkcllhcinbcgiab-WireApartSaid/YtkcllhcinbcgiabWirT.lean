/- Slices of two ints each that came in. -/
import Derived.Test.YtkcllhcinbcgiabWirS
import Derived.Test.YtkcllhcinbcgiabWirK
import Derived.Deep.SlicePairs
import Derived.ProofKit
import Derived.OpenShut
namespace Go.Proofs.Ytkcllhcinbcgiab
open Go.RowKit Wi Go.ChangeShapes Go.WideShapes

/-- A slice of calls that came in: nil, or a row of pairs of cells. -/
def CRow (w : World) (a : Option Addr) (len cap : Nat) (f : Nat → Int × Int) : Prop :=
  (a = none ∧ len = 0 ∧ cap = 0) ∨ ∃ x, a = some x ∧ len ≤ cap ∧ cap ≤ maxLen ∧ ∀ i, i < len → w.cell? (x.add (i * 2)) = some (.int .i64 (f i).1) ∧ w.cell? (x.add (i * 2 + 1)) = some (.int .i64 (f i).2)

theorem open_calls {H : Type} {enc : TypeId × Value → H} {W : World} {base : Nat} {spare : Nat → Bool} {held : Bool} {fuel : Nat} {a : Option Addr} {len cap : Nat} {x : DataW H × List MemPlace}
    (h : DataW.trod enc Try.prog W base spare held fuel 23 [.slice a len cap] = some x) : ∃ f, CRow W a len cap f := by
  rcases Go.Deep.open_slice_pairs Try.underlying23 Try.underlying35 (by kernel_rfl) rfl rfl (by kernel_rfl) (by kernel_rfl) h with ⟨hcs, _⟩ | ⟨ad, l, c, m, n, V0, V1, D0, D1, P0, P1, hcs, _, hl, hm, hmm, _, hx⟩
  · injection hcs with hcs
    injection hcs with h1 h2 h3
    exact ⟨fun _ => (0, 0), .inl ⟨h1, h2, h3⟩⟩
  · injection hcs with hcs
    injection hcs with h1 h2 h3
    subst h1 h2 h3
    have hlm : len ≤ m := by rw [hmm]; split <;> omega
    have each : ∀ i, i < len → ∃ p : Int × Int, W.cell? (ad.add (i * 2)) = some (.int .i64 p.1) ∧ W.cell? (ad.add (i * 2 + 1)) = some (.int .i64 p.2) := by
      intro i hi
      obtain ⟨g0, g1, t0, t1⟩ := hx i (by omega)
      obtain ⟨y0, e0, _, _⟩ := DataW.trod_int Try.underlying3 t0
      obtain ⟨y1, e1, _, _⟩ := DataW.trod_int Try.underlying3 t1
      injection e0 with e0
      injection e1 with e1
      exact ⟨(y0, y1), by rw [g0, e0], by rw [g1, e1]⟩
    refine ⟨fun i => if hi : i < len then Classical.choose (each i hi) else (0, 0), .inr ⟨ad, rfl, hl, hm, fun i hi => ?_⟩⟩
    simp only [dif_pos hi]
    exact Classical.choose_spec (each i hi)

theorem crow_reads {w : World} {a : Option Addr} {len cap : Nat} {f : Nat → Int × Int} (h : CRow w a len cap f) : CReads w w.heap.size a len f ∧ len ≤ cap ∧ cap ≤ 9223372036854775807 := by
  rcases h with ⟨rfl, rfl, rfl⟩ | ⟨x, rfl, h1, h2, h3⟩
  · exact ⟨fun h => absurd h (by omega), Nat.le_refl _, by omega⟩
  · unfold maxLen at h2
    refine ⟨fun hp => ?_, h1, by omega⟩
    obtain ⟨b, off, spot⟩ := x
    have hspot : spot = none := by
      have := (h3 0 hp).1
      simpa [Addr.add] using World.cell?_spot this
    subst hspot
    refine ⟨b, off, rfl, ?_, fun i hi => ?_⟩
    · have := (h3 0 hp).1
      rw [Go.WideShapes.add_plain] at this
      rcases Nat.lt_or_ge b w.heap.size with hlt | hge
      · exact hlt
      · simp [World.cell?, Array.getElem?_eq_none hge] at this
    · have := h3 i hi
      rw [Go.WideShapes.add_plain, Go.WideShapes.add_plain] at this
      exact this
end Go.Proofs.Ytkcllhcinbcgiab
