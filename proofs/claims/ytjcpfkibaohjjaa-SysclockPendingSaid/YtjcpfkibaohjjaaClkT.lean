/- Slices of calls and of ints that came in. -/
import Derived.Test.YtjcpfkibaohjjaaClkS
import Derived.Deep.SlicePairs
import Derived.ProofKit
import Derived.OpenShut
namespace Go.Proofs.Ytjcpfkibaohjjaa
open Go.RowKit Fx Ck Go.ChangeShapes Go.WideShapes

/-- A call. -/
structure Ck.Qu where
  k : Int
  r : Int
  a : Int
  b : Int
/-- The n calls at a read as f and lie below block D. -/
def Ck.Rd4 (w : World) (D : Nat) (a : Option Addr) (n : Nat) (f : Nat → Qu) : Prop :=
  0 < n → ∃ b off, a = some ⟨b, off, none⟩ ∧ b < D ∧ ∀ i, i < n → w.cell? ⟨b, off + i * 4, none⟩ = some (.int .i64 (f i).k) ∧ w.cell? ⟨b, off + i * 4 + 1, none⟩ = some (.int .i64 (f i).r) ∧
    w.cell? ⟨b, off + i * 4 + 2, none⟩ = some (.int .i64 (f i).a) ∧ w.cell? ⟨b, off + i * 4 + 3, none⟩ = some (.int .i64 (f i).b)
theorem Ck.Rd4.below {w w' : World} {D : Nat} {a : Option Addr} {n : Nat} {f : Nat → Qu} (h : Rd4 w D a n f) (hb : Below D w w') : Rd4 w' D a n f := fun hn => by
  obtain ⟨b, off, rfl, hlt, hc⟩ := h hn
  exact ⟨b, off, rfl, hlt, fun i hi => ⟨(hb.cell (p := ⟨b, off + i * 4, none⟩) hlt).trans (hc i hi).1, (hb.cell (p := ⟨b, off + i * 4 + 1, none⟩) hlt).trans (hc i hi).2.1, (hb.cell (p := ⟨b, off + i * 4 + 2, none⟩) hlt).trans (hc i hi).2.2.1, (hb.cell (p := ⟨b, off + i * 4 + 3, none⟩) hlt).trans (hc i hi).2.2.2⟩⟩
/-- The n ints at a read as f and lie below block D. -/
def Ck.Rd1 (w : World) (D : Nat) (a : Option Addr) (n : Nat) (f : Nat → Int) : Prop :=
  0 < n → ∃ b off, a = some ⟨b, off, none⟩ ∧ b < D ∧ ∀ i, i < n → w.cell? ⟨b, off + i, none⟩ = some (.int .i64 (f i))
theorem Ck.Rd1.below {w w' : World} {D : Nat} {a : Option Addr} {n : Nat} {f : Nat → Int} (h : Rd1 w D a n f) (hb : Below D w w') : Rd1 w' D a n f := fun hn => by
  obtain ⟨b, off, rfl, hlt, hc⟩ := h hn
  exact ⟨b, off, rfl, hlt, fun i hi => (hb.cell (p := ⟨b, off + i, none⟩) hlt).trans (hc i hi)⟩

theorem open_quads {H : Type} {enc : TypeId × Value → H} {W : World} {base : Nat} {spare : Nat → Bool} {held : Bool} {fuel : Nat} {a : Option Addr} {len cap : Nat} {x : DataW H × List MemPlace}
    (h : DataW.trod enc Try.prog W base spare held fuel 33 [.slice a len cap] = some x) :
    ∃ f, Rd4 W W.heap.size a len f ∧ len ≤ 9223372036854775807 ∧ ∀ i, i < len → ((-9223372036854775808 ≤ (f i).r ∧ (f i).r ≤ 9223372036854775807) ∧ (-9223372036854775808 ≤ (f i).a ∧ (f i).a ≤ 9223372036854775807) ∧ (-9223372036854775808 ≤ (f i).b ∧ (f i).b ≤ 9223372036854775807)) := by
  rcases Go.Deep.open_slice Try.underlying33 h with ⟨hcs, _⟩ | ⟨ad, l, c, m, n, D, Pl, hcs, _, hl, hm, hmm, _, hx⟩
  · injection hcs with hcs
    injection hcs with h1 h2 h3
    subst h2
    exact ⟨fun _ => ⟨0, 0, 0, 0⟩, fun h => absurd h (by omega), by omega, fun i hi => absurd hi (by omega)⟩
  · injection hcs with hcs
    injection hcs with h1 h2 h3
    subst h1 h2 h3
    have hlm : len ≤ m := by rw [hmm]; split <;> omega
    have each : ∀ i, i < len → ∃ p : Qu, (W.cell? (ad.add (i * 4)) = some (.int .i64 p.k) ∧ W.cell? (ad.add (i * 4 + 1)) = some (.int .i64 p.r) ∧ W.cell? (ad.add (i * 4 + 2)) = some (.int .i64 p.a) ∧ W.cell? (ad.add (i * 4 + 3)) = some (.int .i64 p.b)) ∧
        ((-9223372036854775808 ≤ p.r ∧ p.r ≤ 9223372036854775807) ∧ (-9223372036854775808 ≤ p.a ∧ p.a ≤ 9223372036854775807) ∧ (-9223372036854775808 ≤ p.b ∧ p.b ≤ 9223372036854775807)) := by
      intro i hi
      obtain ⟨cs', h1, h2⟩ := hx i (by omega)
      rw [show Try.prog.cellsOf 38 = 4 by kernel_rfl] at h1
      obtain ⟨_, hlen, hcell⟩ := World.cells?_some h1
      obtain ⟨xs, k, hk, hxy, _, hxl, hf⟩ := DataW.trod_struct Try.underlying38 h2
      match xs, hxl, cs', hlen with
      | [y0, y1, y2, y3], _, [v0, v1, v2, v3], _ =>
        have g0 := hf 0 _ rfl
        have g1 := hf 1 _ rfl
        have g2 := hf 2 _ rfl
        have g3 := hf 3 _ rfl
        simp [show Try.prog.cellsOf 3 = 1 by kernel_rfl] at g0 g1 g2 g3
        have e0 := hcell 0 (by omega)
        have e1 := hcell 1 (by omega)
        have e2 := hcell 2 (by omega)
        have e3 := hcell 3 (by omega)
        rw [Go.Deep.add_add] at e0 e1 e2 e3
        obtain ⟨z0, q0, _, _⟩ := DataW.trod_int Try.underlying3 g0
        obtain ⟨z1, q1, _, w1⟩ := DataW.trod_int Try.underlying3 g1
        obtain ⟨z2, q2, _, w2⟩ := DataW.trod_int Try.underlying3 g2
        obtain ⟨z3, q3, _, w3⟩ := DataW.trod_int Try.underlying3 g3
        injection q0 with q0
        injection q1 with q1
        injection q2 with q2
        injection q3 with q3
        subst q0 q1 q2 q3
        exact ⟨⟨z0, z1, z2, z3⟩, ⟨by simpa using e0, by simpa using e1, by simpa using e2, by simpa using e3⟩, bounds_i64 w1, bounds_i64 w2, bounds_i64 w3⟩
    have each2 : ∀ i, ∃ p : Qu, i < len → ((W.cell? (ad.add (i * 4)) = some (.int .i64 p.k) ∧ W.cell? (ad.add (i * 4 + 1)) = some (.int .i64 p.r) ∧ W.cell? (ad.add (i * 4 + 2)) = some (.int .i64 p.a) ∧ W.cell? (ad.add (i * 4 + 3)) = some (.int .i64 p.b)) ∧
        ((-9223372036854775808 ≤ p.r ∧ p.r ≤ 9223372036854775807) ∧ (-9223372036854775808 ≤ p.a ∧ p.a ≤ 9223372036854775807) ∧ (-9223372036854775808 ≤ p.b ∧ p.b ≤ 9223372036854775807))) := fun i => by
      by_cases hi : i < len
      · obtain ⟨p, hp⟩ := each i hi; exact ⟨p, fun _ => hp⟩
      · exact ⟨⟨0, 0, 0, 0⟩, fun h => absurd h hi⟩
    obtain ⟨g, hg⟩ := Classical.axiomOfChoice each2
    clear each each2
    refine ⟨g, fun hp => ?_, by unfold maxLen at hm; omega, fun i hi => (hg i hi).2⟩
    obtain ⟨b, off, spot⟩ := ad
    have hspot : spot = none := by
      have := (hg 0 hp).1.1
      simpa [Addr.add] using World.cell?_spot this
    subst hspot
    refine ⟨b, off, rfl, ?_, fun i hi => ?_⟩
    · have := (hg 0 hp).1.1
      rw [Go.WideShapes.add_plain] at this
      rcases Nat.lt_or_ge b W.heap.size with hlt | hge
      · exact hlt
      · simp [World.cell?, Array.getElem?_eq_none hge] at this
    · have := (hg i hi).1
      simp only [Go.WideShapes.add_plain, ← Nat.add_assoc] at this
      exact this
theorem open_ints1 {H : Type} {enc : TypeId × Value → H} {W : World} {base : Nat} {spare : Nat → Bool} {held : Bool} {fuel : Nat} {a : Option Addr} {len cap : Nat} {x : DataW H × List MemPlace}
    (h : DataW.trod enc Try.prog W base spare held fuel 47 [.slice a len cap] = some x) : ∃ f, Rd1 W W.heap.size a len f ∧ len ≤ 9223372036854775807 ∧ ∀ i, i < len → (-9223372036854775808 ≤ f i ∧ f i ≤ 9223372036854775807) := by
  rcases open_ints Try.underlying47 Try.underlying3 (by kernel_rfl) h with ⟨hcs, _⟩ | ⟨ad, l, c, zs, hcs, _, hl, hm, hz, _, hcell, hwz⟩
  · simp at hcs
    obtain ⟨rfl, rfl, rfl⟩ := hcs
    exact ⟨fun _ => 0, fun h => absurd h (by omega), by omega, fun i hi => absurd hi (by omega)⟩
  · simp at hcs
    obtain ⟨rfl, rfl, rfl⟩ := hcs
    have hz' : len ≤ zs.length := by rw [hz]; split <;> omega
    refine ⟨fun i => zs.getD i 0, fun hp => ?_, by unfold maxLen at hm; omega, fun i hi => ?_⟩
    · obtain ⟨b, off, spot⟩ := ad
      have h0 := hcell 0 (by omega)
      have hspot : spot = none := by simpa [Addr.add] using World.cell?_spot h0
      subst hspot
      refine ⟨b, off, rfl, ?_, fun i hi => ?_⟩
      · rw [Go.WideShapes.add_plain] at h0
        rcases Nat.lt_or_ge b W.heap.size with hlt | hge
        · exact hlt
        · simp [World.cell?, Array.getElem?_eq_none hge] at h0
      · have := hcell i (by omega)
        rw [Go.WideShapes.add_plain] at this
        exact this
    · have hm' : zs.getD i 0 ∈ zs := by
        have hlt : i < zs.length := by omega
        simp [List.getD, List.getElem?_eq_getElem hlt]
      exact bounds_i64 (hwz _ hm')
end Go.Proofs.Ytjcpfkibaohjjaa
