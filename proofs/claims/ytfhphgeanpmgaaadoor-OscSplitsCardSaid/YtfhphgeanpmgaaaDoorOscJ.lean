/- What comes in as an oscillator of layer 9, and what the tied variable gives. -/
import Derived.Test.YtfhphgeanpmgaaaDoorOscA
import Derived.Test.YtfhphgeanpmgaaaDoorRows
import Derived.Deep.SlicePairs
import Derived.Lib.LaidTab
import Derived.LaidMore
import Derived.MakeChecks
import Derived.OpenShut
namespace Go.Proofs.YtfhphgeanpmgaaaDoor
open Go.RowKit Fx Oc

/-- Segments that came in. -/
def Lp.ERow (w : World) (a : Option Addr) (len cap : Nat) (f : Nat → Int × Int) : Prop :=
  (a = none ∧ len = 0 ∧ cap = 0) ∨ ∃ x, a = some x ∧ len ≤ cap ∧ cap ≤ maxLen ∧ ∀ i, i < len → w.cell? (x.add (i * 2)) = some (.int .i64 (f i).1) ∧ w.cell? (x.add (i * 2 + 1)) = some (.int .i64 (f i).2)
theorem open_entries {H : Type} {enc : TypeId × Value → H} {W : World} {base : Nat} {spare : Nat → Bool} {held : Bool} {fuel : Nat} {v : Value} {x : DataW H × List MemPlace}
    (h : DataW.trod enc Tryd.prog W base spare held fuel 22 [v] = some x) : ∃ a len cap f, v = .slice a len cap ∧ Lp.ERow W a len cap f := by
  rcases Go.Deep.open_slice_pairs Tryd.underlying22 Tryd.underlying36 (by kernel_rfl) rfl rfl (by kernel_rfl) (by kernel_rfl) h with ⟨hcs, _⟩ | ⟨ad, l, c, m, n, V0, V1, D0, D1, P0, P1, hcs, _, hl, hm, hmm, _, hx⟩
  · injection hcs with hcs
    exact ⟨_, _, _, fun _ => (0, 0), hcs, .inl ⟨rfl, rfl, rfl⟩⟩
  · injection hcs with hcs
    have hlm : l ≤ m := by rw [hmm]; split <;> omega
    have each : ∀ i, i < l → ∃ p : Int × Int, W.cell? (ad.add (i * 2)) = some (.int .i64 p.1) ∧ W.cell? (ad.add (i * 2 + 1)) = some (.int .i64 p.2) := by
      intro i hi
      obtain ⟨g0, g1, t0, t1⟩ := hx i (by omega)
      obtain ⟨y0, e0, _, _⟩ := DataW.trod_int Tryd.underlying3 t0
      obtain ⟨y1, e1, _, _⟩ := DataW.trod_int Tryd.underlying3 t1
      injection e0 with e0
      injection e1 with e1
      exact ⟨(y0, y1), by rw [g0, e0], by rw [g1, e1]⟩
    refine ⟨some ad, l, c, fun i => if hi : i < l then Classical.choose (each i hi) else (0, 0), hcs, .inr ⟨ad, rfl, hl, hm, fun i hi => ?_⟩⟩
    simp only [dif_pos hi]
    exact Classical.choose_spec (each i hi)
theorem erow_reads {w : World} {a : Option Addr} {len cap : Nat} {f : Nat → Int × Int} (h : Lp.ERow w a len cap f) : Rd2 w w.heap.size a len f := by
  rcases h with ⟨rfl, rfl, rfl⟩ | ⟨x, rfl, h1, h2, h3⟩
  · exact fun h => absurd h (by omega)
  · refine fun hp => ?_
    obtain ⟨b, off, spot⟩ := x
    have hspot : spot = none := by
      have := (h3 0 hp).1
      simpa [Addr.add] using World.cell?_spot this
    subst hspot
    refine ⟨b, off, rfl, ?_, fun i hi => ?_⟩
    · have := (h3 0 hp).1
      rw [Go.WideShapes.add_plain] at this
      rcases Nat.lt_or_ge b w.heap.size with hlt | hge
      · exact hlt
      · simp [World.cell?, Array.getElem?_eq_none hge] at this
    · have := h3 i hi
      rw [Go.WideShapes.add_plain, Go.WideShapes.add_plain] at this
      exact ⟨this.1, by rw [Nat.add_assoc]; exact this.2⟩
theorem erow_len {w : World} {a : Option Addr} {len cap : Nat} {f : Nat → Int × Int} (h : Lp.ERow w a len cap f) : len ≤ 9223372036854775807 := by
  rcases h with ⟨rfl, rfl, rfl⟩ | ⟨x, rfl, h1, h2, h3⟩
  · omega
  · unfold maxLen at h2; omega
theorem laid_gives9 {W : World} (h : laidMetH Tryd.prog [("timesync/osc.none", Rows.laid_timesync_osc_none)] W) : VN W := by
  rw [MakeChecks.laidMetH_plain _ _ _ (by kernel_rfl)] at h
  obtain ⟨ps, ⟨g0, t0, cs0, fuel, p0, q0, hg0, ht0, hv0, hd0, _, _⟩, _⟩ := h
  obtain rfl := Option.some.inj ((show Tryd.prog.globalNamed "timesync/osc.none" = some 0 from by kernel_rfl).symm.trans hg0)
  obtain rfl := Option.some.inj ((show (Tryd.prog.globals[0]?).map (·.type) = some 36 from by kernel_rfl).symm.trans ht0)
  unfold VN
  rw [hv0]
  congr 1
  obtain ⟨cs⟩ := cs0
  congr 1
  obtain ⟨xs, m, _, hx, hcl, hxl, hf⟩ := DataW.trod_struct Tryd.underlying36 hd0
  rw [show Tryd.prog.cellsOf 36 = 2 by kernel_rfl] at hcl
  match xs, hxl, cs, hcl with
  | [y0, y1], _, [v0, v1], _ =>
    have g0 := hf 0 _ rfl
    have g1 := hf 1 _ rfl
    simp [show Tryd.prog.cellsOf 3 = 1 by kernel_rfl] at g0 g1
    obtain ⟨z0, q0, r0, _⟩ := DataW.trod_int Tryd.underlying3 g0
    obtain ⟨z1, q1, r1, _⟩ := DataW.trod_int Tryd.underlying3 g1
    injection q0 with q0
    injection q1 with q1
    subst q0 q1
    unfold Rows.laid_timesync_osc_none at hx
    simp only [Prod.mk.injEq] at hx
    have hx1 := hx.1
    simp [r0, r1] at hx1
    obtain ⟨a0, a1⟩ := hx1
    subst a0 a1
    rfl
end Go.Proofs.YtfhphgeanpmgaaaDoor
