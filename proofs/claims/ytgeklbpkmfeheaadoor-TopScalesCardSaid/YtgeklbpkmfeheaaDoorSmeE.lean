/- Contracts of layer 7: Tai of the program. -/
import Derived.Test.YtgeklbpkmfeheaaDoorSmeD
import Derived.Deep.RegionHeld3
import Derived.Laws.EntriesVeiled
namespace Go.Proofs.YtgeklbpkmfeheaaDoor
open Go.RowKit Fx Cv Lp Sm

theorem Sm.day_lo {t : Int} (h : Lp.beg t = true) (h0 : -8000000000 ≤ t) : -7999800000 ≤ t := by
  have hd := beg_day h
  unfold Lp.beg oD at h
  simp only [Bool.and_eq_true, decide_eq_true_eq] at h
  have hc := h.2.1
  rcases Int.lt_or_le t (-7999800000) with c | c
  · exfalso
    have hq : t / 86400 = -92592 ∨ t / 86400 = -92591 := by omega
    rcases hq with e | e
    · rw [e] at hc
      exact absurd hc (show ¬ cd (-92592) = 1 by rw [show cd (-92592) = 29 from by kernel_rfl]; decide)
    · rw [e] at hc
      exact absurd hc (show ¬ cd (-92591) = 1 by rw [show cd (-92591) = 30 from by kernel_rfl]; decide)
  · exact c
theorem Sm.chg_in {B E : Int} {f : Nat → Int × Int} {n : Nat} (hv : Val B E f n) {i : Nat} (hi : i < n) : -8000000000000000000 ≤ chg f i - 1 ∧ chg f i ≤ 8000001000000000000 := by
  have h1 := day_lo (hv.beg i hi) (hv.rng.2.2 i hi).2.1
  have h2 := (hv.rng.2.2 i hi).2.2
  have h3 := hv.bnd hi
  unfold chg
  omega

/-- Does an instant read a nanosecond or more? -/
def Sm.rch (B : Int) (f : Nat → Int × Int) (n : Nat) (K W u t : Int) : Bool := decide (u ≤ rdg B f n K W t)
/-- The state of the search: boxes, the nanosecond's box, the closure's, the first instant's. -/
structure Sm.TS (w v : World) (G H U : Nat) (B E : Int) (a : Option Addr) (n c : Nat) (f : Nat → Int × Int) (K W u : Int) : Prop where
  bs : Bs w v G H B E a n c f K W
  ub : v.heap[U]? = some (.cells #[.int .i64 u] 3 (0, 0))
theorem Sm.blt {v : World} {U : Nat} {o : Obj} (h : v.heap[U]? = some o) : U < v.heap.size := by
  rcases Nat.lt_or_ge U v.heap.size with hlt | hge
  · exact hlt
  · rw [Array.getElem?_eq_none hge] at h; cases h
theorem Sm.TS.below {w v v' : World} {G H U : Nat} {B E : Int} {a : Option Addr} {n c : Nat} {f : Nat → Int × Int} {K W u : Int} (h : TS w v G H U B E a n c f K W u) (hb : Below v.heap.size v v') : TS w v' G H U B E a n c f K W u :=
  ⟨h.bs.below hb, (hb.block U (blt h.ub)).trans h.ub⟩
theorem Sm.one_cell {v : World} {U : Nat} {x : Value} {t : TypeId} (h : v.heap[U]? = some (.cells #[x] t (0, 0))) : v.cell? ⟨U, 0, none⟩ = some x := by simp [World.cell?, h]
theorem Sm.TS.cells {w v : World} {G H U : Nat} {B E : Int} {a : Option Addr} {n c : Nat} {f : Nat → Int × Int} {K W u : Int} (h : TS w v G H U B E a n c f K W u) :
    v.cell? ⟨G, 0, none⟩ = some (.int .i64 B) ∧ v.cell? ⟨G, 1, none⟩ = some (.int .i64 E) ∧ v.cell? ⟨G, 2, none⟩ = some (.slice a n c) ∧ v.cell? ⟨H, 0, none⟩ = some (.int .i64 K) ∧ v.cell? ⟨H, 1, none⟩ = some (.int .i64 W) ∧ v.cell? ⟨U, 0, none⟩ = some (.int .i64 u) :=
  ⟨h.bs.cells.1, h.bs.cells.2.1, h.bs.cells.2.2.1, h.bs.cells.2.2.2.1, h.bs.cells.2.2.2.2, one_cell h.ub⟩
theorem Sm.Bs.drew {w v : World} {G H : Nat} {B E : Int} {a : Option Addr} {n c : Nat} {f : Nat → Int × Int} {K W : Int} (h : Bs w v G H B E a n c f K W) : Bs w v.drew G H B E a n c f K W := ⟨h.box, h.pol, h.lrd, h.bel.drew⟩
theorem Sm.TS.drew {w v : World} {G H U : Nat} {B E : Int} {a : Option Addr} {n c : Nat} {f : Nat → Int × Int} {K W u : Int} (h : TS w v G H U B E a n c f K W u) : TS w v.drew G H U B E a n c f K W u := ⟨h.bs.drew, h.ub⟩
theorem Sm.TS.re {w v : World} {G H U : Nat} {B E : Int} {a : Option Addr} {n c : Nat} {f : Nat → Int × Int} {K W u : Int} (h : TS w v G H U B E a n c f K W u) : TS v v G H U B E a n c f K W u := ⟨⟨h.bs.box, h.bs.pol, h.bs.lrd, Below.refl _ _⟩, h.ub⟩

/-- What the search finds. -/
def Sm.Fnd (g : Int → Bool) (k r : Int) : Prop := 0 ≤ r ∧ r ≤ k ∧ (0 < r → g (r - 1) = false) ∧ (r < k → g r = true)
end Go.Proofs.YtgeklbpkmfeheaaDoor
