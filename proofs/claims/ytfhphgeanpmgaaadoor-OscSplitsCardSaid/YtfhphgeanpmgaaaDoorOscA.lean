/- Contracts of layer 9: boxes; segments. -/
import Derived.Test.YtfhphgeanpmgaaaDoorOscM
import Derived.Test.YtfhphgeanpmgaaaDoorFixG
import Derived.Below
import Derived.LoopTactic
import Derived.Laws.Rows
import Derived.Deep.RegionHeld3
import Derived.BigRegion
import Derived.Laws.EntriesVeiled
import Derived.Outline
namespace Go.Proofs.YtfhphgeanpmgaaaDoor
open Go.RowKit Fx Oc

/-- The variable 'none'. -/
def Oc.VN (w : World) : Prop := w.var? Tryd.prog "timesync/osc.none" = some #[.int .i64 (-1), .int .i64 0]
theorem Oc.var_keep {P : Program} {w w' : World} {n : String} {cs : Array Value} (hv : w.var? P n = some cs) (hb : Below w.heap.size w w') : w'.var? P n = some cs := by
  unfold World.var? at hv ⊢
  rcases hg : P.globalNamed n with _ | g
  · rw [hg] at hv; cases hv
  · rw [hg] at hv
    have hlt : g < w.heap.size := by
      rcases Nat.lt_or_ge g w.heap.size with h | h
      · exact h
      · simp [Array.getElem?_eq_none h] at hv
    simp only [Option.bind_some] at hv ⊢
    rw [hb.block g hlt]
    exact hv
theorem Oc.VN.below {w w' : World} (h : VN w) (hb : Below w.heap.size w w') : VN w' := var_keep h hb
theorem Oc.VN.cells {w : World} (h : VN w) : w.cell? ⟨0, 0, none⟩ = some (.int .i64 (-1)) ∧ w.cell? ⟨0, 1, none⟩ = some (.int .i64 0) := by
  have hg : Tryd.prog.globalNamed "timesync/osc.none" = some 0 := by kernel_rfl
  exact ⟨by have := World.var?_cell hg h 0; simpa using this, by have := World.var?_cell hg h 1; simpa using this⟩
/-- The n segments at a read as f and lie below block D. -/
def Oc.Rd2 (w : World) (D : Nat) (a : Option Addr) (n : Nat) (f : Nat → Int × Int) : Prop :=
  0 < n → ∃ b off, a = some ⟨b, off, none⟩ ∧ b < D ∧ ∀ i, i < n → w.cell? ⟨b, off + i * 2, none⟩ = some (.int .i64 (f i).1) ∧ w.cell? ⟨b, off + i * 2 + 1, none⟩ = some (.int .i64 (f i).2)
theorem Oc.Rd2.below {w w' : World} {D : Nat} {a : Option Addr} {n : Nat} {f : Nat → Int × Int} (h : Rd2 w D a n f) (hb : Below D w w') : Rd2 w' D a n f := fun hn => by
  obtain ⟨b, off, rfl, hlt, hc⟩ := h hn
  exact ⟨b, off, rfl, hlt, fun i hi => ⟨(hb.cell (p := ⟨b, off + i * 2, none⟩) hlt).trans (hc i hi).1, (hb.cell (p := ⟨b, off + i * 2 + 1, none⟩) hlt).trans (hc i hi).2⟩⟩
theorem Oc.Rd2.mono {w : World} {D D' : Nat} {a : Option Addr} {n : Nat} {f : Nat → Int × Int} (h : Rd2 w D a n f) (hD : D ≤ D') : Rd2 w D' a n f := fun hn => by
  obtain ⟨b, off, rfl, hlt, hc⟩ := h hn
  exact ⟨b, off, rfl, Nat.lt_of_lt_of_le hlt hD, hc⟩
/-- Block G is the box of an oscillator. -/
def Oc.OX (w : World) (G : Nat) (ph : Int) (a : Option Addr) (n c : Nat) : Prop := w.heap[G]? = some (.cells #[.int .i64 ph, .slice a n c] 24 (0, 0))
theorem Oc.OX.lt {w : World} {G : Nat} {ph : Int} {a : Option Addr} {n c : Nat} (h : OX w G ph a n c) : G < w.heap.size := by
  rcases Nat.lt_or_ge G w.heap.size with hlt | hge
  · exact hlt
  · unfold OX at h; rw [Array.getElem?_eq_none hge] at h; cases h
theorem Oc.OX.cells {w : World} {G : Nat} {ph : Int} {a : Option Addr} {n c : Nat} (h : OX w G ph a n c) : w.cell? ⟨G, 0, none⟩ = some (.int .i64 ph) ∧ w.cell? ⟨G, 1, none⟩ = some (.slice a n c) := by
  unfold OX at h; simp [World.cell?, h]
theorem Oc.OX.below {w w' : World} {G D : Nat} {ph : Int} {a : Option Addr} {n c : Nat} (h : OX w G ph a n c) (hb : Below D w w') (hG : G < D) : OX w' G ph a n c := (hb.block G hG).trans h
theorem Oc.OX.alloc {w : World} {G : Nat} {ph : Int} {a : Option Addr} {n c : Nat} (h : OX w G ph a n c) (o : Obj) : OX (w.alloc o) G ph a n c := (Below.heap_alloc _ _ _ h.lt).trans h
theorem Oc.ox_new (w : World) (ph : Int) (a : Option Addr) (n c : Nat) : OX (w.alloc (.cells #[.int .i64 ph, .slice a n c] 24)) w.heap.size ph a n c := heap_alloc_new w _
/-- Block G is the box of a segment. -/
def Oc.SX (w : World) (G : Nat) (x y : Int) : Prop := w.heap[G]? = some (.cells #[.int .i64 x, .int .i64 y] 36 (0, 0))
theorem Oc.SX.lt {w : World} {G : Nat} {x y : Int} (h : SX w G x y) : G < w.heap.size := by
  rcases Nat.lt_or_ge G w.heap.size with hlt | hge
  · exact hlt
  · unfold SX at h; rw [Array.getElem?_eq_none hge] at h; cases h
theorem Oc.SX.cells {w : World} {G : Nat} {x y : Int} (h : SX w G x y) : w.cell? ⟨G, 0, none⟩ = some (.int .i64 x) ∧ w.cell? ⟨G, 1, none⟩ = some (.int .i64 y) := by
  unfold SX at h; simp [World.cell?, h]
theorem Oc.SX.thaw {w : World} {G : Nat} {x y : Int} (h : SX w G x y) : w.frozen? ⟨G, 0, none⟩ = false ∧ w.frozen? ⟨G, 1, none⟩ = false := by
  unfold SX at h; simp [World.frozen?, h]
theorem Oc.SX.below {w w' : World} {G D : Nat} {x y : Int} (h : SX w G x y) (hb : Below D w w') (hG : G < D) : SX w' G x y := (hb.block G hG).trans h
theorem Oc.SX.alloc {w : World} {G : Nat} {x y : Int} (h : SX w G x y) (o : Obj) : SX (w.alloc o) G x y := (Below.heap_alloc _ _ _ h.lt).trans h
theorem Oc.sx_new (w : World) (x y : Int) : SX (w.alloc (.cells #[.int .i64 x, .int .i64 y] 36)) w.heap.size x y := heap_alloc_new w _
theorem Oc.SX.set0 {w : World} {G : Nat} {x y : Int} (h : SX w G x y) (v : Int) : SX (w.setCell ⟨G, 0, none⟩ (.int .i64 v)) G v y := by
  unfold SX at *; simp [World.setCell, Array.getElem?_modify, h]
theorem Oc.SX.set1 {w : World} {G : Nat} {x y : Int} (h : SX w G x y) (v : Int) : SX (w.setCell ⟨G, 1, none⟩ (.int .i64 v)) G x v := by
  unfold SX at *; simp [World.setCell, Array.getElem?_modify, h]
theorem Oc.OX.other {w : World} {G D i : Nat} {ph : Int} {a : Option Addr} {n c : Nat} (h : OX w G ph a n c) (hne : G ≠ D) (v : Value) : OX (w.setCell ⟨D, i, none⟩ v) G ph a n c :=
  (Below.heap_setCell w ⟨D, i, none⟩ v G (fun e => hne (by rw [e]))).trans h
theorem Oc.SX.other {w : World} {G D i : Nat} {x y : Int} (h : SX w G x y) (hne : G ≠ D) (v : Value) : SX (w.setCell ⟨D, i, none⟩ v) G x y :=
  (Below.heap_setCell w ⟨D, i, none⟩ v G (fun e => hne (by rw [e]))).trans h
theorem Oc.below_set {a w : World} {B C i : Nat} (h : Below B a w) (hC : B ≤ C) (v : Value) : Below B a (w.setCell ⟨C, i, none⟩ v) :=
  h.trans ⟨rfl, rfl, rfl, by simp [World.setCell], fun k hk => Below.heap_setCell w ⟨C, i, none⟩ v k (fun e => by simp at e; omega)⟩
theorem Oc.blwn {a w : World} {B : Nat} (h : Below B a w) (n : Nat) : Below B a (w.drewN n) := ⟨h.os, h.tape, h.output, h.size, h.block⟩
theorem Oc.ret_t {a b a' b' : Int} (h : a = a') (h' : b = b') : Ending.returned (.tuple #[.int .i64 a, .int .i64 b]) = .returned (.tuple #[.int .i64 a', .int .i64 b']) := by rw [h, h']

/-- Is t a true time? -/
def Oc.tt (t : Int) : Bool := decide (0 ≤ t ∧ t ≤ 1125899906842624)
theorem Oc.tt_yes {t : Int} (h : 0 ≤ t) (h' : t ≤ 1125899906842624) : tt t = true := decide_eq_true ⟨h, h'⟩
theorem Oc.tt_no {t : Int} (h : ¬(0 ≤ t ∧ t ≤ 1125899906842624)) : tt t = false := decide_eq_false h
theorem Oc.tt_iff {t : Int} : tt t = true ↔ (0 ≤ t ∧ t ≤ 1125899906842624) := by simp [tt]
theorem Oc.tt_iff' {t : Int} : tt t = false ↔ ¬(0 ≤ t ∧ t ≤ 1125899906842624) := by simp [tt]
theorem tt_any (t : Int) (w : World) :
    Calls Tryd.prog 21 #[.int .i64 t] w fun e w' => e = .returned (.bool (tt t)) ∧ w = w' := by
  by_cases h : 0 ≤ t
  · by_cases h' : t ≤ 1125899906842624
    · rw [tt_yes h h']
      go_enter Tryd.func21, Tryd.ntmps21
      go_wp2
      go_ret
      exact ⟨rfl, rfl⟩
    · rw [tt_no (by omega)]
      go_enter Tryd.func21, Tryd.ntmps21
      go_wp2
      go_ret
      exact ⟨rfl, rfl⟩
  · rw [tt_no (by omega)]
    go_enter Tryd.func21, Tryd.ntmps21
    go_wp2
    go_ret
    exact ⟨rfl, rfl⟩
/-- The error of a segment behind another one. -/
def Oc.csE (b0 b1 s0 s1 : Int) : Int := if ¬ okS (s0, s1) then 3 else if b0 = -1 ∧ b1 = 0 ∧ ¬ s0 = 0 then 7 else if s0 ≤ b0 then 12 else 0
theorem cs_time (b0 b1 s0 s1 : Int) (w : World) (hv : VN w) (h : tt s0 = false) :
    Calls Tryd.prog 24 #[.agg #[.int .i64 b0, .int .i64 b1], .agg #[.int .i64 s0, .int .i64 s1]] w fun e w' => e = .returned (.int .i64 3) ∧ Below w.heap.size w w' := by
  obtain ⟨g0, g1⟩ := hv.cells
  have hb1 : Below w.heap.size w (w.alloc (.cells #[.int .i64 b0, .int .i64 b1] 36)) := (Below.refl _ _).alloc (Nat.le_refl _) _
  have hb2 := hb1.alloc hb1.size (.cells #[.int .i64 s0, .int .i64 s1] 36)
  have hS1 := (sx_new w b0 b1).alloc (.cells #[.int .i64 s0, .int .i64 s1] 36)
  have hS2 := sx_new (w.alloc (.cells #[.int .i64 b0, .int .i64 b1] 36)) s0 s1
  have hvv := hv.below hb2
  obtain ⟨v, hvw⟩ : ∃ v, (w.alloc (.cells #[.int .i64 b0, .int .i64 b1] 36)).alloc (.cells #[.int .i64 s0, .int .i64 s1] 36) = v := ⟨_, rfl⟩
  rw [hvw] at hb2 hS1 hS2 hvv
  rw [show (w.alloc (.cells #[.int .i64 b0, .int .i64 b1] 36)).heap.size = w.heap.size + 1 by simp] at hS2
  have HB := Lib.hid hb2
  obtain ⟨g0, g1⟩ := hvv.cells
  obtain ⟨c0, c1⟩ := hS1.cells
  obtain ⟨d0, d1⟩ := hS2.cells
  clear hb1 hb2 hS1 hS2 hvv hv
  go_enter Tryd.func24, Tryd.ntmps24
  go_wp2_with (go_at_call 21; refine (tt_any _ _).mono ?_; rintro e w' ⟨rfl, rfl⟩)
  go_ret
  exact ⟨rfl, HB.out⟩
theorem cs_low (b0 b1 s0 s1 : Int) (w : World) (hv : VN w) (h : tt s0 = true) (h1 : s1 < -500000) :
    Calls Tryd.prog 24 #[.agg #[.int .i64 b0, .int .i64 b1], .agg #[.int .i64 s0, .int .i64 s1]] w fun e w' => e = .returned (.int .i64 3) ∧ Below w.heap.size w w' := by
  have r0 : decide (s1 < -500000) = true := decide_eq_true h1
  obtain ⟨g0, g1⟩ := hv.cells
  have hb1 : Below w.heap.size w (w.alloc (.cells #[.int .i64 b0, .int .i64 b1] 36)) := (Below.refl _ _).alloc (Nat.le_refl _) _
  have hb2 := hb1.alloc hb1.size (.cells #[.int .i64 s0, .int .i64 s1] 36)
  have hS1 := (sx_new w b0 b1).alloc (.cells #[.int .i64 s0, .int .i64 s1] 36)
  have hS2 := sx_new (w.alloc (.cells #[.int .i64 b0, .int .i64 b1] 36)) s0 s1
  have hvv := hv.below hb2
  obtain ⟨v, hvw⟩ : ∃ v, (w.alloc (.cells #[.int .i64 b0, .int .i64 b1] 36)).alloc (.cells #[.int .i64 s0, .int .i64 s1] 36) = v := ⟨_, rfl⟩
  rw [hvw] at hb2 hS1 hS2 hvv
  rw [show (w.alloc (.cells #[.int .i64 b0, .int .i64 b1] 36)).heap.size = w.heap.size + 1 by simp] at hS2
  have HB := Lib.hid hb2
  obtain ⟨g0, g1⟩ := hvv.cells
  obtain ⟨c0, c1⟩ := hS1.cells
  obtain ⟨d0, d1⟩ := hS2.cells
  clear hb1 hb2 hS1 hS2 hvv hv
  go_enter Tryd.func24, Tryd.ntmps24
  go_wp2_with (go_at_call 21; refine (tt_any _ _).mono ?_; rintro e w' ⟨rfl, rfl⟩)
  go_ret
  exact ⟨rfl, HB.out⟩
theorem cs_high (b0 b1 s0 s1 : Int) (w : World) (hv : VN w) (h : tt s0 = true) (h1 : 500000 < s1) :
    Calls Tryd.prog 24 #[.agg #[.int .i64 b0, .int .i64 b1], .agg #[.int .i64 s0, .int .i64 s1]] w fun e w' => e = .returned (.int .i64 3) ∧ Below w.heap.size w w' := by
  have r0 : decide (s1 < -500000) = false := decide_eq_false (by omega)
  have r1 : decide (500000 < s1) = true := decide_eq_true h1
  obtain ⟨g0, g1⟩ := hv.cells
  have hb1 : Below w.heap.size w (w.alloc (.cells #[.int .i64 b0, .int .i64 b1] 36)) := (Below.refl _ _).alloc (Nat.le_refl _) _
  have hb2 := hb1.alloc hb1.size (.cells #[.int .i64 s0, .int .i64 s1] 36)
  have hS1 := (sx_new w b0 b1).alloc (.cells #[.int .i64 s0, .int .i64 s1] 36)
  have hS2 := sx_new (w.alloc (.cells #[.int .i64 b0, .int .i64 b1] 36)) s0 s1
  have hvv := hv.below hb2
  obtain ⟨v, hvw⟩ : ∃ v, (w.alloc (.cells #[.int .i64 b0, .int .i64 b1] 36)).alloc (.cells #[.int .i64 s0, .int .i64 s1] 36) = v := ⟨_, rfl⟩
  rw [hvw] at hb2 hS1 hS2 hvv
  rw [show (w.alloc (.cells #[.int .i64 b0, .int .i64 b1] 36)).heap.size = w.heap.size + 1 by simp] at hS2
  have HB := Lib.hid hb2
  obtain ⟨g0, g1⟩ := hvv.cells
  obtain ⟨c0, c1⟩ := hS1.cells
  obtain ⟨d0, d1⟩ := hS2.cells
  clear hb1 hb2 hS1 hS2 hvv hv
  go_enter Tryd.func24, Tryd.ntmps24
  go_wp2_with (go_at_call 21; refine (tt_any _ _).mono ?_; rintro e w' ⟨rfl, rfl⟩)
  go_ret
  exact ⟨rfl, HB.out⟩
theorem cs_form (s0 s1 : Int) (w : World) (hv : VN w) (h : tt s0 = true) (h1 : -500000 ≤ s1) (h2 : s1 ≤ 500000) (h3 : ¬ s0 = 0) :
    Calls Tryd.prog 24 #[.agg #[.int .i64 (-1), .int .i64 0], .agg #[.int .i64 s0, .int .i64 s1]] w fun e w' => e = .returned (.int .i64 7) ∧ Below w.heap.size w w' := by
  have r0 : decide (s1 < -500000) = false := decide_eq_false (by omega)
  have r1 : decide (500000 < s1) = false := decide_eq_false (by omega)
  have e0 : (s0 != 0) = true := by simpa using h3
  obtain ⟨g0, g1⟩ := hv.cells
  have hb1 : Below w.heap.size w (w.alloc (.cells #[.int .i64 (-1), .int .i64 0] 36)) := (Below.refl _ _).alloc (Nat.le_refl _) _
  have hb2 := hb1.alloc hb1.size (.cells #[.int .i64 s0, .int .i64 s1] 36)
  have hS1 := (sx_new w (-1) 0).alloc (.cells #[.int .i64 s0, .int .i64 s1] 36)
  have hS2 := sx_new (w.alloc (.cells #[.int .i64 (-1), .int .i64 0] 36)) s0 s1
  have hvv := hv.below hb2
  obtain ⟨v, hvw⟩ : ∃ v, (w.alloc (.cells #[.int .i64 (-1), .int .i64 0] 36)).alloc (.cells #[.int .i64 s0, .int .i64 s1] 36) = v := ⟨_, rfl⟩
  rw [hvw] at hb2 hS1 hS2 hvv
  rw [show (w.alloc (.cells #[.int .i64 (-1), .int .i64 0] 36)).heap.size = w.heap.size + 1 by simp] at hS2
  have HB := Lib.hid hb2
  obtain ⟨g0, g1⟩ := hvv.cells
  obtain ⟨c0, c1⟩ := hS1.cells
  obtain ⟨d0, d1⟩ := hS2.cells
  clear hb1 hb2 hS1 hS2 hvv hv
  go_enter Tryd.func24, Tryd.ntmps24
  go_wp2_with (go_at_call 21; refine (tt_any _ _).mono ?_; rintro e w' ⟨rfl, rfl⟩)
  go_ret
  exact ⟨rfl, HB.out⟩
theorem cs_first (s1 : Int) (w : World) (hv : VN w) (h1 : -500000 ≤ s1) (h2 : s1 ≤ 500000) :
    Calls Tryd.prog 24 #[.agg #[.int .i64 (-1), .int .i64 0], .agg #[.int .i64 0, .int .i64 s1]] w fun e w' => e = .returned (.int .i64 0) ∧ Below w.heap.size w w' := by
  have r0 : decide (s1 < -500000) = false := decide_eq_false (by omega)
  have r1 : decide (500000 < s1) = false := decide_eq_false (by omega)
  have h : tt 0 = true := rfl
  obtain ⟨g0, g1⟩ := hv.cells
  have hb1 : Below w.heap.size w (w.alloc (.cells #[.int .i64 (-1), .int .i64 0] 36)) := (Below.refl _ _).alloc (Nat.le_refl _) _
  have hb2 := hb1.alloc hb1.size (.cells #[.int .i64 0, .int .i64 s1] 36)
  have hS1 := (sx_new w (-1) 0).alloc (.cells #[.int .i64 0, .int .i64 s1] 36)
  have hS2 := sx_new (w.alloc (.cells #[.int .i64 (-1), .int .i64 0] 36)) 0 s1
  have hvv := hv.below hb2
  obtain ⟨v, hvw⟩ : ∃ v, (w.alloc (.cells #[.int .i64 (-1), .int .i64 0] 36)).alloc (.cells #[.int .i64 0, .int .i64 s1] 36) = v := ⟨_, rfl⟩
  rw [hvw] at hb2 hS1 hS2 hvv
  rw [show (w.alloc (.cells #[.int .i64 (-1), .int .i64 0] 36)).heap.size = w.heap.size + 1 by simp] at hS2
  have HB := Lib.hid hb2
  obtain ⟨g0, g1⟩ := hvv.cells
  obtain ⟨c0, c1⟩ := hS1.cells
  obtain ⟨d0, d1⟩ := hS2.cells
  clear hb1 hb2 hS1 hS2 hvv hv
  go_enter Tryd.func24, Tryd.ntmps24
  go_wp2_with (go_at_call 21; refine (tt_any _ _).mono ?_; rintro e w' ⟨rfl, rfl⟩)
  go_ret
  exact ⟨rfl, HB.out⟩
theorem cs_order (b0 b1 s0 s1 : Int) (w : World) (hv : VN w) (h : tt s0 = true) (h1 : -500000 ≤ s1) (h2 : s1 ≤ 500000) (h3 : 0 ≤ b0) (h4 : s0 ≤ b0) :
    Calls Tryd.prog 24 #[.agg #[.int .i64 b0, .int .i64 b1], .agg #[.int .i64 s0, .int .i64 s1]] w fun e w' => e = .returned (.int .i64 12) ∧ Below w.heap.size w w' := by
  have r0 : decide (s1 < -500000) = false := decide_eq_false (by omega)
  have r1 : decide (500000 < s1) = false := decide_eq_false (by omega)
  have e0 : (b0 == -1) = false := by simp; omega
  have e1 : ¬ b0 = -1 := by omega
  have e2 : decide (s0 ≤ b0) = true := decide_eq_true h4
  obtain ⟨g0, g1⟩ := hv.cells
  have hb1 : Below w.heap.size w (w.alloc (.cells #[.int .i64 b0, .int .i64 b1] 36)) := (Below.refl _ _).alloc (Nat.le_refl _) _
  have hb2 := hb1.alloc hb1.size (.cells #[.int .i64 s0, .int .i64 s1] 36)
  have hS1 := (sx_new w b0 b1).alloc (.cells #[.int .i64 s0, .int .i64 s1] 36)
  have hS2 := sx_new (w.alloc (.cells #[.int .i64 b0, .int .i64 b1] 36)) s0 s1
  have hvv := hv.below hb2
  obtain ⟨v, hvw⟩ : ∃ v, (w.alloc (.cells #[.int .i64 b0, .int .i64 b1] 36)).alloc (.cells #[.int .i64 s0, .int .i64 s1] 36) = v := ⟨_, rfl⟩
  rw [hvw] at hb2 hS1 hS2 hvv
  rw [show (w.alloc (.cells #[.int .i64 b0, .int .i64 b1] 36)).heap.size = w.heap.size + 1 by simp] at hS2
  have HB := Lib.hid hb2
  obtain ⟨g0, g1⟩ := hvv.cells
  obtain ⟨c0, c1⟩ := hS1.cells
  obtain ⟨d0, d1⟩ := hS2.cells
  clear hb1 hb2 hS1 hS2 hvv hv
  go_enter Tryd.func24, Tryd.ntmps24
  go_wp2_with (go_at_call 21; refine (tt_any _ _).mono ?_; rintro e w' ⟨rfl, rfl⟩)
  go_ret
  exact ⟨rfl, HB.out⟩
theorem cs_ok (b0 b1 s0 s1 : Int) (w : World) (hv : VN w) (h : tt s0 = true) (h1 : -500000 ≤ s1) (h2 : s1 ≤ 500000) (h3 : 0 ≤ b0) (h4 : b0 < s0) :
    Calls Tryd.prog 24 #[.agg #[.int .i64 b0, .int .i64 b1], .agg #[.int .i64 s0, .int .i64 s1]] w fun e w' => e = .returned (.int .i64 0) ∧ Below w.heap.size w w' := by
  have r0 : decide (s1 < -500000) = false := decide_eq_false (by omega)
  have r1 : decide (500000 < s1) = false := decide_eq_false (by omega)
  have e0 : (b0 == -1) = false := by simp; omega
  have e1 : ¬ b0 = -1 := by omega
  have e2 : decide (s0 ≤ b0) = false := decide_eq_false (by omega)
  obtain ⟨g0, g1⟩ := hv.cells
  have hb1 : Below w.heap.size w (w.alloc (.cells #[.int .i64 b0, .int .i64 b1] 36)) := (Below.refl _ _).alloc (Nat.le_refl _) _
  have hb2 := hb1.alloc hb1.size (.cells #[.int .i64 s0, .int .i64 s1] 36)
  have hS1 := (sx_new w b0 b1).alloc (.cells #[.int .i64 s0, .int .i64 s1] 36)
  have hS2 := sx_new (w.alloc (.cells #[.int .i64 b0, .int .i64 b1] 36)) s0 s1
  have hvv := hv.below hb2
  obtain ⟨v, hvw⟩ : ∃ v, (w.alloc (.cells #[.int .i64 b0, .int .i64 b1] 36)).alloc (.cells #[.int .i64 s0, .int .i64 s1] 36) = v := ⟨_, rfl⟩
  rw [hvw] at hb2 hS1 hS2 hvv
  rw [show (w.alloc (.cells #[.int .i64 b0, .int .i64 b1] 36)).heap.size = w.heap.size + 1 by simp] at hS2
  have HB := Lib.hid hb2
  obtain ⟨g0, g1⟩ := hvv.cells
  obtain ⟨c0, c1⟩ := hS1.cells
  obtain ⟨d0, d1⟩ := hS2.cells
  clear hb1 hb2 hS1 hS2 hvv hv
  go_enter Tryd.func24, Tryd.ntmps24
  go_wp2_with (go_at_call 21; refine (tt_any _ _).mono ?_; rintro e w' ⟨rfl, rfl⟩)
  go_ret
  exact ⟨rfl, HB.out⟩
end Go.Proofs.YtfhphgeanpmgaaaDoor
