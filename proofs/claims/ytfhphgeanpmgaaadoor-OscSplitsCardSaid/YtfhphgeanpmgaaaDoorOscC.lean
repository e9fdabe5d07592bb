/- Contracts of layer 9: segment and Check of the specification. -/
import Derived.Test.YtfhphgeanpmgaaaDoorOscB
import Derived.Deep.QuietTactic
import Derived.BigQuiet
namespace Go.Proofs.YtfhphgeanpmgaaaDoor
open Go.RowKit Fx Oc

theorem Oc.Rd2.ptr {w : World} {D : Nat} {a : Option Addr} {n : Nat} {f : Nat → Int × Int} (h : Rd2 w D a n f) (hn : 0 < n) : ∃ b off, a = some ⟨b, off, none⟩ ∧ b < D := by
  obtain ⟨b, off, h1, h2, _⟩ := h hn
  exact ⟨b, off, h1, h2⟩
theorem Oc.Rd2.at {w : World} {D : Nat} {b off : Nat} {n : Nat} {f : Nat → Int × Int} (h : Rd2 w D (some ⟨b, off, none⟩) n f) {i : Nat} (hi : i < n) :
    w.cell? ⟨b, off + i * 2, none⟩ = some (.int .i64 (f i).1) ∧ w.cell? ⟨b, off + i * 2 + 1, none⟩ = some (.int .i64 (f i).2) := by
  obtain ⟨b', off', he, _, hc⟩ := h (by omega)
  injection he with he; injection he with h1 h2; subst h1 h2
  exact hc i hi
set_option maxRecDepth 100000 in
theorem rseg_0 (ph : Int) (b off n c : Nat) (f : Nat → Int × Int) (k : Nat) (s0 s1 : Int) (w : World) (hr : Rd2 w w.heap.size (some ⟨b, off, none⟩) n f) (hk : k < n) (hn : n ≤ 16) (hs0 : (f k).1 = s0) (hs1 : (f k).2 = s1) (h : s0 < 0) :
    Calls Tryd.prog 25 #[.agg #[.int .i64 ph, .slice (some ⟨b, off, none⟩) n c], .int .i64 k] w fun e w' => e = .returned (.int .i64 3) ∧ Below w.heap.size w w' := by
  have d0 : decide (s0 < 0) = true := decide_eq_true h
  have hb1 : Below w.heap.size w (w.alloc (.cells #[.int .i64 ph, .slice (some ⟨b, off, none⟩) n c] 24)) := (Below.refl _ _).alloc (Nat.le_refl _) _
  have hX1 := ox_new w ph (some ⟨b, off, none⟩) n c
  obtain ⟨v, hvw⟩ : ∃ v, w.alloc (.cells #[.int .i64 ph, .slice (some ⟨b, off, none⟩) n c] 24) = v := ⟨_, rfl⟩
  rw [hvw] at hb1 hX1
  have hr1 := hr.below hb1
  have hb2 := hb1.alloc hb1.size (.cells #[.int .i64 s0, .int .i64 s1] 36)
  have hr2 := hr.below hb2
  have hX2 := hX1.alloc (.cells #[.int .i64 s0, .int .i64 s1] 36)
  have hlt := hX1.lt
  have HB := Lib.hid hb2
  obtain ⟨q0, q1⟩ := hr1.at (i := k) hk
  rw [hs0] at q0
  rw [hs1] at q1
  obtain ⟨c0, c1⟩ := hX1.cells
  obtain ⟨e0, e1⟩ := hX2.cells
  clear hb1 hX1 hr1 hb2 hX2 hr2 hr hs0 hs1
  go_enter Tryd.func25, Tryd.ntmps25
  go_wp2_with fail
  go_ret
  exact ⟨rfl, HB.out⟩
set_option maxRecDepth 100000 in
theorem rseg_1 (ph : Int) (b off n c : Nat) (f : Nat → Int × Int) (k : Nat) (s0 s1 : Int) (w : World) (hr : Rd2 w w.heap.size (some ⟨b, off, none⟩) n f) (hk : k < n) (hn : n ≤ 16) (hs0 : (f k).1 = s0) (hs1 : (f k).2 = s1) (h0 : 0 ≤ s0) (h : 1125899906842624 < s0) :
    Calls Tryd.prog 25 #[.agg #[.int .i64 ph, .slice (some ⟨b, off, none⟩) n c], .int .i64 k] w fun e w' => e = .returned (.int .i64 3) ∧ Below w.heap.size w w' := by
  have d0 : decide (s0 < 0) = false := decide_eq_false (by omega)
  have d1 : decide (1125899906842624 < s0) = true := decide_eq_true h
  have hb1 : Below w.heap.size w (w.alloc (.cells #[.int .i64 ph, .slice (some ⟨b, off, none⟩) n c] 24)) := (Below.refl _ _).alloc (Nat.le_refl _) _
  have hX1 := ox_new w ph (some ⟨b, off, none⟩) n c
  obtain ⟨v, hvw⟩ : ∃ v, w.alloc (.cells #[.int .i64 ph, .slice (some ⟨b, off, none⟩) n c] 24) = v := ⟨_, rfl⟩
  rw [hvw] at hb1 hX1
  have hr1 := hr.below hb1
  have hb2 := hb1.alloc hb1.size (.cells #[.int .i64 s0, .int .i64 s1] 36)
  have hr2 := hr.below hb2
  have hX2 := hX1.alloc (.cells #[.int .i64 s0, .int .i64 s1] 36)
  have hlt := hX1.lt
  have HB := Lib.hid hb2
  obtain ⟨q0, q1⟩ := hr1.at (i := k) hk
  rw [hs0] at q0
  rw [hs1] at q1
  obtain ⟨c0, c1⟩ := hX1.cells
  obtain ⟨e0, e1⟩ := hX2.cells
  clear hb1 hX1 hr1 hb2 hX2 hr2 hr hs0 hs1
  go_enter Tryd.func25, Tryd.ntmps25
  go_wp2_with fail
  go_ret
  exact ⟨rfl, HB.out⟩
set_option maxRecDepth 100000 in
theorem rseg_2 (ph : Int) (b off n c : Nat) (f : Nat → Int × Int) (k : Nat) (s0 s1 : Int) (w : World) (hr : Rd2 w w.heap.size (some ⟨b, off, none⟩) n f) (hk : k < n) (hn : n ≤ 16) (hs0 : (f k).1 = s0) (hs1 : (f k).2 = s1) (h0 : 0 ≤ s0) (h1 : s0 ≤ 1125899906842624) (h : s1 < -500000) :
    Calls Tryd.prog 25 #[.agg #[.int .i64 ph, .slice (some ⟨b, off, none⟩) n c], .int .i64 k] w fun e w' => e = .returned (.int .i64 3) ∧ Below w.heap.size w w' := by
  have d0 : decide (s0 < 0) = false := decide_eq_false (by omega)
  have d1 : decide (1125899906842624 < s0) = false := decide_eq_false (by omega)
  have d2 : decide (s1 < -500000) = true := decide_eq_true h
  have hb1 : Below w.heap.size w (w.alloc (.cells #[.int .i64 ph, .slice (some ⟨b, off, none⟩) n c] 24)) := (Below.refl _ _).alloc (Nat.le_refl _) _
  have hX1 := ox_new w ph (some ⟨b, off, none⟩) n c
  obtain ⟨v, hvw⟩ : ∃ v, w.alloc (.cells #[.int .i64 ph, .slice (some ⟨b, off, none⟩) n c] 24) = v := ⟨_, rfl⟩
  rw [hvw] at hb1 hX1
  have hr1 := hr.below hb1
  have hb2 := hb1.alloc hb1.size (.cells #[.int .i64 s0, .int .i64 s1] 36)
  have hr2 := hr.below hb2
  have hX2 := hX1.alloc (.cells #[.int .i64 s0, .int .i64 s1] 36)
  have hlt := hX1.lt
  have HB := Lib.hid hb2
  obtain ⟨q0, q1⟩ := hr1.at (i := k) hk
  rw [hs0] at q0
  rw [hs1] at q1
  obtain ⟨c0, c1⟩ := hX1.cells
  obtain ⟨e0, e1⟩ := hX2.cells
  clear hb1 hX1 hr1 hb2 hX2 hr2 hr hs0 hs1
  go_enter Tryd.func25, Tryd.ntmps25
  go_wp2_with fail
  go_ret
  exact ⟨rfl, HB.out⟩
set_option maxRecDepth 100000 in
theorem rseg_3 (ph : Int) (b off n c : Nat) (f : Nat → Int × Int) (k : Nat) (s0 s1 : Int) (w : World) (hr : Rd2 w w.heap.size (some ⟨b, off, none⟩) n f) (hk : k < n) (hn : n ≤ 16) (hs0 : (f k).1 = s0) (hs1 : (f k).2 = s1) (h0 : 0 ≤ s0) (h1 : s0 ≤ 1125899906842624) (h2 : -500000 ≤ s1) (h : 500000 < s1) :
    Calls Tryd.prog 25 #[.agg #[.int .i64 ph, .slice (some ⟨b, off, none⟩) n c], .int .i64 k] w fun e w' => e = .returned (.int .i64 3) ∧ Below w.heap.size w w' := by
  have d0 : decide (s0 < 0) = false := decide_eq_false (by omega)
  have d1 : decide (1125899906842624 < s0) = false := decide_eq_false (by omega)
  have d2 : decide (s1 < -500000) = false := decide_eq_false (by omega)
  have d3 : decide (500000 < s1) = true := decide_eq_true h
  have hb1 : Below w.heap.size w (w.alloc (.cells #[.int .i64 ph, .slice (some ⟨b, off, none⟩) n c] 24)) := (Below.refl _ _).alloc (Nat.le_refl _) _
  have hX1 := ox_new w ph (some ⟨b, off, none⟩) n c
  obtain ⟨v, hvw⟩ : ∃ v, w.alloc (.cells #[.int .i64 ph, .slice (some ⟨b, off, none⟩) n c] 24) = v := ⟨_, rfl⟩
  rw [hvw] at hb1 hX1
  have hr1 := hr.below hb1
  have hb2 := hb1.alloc hb1.size (.cells #[.int .i64 s0, .int .i64 s1] 36)
  have hr2 := hr.below hb2
  have hX2 := hX1.alloc (.cells #[.int .i64 s0, .int .i64 s1] 36)
  have hlt := hX1.lt
  have HB := Lib.hid hb2
  obtain ⟨q0, q1⟩ := hr1.at (i := k) hk
  rw [hs0] at q0
  rw [hs1] at q1
  obtain ⟨c0, c1⟩ := hX1.cells
  obtain ⟨e0, e1⟩ := hX2.cells
  clear hb1 hX1 hr1 hb2 hX2 hr2 hr hs0 hs1
  go_enter Tryd.func25, Tryd.ntmps25
  go_wp2_with fail
  go_ret
  exact ⟨rfl, HB.out⟩
set_option maxRecDepth 100000 in
theorem rseg_form (ph : Int) (b off n c : Nat) (f : Nat → Int × Int)  (s0 s1 : Int) (w : World) (hr : Rd2 w w.heap.size (some ⟨b, off, none⟩) n f) (hk : 0 < n) (hn : n ≤ 16) (hs0 : (f 0).1 = s0) (hs1 : (f 0).2 = s1) (h0 : 0 ≤ s0) (h1 : s0 ≤ 1125899906842624) (h2 : -500000 ≤ s1) (h3 : s1 ≤ 500000) (h : ¬ s0 = 0) :
    Calls Tryd.prog 25 #[.agg #[.int .i64 ph, .slice (some ⟨b, off, none⟩) n c], .int .i64 0] w fun e w' => e = .returned (.int .i64 7) ∧ Below w.heap.size w w' := by
  have d0 : decide (s0 < 0) = false := decide_eq_false (by omega)
  have d1 : decide (1125899906842624 < s0) = false := decide_eq_false (by omega)
  have d2 : decide (s1 < -500000) = false := decide_eq_false (by omega)
  have d3 : decide (500000 < s1) = false := decide_eq_false (by omega)
  have e5 : (s0 != 0) = true := by simpa using h
  have hb1 : Below w.heap.size w (w.alloc (.cells #[.int .i64 ph, .slice (some ⟨b, off, none⟩) n c] 24)) := (Below.refl _ _).alloc (Nat.le_refl _) _
  have hX1 := ox_new w ph (some ⟨b, off, none⟩) n c
  obtain ⟨v, hvw⟩ : ∃ v, w.alloc (.cells #[.int .i64 ph, .slice (some ⟨b, off, none⟩) n c] 24) = v := ⟨_, rfl⟩
  rw [hvw] at hb1 hX1
  have hr1 := hr.below hb1
  have hb2 := hb1.alloc hb1.size (.cells #[.int .i64 s0, .int .i64 s1] 36)
  have hr2 := hr.below hb2
  have hX2 := hX1.alloc (.cells #[.int .i64 s0, .int .i64 s1] 36)
  have hlt := hX1.lt
  have HB := Lib.hid hb2
  obtain ⟨q0, q1⟩ := hr1.at (i := 0) hk
  rw [hs0] at q0
  rw [hs1] at q1
  simp only [Nat.zero_mul, Nat.add_zero] at q0 q1
  obtain ⟨c0, c1⟩ := hX1.cells
  obtain ⟨e0, e1⟩ := hX2.cells
  clear hb1 hX1 hr1 hb2 hX2 hr2 hr hs0 hs1
  go_enter Tryd.func25, Tryd.ntmps25
  go_wp2_with fail
  go_ret
  exact ⟨rfl, HB.out⟩
set_option maxRecDepth 100000 in
theorem rseg_first (ph : Int) (b off n c : Nat) (f : Nat → Int × Int)  (s0 s1 : Int) (w : World) (hr : Rd2 w w.heap.size (some ⟨b, off, none⟩) n f) (hk : 0 < n) (hn : n ≤ 16) (hs0 : (f 0).1 = s0) (hs1 : (f 0).2 = s1) (h0 : 0 ≤ s0) (h1 : s0 ≤ 1125899906842624) (h2 : -500000 ≤ s1) (h3 : s1 ≤ 500000) (h : s0 = 0) :
    Calls Tryd.prog 25 #[.agg #[.int .i64 ph, .slice (some ⟨b, off, none⟩) n c], .int .i64 0] w fun e w' => e = .returned (.int .i64 0) ∧ Below w.heap.size w w' := by
  have d0 : decide (s0 < 0) = false := decide_eq_false (by omega)
  have d1 : decide (1125899906842624 < s0) = false := decide_eq_false (by omega)
  have d2 : decide (s1 < -500000) = false := decide_eq_false (by omega)
  have d3 : decide (500000 < s1) = false := decide_eq_false (by omega)
  have e5 : (s0 != 0) = false := by simp [h]
  clear h
  have hb1 : Below w.heap.size w (w.alloc (.cells #[.int .i64 ph, .slice (some ⟨b, off, none⟩) n c] 24)) := (Below.refl _ _).alloc (Nat.le_refl _) _
  have hX1 := ox_new w ph (some ⟨b, off, none⟩) n c
  obtain ⟨v, hvw⟩ : ∃ v, w.alloc (.cells #[.int .i64 ph, .slice (some ⟨b, off, none⟩) n c] 24) = v := ⟨_, rfl⟩
  rw [hvw] at hb1 hX1
  have hr1 := hr.below hb1
  have hb2 := hb1.alloc hb1.size (.cells #[.int .i64 s0, .int .i64 s1] 36)
  have hr2 := hr.below hb2
  have hX2 := hX1.alloc (.cells #[.int .i64 s0, .int .i64 s1] 36)
  have hlt := hX1.lt
  have HB := Lib.hid hb2
  obtain ⟨q0, q1⟩ := hr1.at (i := 0) hk
  rw [hs0] at q0
  rw [hs1] at q1
  simp only [Nat.zero_mul, Nat.add_zero] at q0 q1
  obtain ⟨c0, c1⟩ := hX1.cells
  obtain ⟨e0, e1⟩ := hX2.cells
  clear hb1 hX1 hr1 hb2 hX2 hr2 hr hs0 hs1
  go_enter Tryd.func25, Tryd.ntmps25
  go_wp2_with fail
  go_quiet (fail)
  go_wp2_with fail
  go_ret
  exact ⟨rfl, blwn HB.out _⟩
set_option maxRecDepth 100000 in
theorem rseg_order (ph : Int) (b off n c : Nat) (f : Nat → Int × Int) (j : Nat) (p0 : Int) (s0 s1 : Int) (w : World) (hr : Rd2 w w.heap.size (some ⟨b, off, none⟩) n f) (hk : j + 1 < n) (hn : n ≤ 16) (hs0 : (f (j + 1)).1 = s0) (hs1 : (f (j + 1)).2 = s1) (hp0 : (f j).1 = p0) (h0 : 0 ≤ s0) (h1 : s0 ≤ 1125899906842624) (h2 : -500000 ≤ s1) (h3 : s1 ≤ 500000) (h : s0 ≤ p0) :
    Calls Tryd.prog 25 #[.agg #[.int .i64 ph, .slice (some ⟨b, off, none⟩) n c], .int .i64 ((j + 1 : Nat) : Int)] w fun e w' => e = .returned (.int .i64 12) ∧ Below w.heap.size w w' := by
  have d0 : decide (s0 < 0) = false := decide_eq_false (by omega)
  have d1 : decide (1125899906842624 < s0) = false := decide_eq_false (by omega)
  have d2 : decide (s1 < -500000) = false := decide_eq_false (by omega)
  have d3 : decide (500000 < s1) = false := decide_eq_false (by omega)
  have k0 : (((j + 1 : Nat) : Int) == 0) = false := by simp; omega
  have k1 : decide (0 < ((j + 1 : Nat) : Int)) = true := decide_eq_true (by omega)
  have k2 : (((j : Nat) : Int) + 1 == 0) = false := by simp; omega
  have k3 : decide (0 < ((j : Nat) : Int) + 1) = true := decide_eq_true (by omega)
  have k4 : IntKind.i64.wrap ((j : Nat) : Int) = j := IntWalk.i64_in _ (by omega)
  have e6 : decide (s0 ≤ p0) = true := decide_eq_true h
  have hb1 : Below w.heap.size w (w.alloc (.cells #[.int .i64 ph, .slice (some ⟨b, off, none⟩) n c] 24)) := (Below.refl _ _).alloc (Nat.le_refl _) _
  have hX1 := ox_new w ph (some ⟨b, off, none⟩) n c
  obtain ⟨v, hvw⟩ : ∃ v, w.alloc (.cells #[.int .i64 ph, .slice (some ⟨b, off, none⟩) n c] 24) = v := ⟨_, rfl⟩
  rw [hvw] at hb1 hX1
  have hr1 := hr.below hb1
  have hb2 := hb1.alloc hb1.size (.cells #[.int .i64 s0, .int .i64 s1] 36)
  have hr2 := hr.below hb2
  have hX2 := hX1.alloc (.cells #[.int .i64 s0, .int .i64 s1] 36)
  have hlt := hX1.lt
  have HB := Lib.hid hb2
  obtain ⟨q0, q1⟩ := hr1.at (i := j + 1) hk
  rw [hs0] at q0
  rw [hs1] at q1
  obtain ⟨y0, y1⟩ := hr2.at (i := j) (by omega)
  rw [hp0] at y0
  obtain ⟨c0, c1⟩ := hX1.cells
  obtain ⟨e0, e1⟩ := hX2.cells
  clear hb1 hX1 hr1 hb2 hX2 hr2 hr hs0 hs1
  go_enter Tryd.func25, Tryd.ntmps25
  go_wp2_with fail
  go_quiet (fail)
  go_wp2_with fail
  go_ret
  exact ⟨rfl, blwn HB.out _⟩
set_option maxRecDepth 100000 in
theorem rseg_ok (ph : Int) (b off n c : Nat) (f : Nat → Int × Int) (j : Nat) (p0 : Int) (s0 s1 : Int) (w : World) (hr : Rd2 w w.heap.size (some ⟨b, off, none⟩) n f) (hk : j + 1 < n) (hn : n ≤ 16) (hs0 : (f (j + 1)).1 = s0) (hs1 : (f (j + 1)).2 = s1) (hp0 : (f j).1 = p0) (h0 : 0 ≤ s0) (h1 : s0 ≤ 1125899906842624) (h2 : -500000 ≤ s1) (h3 : s1 ≤ 500000) (h : p0 < s0) :
    Calls Tryd.prog 25 #[.agg #[.int .i64 ph, .slice (some ⟨b, off, none⟩) n c], .int .i64 ((j + 1 : Nat) : Int)] w fun e w' => e = .returned (.int .i64 0) ∧ Below w.heap.size w w' := by
  have d0 : decide (s0 < 0) = false := decide_eq_false (by omega)
  have d1 : decide (1125899906842624 < s0) = false := decide_eq_false (by omega)
  have d2 : decide (s1 < -500000) = false := decide_eq_false (by omega)
  have d3 : decide (500000 < s1) = false := decide_eq_false (by omega)
  have k0 : (((j + 1 : Nat) : Int) == 0) = false := by simp; omega
  have k1 : decide (0 < ((j + 1 : Nat) : Int)) = true := decide_eq_true (by omega)
  have k2 : (((j : Nat) : Int) + 1 == 0) = false := by simp; omega
  have k3 : decide (0 < ((j : Nat) : Int) + 1) = true := decide_eq_true (by omega)
  have k4 : IntKind.i64.wrap ((j : Nat) : Int) = j := IntWalk.i64_in _ (by omega)
  have e6 : decide (s0 ≤ p0) = false := decide_eq_false (by omega)
  have hb1 : Below w.heap.size w (w.alloc (.cells #[.int .i64 ph, .slice (some ⟨b, off, none⟩) n c] 24)) := (Below.refl _ _).alloc (Nat.le_refl _) _
  have hX1 := ox_new w ph (some ⟨b, off, none⟩) n c
  obtain ⟨v, hvw⟩ : ∃ v, w.alloc (.cells #[.int .i64 ph, .slice (some ⟨b, off, none⟩) n c] 24) = v := ⟨_, rfl⟩
  rw [hvw] at hb1 hX1
  have hr1 := hr.below hb1
  have hb2 := hb1.alloc hb1.size (.cells #[.int .i64 s0, .int .i64 s1] 36)
  have hr2 := hr.below hb2
  have hX2 := hX1.alloc (.cells #[.int .i64 s0, .int .i64 s1] 36)
  have hlt := hX1.lt
  have HB := Lib.hid hb2
  obtain ⟨q0, q1⟩ := hr1.at (i := j + 1) hk
  rw [hs0] at q0
  rw [hs1] at q1
  obtain ⟨y0, y1⟩ := hr2.at (i := j) (by omega)
  rw [hp0] at y0
  obtain ⟨c0, c1⟩ := hX1.cells
  obtain ⟨e0, e1⟩ := hX2.cells
  clear hb1 hX1 hr1 hb2 hX2 hr2 hr hs0 hs1
  go_enter Tryd.func25, Tryd.ntmps25
  go_wp2_with fail
  go_quiet (fail)
  go_wp2_with fail
  go_ret
  exact ⟨rfl, blwn HB.out _⟩
theorem rseg_at (ph : Int) (b off n c : Nat) (f : Nat → Int × Int) (k : Nat) (w : World) (hr : Rd2 w w.heap.size (some ⟨b, off, none⟩) n f) (hk : k < n) (hn : n ≤ 16) :
    Calls Tryd.prog 25 #[.agg #[.int .i64 ph, .slice (some ⟨b, off, none⟩) n c], .int .i64 k] w fun e w' => e = .returned (.int .i64 (segE f k)) ∧ Below w.heap.size w w' := by
  by_cases ho : okS (f k)
  · obtain ⟨⟨h0, h1⟩, h2, h3⟩ := id ho
    cases k with
    | zero =>
      by_cases hz : (f 0).1 = 0
      · rw [segE_iff.2 ⟨ho, fun _ => hz, fun h => absurd h (by omega)⟩]
        exact rseg_first ph b off n c f _ _ w hr hk hn rfl rfl h0 h1 h2 h3 hz
      · rw [show segE f 0 = 7 from (if_neg (not_not_intro ho)).trans ((if_pos rfl).trans (if_neg hz))]
        exact rseg_form ph b off n c f _ _ w hr hk hn rfl rfl h0 h1 h2 h3 hz
    | succ j =>
      by_cases hi : (f (j + 1)).1 ≤ (f j).1
      · rw [show segE f (j + 1) = 12 from (if_neg (not_not_intro ho)).trans ((if_neg (by omega)).trans (if_pos hi))]
        exact rseg_order ph b off n c f j _ _ _ w hr hk hn rfl rfl rfl h0 h1 h2 h3 hi
      · rw [segE_iff.2 ⟨ho, fun h => absurd h (by omega), fun _ => by show (f j).1 < _; omega⟩]
        exact rseg_ok ph b off n c f j _ _ _ w hr hk hn rfl rfl rfl h0 h1 h2 h3 (by omega)
  · rw [show segE f k = 3 from if_pos ho]
    unfold okS at ho
    rcases Int.lt_or_le (f k).1 0 with h0 | h0
    · exact rseg_0 ph b off n c f k _ _ w hr hk hn rfl rfl h0
    · rcases Int.lt_or_le 1125899906842624 (f k).1 with h1 | h1
      · exact rseg_1 ph b off n c f k _ _ w hr hk hn rfl rfl h0 h1
      · rcases Int.lt_or_le (f k).2 (-500000) with h2 | h2
        · exact rseg_2 ph b off n c f k _ _ w hr hk hn rfl rfl h0 h1 h2
        · exact rseg_3 ph b off n c f k _ _ w hr hk hn rfl rfl h0 h1 h2 (by omega)
theorem rochk_empty (ph : Int) (a : Option Addr) (c : Nat) (w : World)  :
    Calls Tryd.prog 12 #[.agg #[.int .i64 ph, .slice a 0 c]] w fun e w' => e = .returned (.int .i64 14) ∧ Below w.heap.size w w' := by
  go_enter Tryd.func12, Tryd.ntmps12
  go_wp2
  go_ret
  exact ⟨rfl, (Below.refl _ _).alloc (Nat.le_refl _) _⟩
theorem rochk_long (ph : Int) (a : Option Addr) (n c : Nat) (w : World) (h : 16 < n) (hm : n ≤ 9223372036854775807) :
    Calls Tryd.prog 12 #[.agg #[.int .i64 ph, .slice a n c]] w fun e w' => e = .returned (.int .i64 6) ∧ Below w.heap.size w w' := by
  have n0 : ((n : Int) == 0) = false := by simp; omega
  have n1 : decide ((16 : Int) < (n : Int)) = true := decide_eq_true (by omega)
  go_enter Tryd.func12, Tryd.ntmps12
  go_wp2
  go_ret
  exact ⟨rfl, (Below.refl _ _).alloc (Nat.le_refl _) _⟩
theorem rochk_low (ph : Int) (a : Option Addr) (n c : Nat) (w : World) (h0 : 0 < n) (h1 : n ≤ 16) (h : ph < -1125899906842624) :
    Calls Tryd.prog 12 #[.agg #[.int .i64 ph, .slice a n c]] w fun e w' => e = .returned (.int .i64 3) ∧ Below w.heap.size w w' := by
  have n0 : ((n : Int) == 0) = false := by simp; omega
  have n1 : decide ((16 : Int) < (n : Int)) = false := decide_eq_false (by omega)
  have p0 : decide (ph < -1125899906842624) = true := decide_eq_true h
  go_enter Tryd.func12, Tryd.ntmps12
  go_wp2
  go_ret
  exact ⟨rfl, (Below.refl _ _).alloc (Nat.le_refl _) _⟩
theorem rochk_high (ph : Int) (a : Option Addr) (n c : Nat) (w : World) (h0 : 0 < n) (h1 : n ≤ 16) (h : 1125899906842624 < ph) :
    Calls Tryd.prog 12 #[.agg #[.int .i64 ph, .slice a n c]] w fun e w' => e = .returned (.int .i64 3) ∧ Below w.heap.size w w' := by
  have n0 : ((n : Int) == 0) = false := by simp; omega
  have n1 : decide ((16 : Int) < (n : Int)) = false := decide_eq_false (by omega)
  have p0 : decide (ph < -1125899906842624) = false := decide_eq_false (by omega)
  have p1 : decide (1125899906842624 < ph) = true := decide_eq_true h
  go_enter Tryd.func12, Tryd.ntmps12
  go_wp2
  go_ret
  exact ⟨rfl, (Below.refl _ _).alloc (Nat.le_refl _) _⟩
/-- The box of an oscillator, its segments, and what lies below. -/
def Oc.Ow (w : World) (D G : Nat) (ph : Int) (a : Option Addr) (n c : Nat) (f : Nat → Int × Int) (wr : World) : Prop := OX wr G ph a n c ∧ Rd2 wr D a n f ∧ Below D w wr
theorem Oc.Ow.below {w wr wx : World} {D G : Nat} {ph : Int} {a : Option Addr} {n c : Nat} {f : Nat → Int × Int} (h : Ow w D G ph a n c f wr) (hD : D ≤ wr.heap.size) (hb : Below wr.heap.size wr wx) : Ow w D G ph a n c f wx := by
  obtain ⟨h1, h2, h3⟩ := h
  exact ⟨h1.below hb h1.lt, h2.below (hb.mono hD), h3.trans (hb.mono hD)⟩
set_option maxRecDepth 100000 in
set_option maxHeartbeats 1000000 in
theorem rochk_segs (ph : Int) (a : Option Addr) (n c : Nat) (f : Nat → Int × Int) (w : World) (hr : Rd2 w w.heap.size a n f) (h0 : 0 < n) (h1 : n ≤ 16) (p0 : -1125899906842624 ≤ ph) (p1 : ph ≤ 1125899906842624) :
    Calls Tryd.prog 12 #[.agg #[.int .i64 ph, .slice a n c]] w fun e w' => e = .returned (.int .i64 (firstE f n)) ∧ Below w.heap.size w w' := by
  have n0 : ((n : Int) == 0) = false := by simp; omega
  have n1 : decide ((16 : Int) < (n : Int)) = false := decide_eq_false (by omega)
  have d0 : decide (ph < -1125899906842624) = false := decide_eq_false (by omega)
  have d1 : decide (1125899906842624 < ph) = false := decide_eq_false (by omega)
  obtain ⟨b, off, rfl, hbD⟩ := hr.ptr h0
  have hb1 : Below w.heap.size w (w.alloc (.cells #[.int .i64 ph, .slice (some ⟨b, off, none⟩) n c] 24)) := (Below.refl _ _).alloc (Nat.le_refl _) _
  have hX1 := ox_new w ph (some ⟨b, off, none⟩) n c
  obtain ⟨v, hvw⟩ : ∃ v, w.alloc (.cells #[.int .i64 ph, .slice (some ⟨b, off, none⟩) n c] 24) = v := ⟨_, rfl⟩
  rw [hvw] at hb1 hX1
  have hr1 := hr.below hb1
  obtain ⟨c0, c1⟩ := hX1.cells
  have HI : Hid (firstE f 0 = 0 ∧ Ow w w.heap.size w.heap.size ph (some ⟨b, off, none⟩) n c f v) := Lib.hid ⟨rfl, hX1, hr1, hb1⟩
  clear hb1 hX1 hr1 hr
  go_enter Tryd.func12, Tryd.ntmps12
  go_wp2_with fail
  clear hvw c0 c1
  go_loopw [3, 4] (fun i _ wr => ∃ k : Nat, k ≤ n ∧ i = .int .i64 k ∧ Hid (firstE f k = 0 ∧ Ow w w.heap.size w.heap.size ph (some ⟨b, off, none⟩) n c f wr)) (fun i _ _ => n - (intOf i).toNat)
  case atStart => exact ⟨0, by omega, rfl, HI⟩
  case round =>
    clear HI
    obtain ⟨k, hk, rfl, HT⟩ := hrel
    obtain ⟨hf, how⟩ := HT.out
    have HF := Lib.hid hf
    have HO := Lib.hid how
    obtain ⟨c0, c1⟩ := how.1.cells
    have hsz := how.2.2.size
    clear hf how HT
    by_cases hlt2 : k < n
    · go_wp2_with fail
      refine (rseg_at ph b off n c f k wr (HO.out.2.1.mono hsz) hlt2 h1).mono ?_
      rintro e x2 ⟨rfl, hb⟩
      have HO2 := Lib.hid (HO.out.below hsz hb)
      clear hb HO c0 c1
      by_cases he : segE f k = 0
      · have HF2 : Hid (firstE f (k + 1) = 0) := Lib.hid (by unfold firstE; rw [if_pos HF.out]; exact he)
        rw [he]
        clear he
        go_wp2_with fail
        go_roundw
        case rel => exact ⟨k + 1, by omega, by go_num, Lib.hid ⟨HF2.out, HO2.out⟩⟩
        case measure => simp [intOf]; omega
      · have hfe := firstE_at HF.out he hlt2
        obtain ⟨E, hE⟩ : ∃ E, segE f k = E := ⟨_, rfl⟩
        rw [hE] at hfe
        have HE := Lib.hid hfe
        rw [hE] at he ⊢
        have k0 : (E == 0) = false := by simpa using he
        have k1 : (E != 0) = true := by simpa using he
        clear hE he hfe
        go_wp2_with fail
        go_ret
        exact ⟨ret1 HE.out.symm, HO2.out.2.2⟩
    · obtain rfl : n = k := by omega
      go_wp2_with fail
      go_ret
      exact ⟨ret1 HF.out.symm, HO.out.2.2⟩
/-- Check of the specification. -/
theorem rochk_any (ph : Int) (a : Option Addr) (n c : Nat) (f : Nat → Int × Int) (w : World) (hr : Rd2 w w.heap.size a n f) (hm : n ≤ 9223372036854775807) :
    Calls Tryd.prog 12 #[.agg #[.int .i64 ph, .slice a n c]] w fun e w' => e = .returned (.int .i64 (chk ph n f)) ∧ Below w.heap.size w w' := by
  unfold chk
  by_cases h : n = 0
  · subst h; rw [if_pos rfl]; exact rochk_empty ph a c w
  · rw [if_neg h]
    by_cases h1 : 16 < n
    · rw [if_pos h1]; exact rochk_long ph a n c w h1 hm
    · rw [if_neg h1]
      by_cases h3 : ph < -1125899906842624 ∨ 1125899906842624 < ph
      · rw [if_pos h3]
        rcases h3 with h3 | h3
        · exact rochk_low ph a n c w (by omega) (by omega) h3
        · exact rochk_high ph a n c w (by omega) (by omega) h3
      · rw [if_neg h3]
        exact rochk_segs ph a n c f w hr (by omega) (by omega) (by omega) (by omega)
end Go.Proofs.YtfhphgeanpmgaaaDoor
