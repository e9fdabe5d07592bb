/- Contracts of layer 6: first seconds of months, changes. -/
import Derived.Test.YtegpajdahanhfaaGreatDoorLeaA
namespace Go.Proofs.YtegpajdahanhfaaGreatDoor
open Go.RowKit Fx Cv Lp

theorem Lp.LRd.at {w : World} {D : Nat} {b off : Nat} {n : Nat} {f : Nat → Int × Int} (h : LRd w D (some ⟨b, off, none⟩) n f) {i : Nat} (hi : i < n) :
    w.cell? ⟨b, off + i * 2, none⟩ = some (.int .i64 (f i).1) ∧ w.cell? ⟨b, off + i * 2 + 1, none⟩ = some (.int .i64 (f i).2) := by
  obtain ⟨b', off', he, _, hc⟩ := h (by omega)
  injection he with he; injection he with h1 h2; subst h1 h2
  exact hc i hi
theorem Lp.LRd.some {w : World} {D : Nat} {a : Option Addr} {n : Nat} {f : Nat → Int × Int} (h : LRd w D a n f) (hn : 0 < n) : ∃ b off, a = some ⟨b, off, none⟩ ∧ b < D := by
  obtain ⟨b, off, h1, h2, _⟩ := h hn
  exact ⟨b, off, h1, h2⟩
set_option maxRecDepth 100000 in
theorem beginsmonth_0 (t : Int) (w : World) (ht : MT w) (h : inS t = false) :
    Calls Tryz.prog 52 #[.int .i64 t] w fun e w' => e = .returned (.bool false) ∧ Below w.heap.size w w' := by
  have BB0 := Lib.hid (Below.refl w.heap.size w)
  have HI := Lib.hid h
  have HT := Lib.hid ht
  clear ht
  clear h
  go_enter Tryz.func52, Tryz.ntmps52
  go_wp2_with fail
  refine (pof_no t _ HI.out).mono ?_
  rintro e w1 ⟨rfl, hb⟩
  have B1 := Lib.hid (BB0.out.trans (hb.mono BB0.out.size))
  have hz1 := hb.size
  clear hb BB0
  have Ya2 := Lib.hid (bx7_new w1 0 0 0 0 0 0 0)
  have D2 := Lib.hid (B1.out.alloc B1.out.size (.cells #[.int .i64 0, .int .i64 0, .int .i64 0, .int .i64 0, .int .i64 0, .int .i64 0, .int .i64 0] 48))
  have hs2 := B1.out.size
  have r2_0 := Ya2.out.cells.1
  have g2_0 := Ya2.out.thaw.1
  have Na2_0 := Lib.hid (Ya2.out.set0 0)
  have E2_0 := Lib.hid (below_set (C := w1.heap.size) (i := 0) D2.out (by omega) (.int .i64 0))
  obtain ⟨S2_0, hS2_0⟩ : ∃ W, (w1.alloc (.cells #[.int .i64 0, .int .i64 0, .int .i64 0, .int .i64 0, .int .i64 0, .int .i64 0, .int .i64 0] 48)).setCell ⟨w1.heap.size, 0, none⟩ (.int .i64 0) = W := ⟨_, rfl⟩
  rw [hS2_0] at Na2_0 E2_0
  clear Ya2 D2
  have r2_1 := Na2_0.out.cells.2.1
  have g2_1 := Na2_0.out.thaw.2.1
  have Na2_1 := Lib.hid (Na2_0.out.set1 0)
  have E2_1 := Lib.hid (below_set (C := w1.heap.size) (i := 1) E2_0.out (by omega) (.int .i64 0))
  obtain ⟨S2_1, hS2_1⟩ : ∃ W, S2_0.setCell ⟨w1.heap.size, 1, none⟩ (.int .i64 0) = W := ⟨_, rfl⟩
  rw [hS2_1] at Na2_1 E2_1
  clear Na2_0 E2_0
  have r2_2 := Na2_1.out.cells.2.2.1
  have g2_2 := Na2_1.out.thaw.2.2.1
  have Na2_2 := Lib.hid (Na2_1.out.set2 0)
  have E2_2 := Lib.hid (below_set (C := w1.heap.size) (i := 2) E2_1.out (by omega) (.int .i64 0))
  obtain ⟨S2_2, hS2_2⟩ : ∃ W, S2_1.setCell ⟨w1.heap.size, 2, none⟩ (.int .i64 0) = W := ⟨_, rfl⟩
  rw [hS2_2] at Na2_2 E2_2
  clear Na2_1 E2_1
  have r2_3 := Na2_2.out.cells.2.2.2.1
  have g2_3 := Na2_2.out.thaw.2.2.2.1
  have Na2_3 := Lib.hid (Na2_2.out.set3 0)
  have E2_3 := Lib.hid (below_set (C := w1.heap.size) (i := 3) E2_2.out (by omega) (.int .i64 0))
  obtain ⟨S2_3, hS2_3⟩ : ∃ W, S2_2.setCell ⟨w1.heap.size, 3, none⟩ (.int .i64 0) = W := ⟨_, rfl⟩
  rw [hS2_3] at Na2_3 E2_3
  clear Na2_2 E2_2
  have r2_4 := Na2_3.out.cells.2.2.2.2.1
  have g2_4 := Na2_3.out.thaw.2.2.2.2.1
  have Na2_4 := Lib.hid (Na2_3.out.set4 0)
  have E2_4 := Lib.hid (below_set (C := w1.heap.size) (i := 4) E2_3.out (by omega) (.int .i64 0))
  obtain ⟨S2_4, hS2_4⟩ : ∃ W, S2_3.setCell ⟨w1.heap.size, 4, none⟩ (.int .i64 0) = W := ⟨_, rfl⟩
  rw [hS2_4] at Na2_4 E2_4
  clear Na2_3 E2_3
  have r2_5 := Na2_4.out.cells.2.2.2.2.2.1
  have g2_5 := Na2_4.out.thaw.2.2.2.2.2.1
  have Na2_5 := Lib.hid (Na2_4.out.set5 0)
  have E2_5 := Lib.hid (below_set (C := w1.heap.size) (i := 5) E2_4.out (by omega) (.int .i64 0))
  obtain ⟨S2_5, hS2_5⟩ : ∃ W, S2_4.setCell ⟨w1.heap.size, 5, none⟩ (.int .i64 0) = W := ⟨_, rfl⟩
  rw [hS2_5] at Na2_5 E2_5
  clear Na2_4 E2_4
  have r2_6 := Na2_5.out.cells.2.2.2.2.2.2
  have g2_6 := Na2_5.out.thaw.2.2.2.2.2.2
  have Na2_6 := Lib.hid (Na2_5.out.set6 0)
  have E2_6 := Lib.hid (below_set (C := w1.heap.size) (i := 6) E2_5.out (by omega) (.int .i64 0))
  obtain ⟨S2_6, hS2_6⟩ : ∃ W, S2_5.setCell ⟨w1.heap.size, 6, none⟩ (.int .i64 0) = W := ⟨_, rfl⟩
  rw [hS2_6] at Na2_6 E2_6
  clear Na2_5 E2_5
  clear B1
  obtain ⟨c3_0, c3_1, c3_2, c3_3, c3_4, c3_5, c3_6⟩ := Na2_6.out.cells
  go_wp2_with fail
  clear hs2 r2_0 g2_0 hS2_0 r2_1 g2_1 hS2_1 r2_2 g2_2 hS2_2 r2_3 g2_3 hS2_3 r2_4 g2_4 hS2_4 r2_5 g2_5 hS2_5 r2_6 g2_6 hS2_6 c3_0 c3_1 c3_2 c3_3 c3_4 c3_5 c3_6
  go_ret
  exact ⟨rfl, E2_6.out⟩
set_option maxRecDepth 100000 in
theorem beginsmonth_1 (t : Int) (w : World) (ht : MT w) (h : inS t = true) (e0 : ¬ oD t = 1) :
    Calls Tryz.prog 52 #[.int .i64 t] w fun e w' => e = .returned (.bool false) ∧ Below w.heap.size w w' := by
  have BB0 := Lib.hid (Below.refl w.heap.size w)
  have HI := Lib.hid h
  have HT := Lib.hid ht
  clear ht
  obtain ⟨Y, hY⟩ : ∃ x, oY t = x := ⟨_, rfl⟩
  obtain ⟨M, hM⟩ : ∃ x, oM t = x := ⟨_, rfl⟩
  obtain ⟨D, hD⟩ : ∃ x, oD t = x := ⟨_, rfl⟩
  obtain ⟨H, hH⟩ : ∃ x, oH t = x := ⟨_, rfl⟩
  obtain ⟨I, hI⟩ : ∃ x, oI t = x := ⟨_, rfl⟩
  obtain ⟨S, hS⟩ : ∃ x, oS t = x := ⟨_, rfl⟩
  have HO : Hid (∀ u : World, MT u → Calls Tryz.prog 26 #[.int .i64 t] u fun e w' => e = .returned (.tuple #[.agg #[.int .i64 Y, .int .i64 M, .int .i64 D, .int .i64 H, .int .i64 I, .int .i64 S, .int .i64 0], .int .i64 0]) ∧ Below u.heap.size u w') := Lib.hid (fun u hu => by
    have h := pof_ok t u hu HI.out
    rw [hY, hM, hD, hH, hI, hS] at h; exact h)
  rw [hD] at e0
  have g1 : decide (D = 1) = false := decide_eq_false e0
  have g2 : (D == 1) = false := by simpa using e0
  clear h
  clear hY
  clear hM
  clear hD
  clear hH
  clear hI
  clear hS
  go_enter Tryz.func52, Tryz.ntmps52
  go_wp2_with fail
  refine (HO.out _ HT.out ).mono ?_
  rintro e w1 ⟨rfl, hb⟩
  have B1 := Lib.hid (BB0.out.trans (hb.mono BB0.out.size))
  have hz1 := hb.size
  clear hb BB0
  have Ya2 := Lib.hid (bx7_new w1 0 0 0 0 0 0 0)
  have D2 := Lib.hid (B1.out.alloc B1.out.size (.cells #[.int .i64 0, .int .i64 0, .int .i64 0, .int .i64 0, .int .i64 0, .int .i64 0, .int .i64 0] 48))
  have hs2 := B1.out.size
  have r2_0 := Ya2.out.cells.1
  have g2_0 := Ya2.out.thaw.1
  have Na2_0 := Lib.hid (Ya2.out.set0 Y)
  have E2_0 := Lib.hid (below_set (C := w1.heap.size) (i := 0) D2.out (by omega) (.int .i64 Y))
  obtain ⟨S2_0, hS2_0⟩ : ∃ W, (w1.alloc (.cells #[.int .i64 0, .int .i64 0, .int .i64 0, .int .i64 0, .int .i64 0, .int .i64 0, .int .i64 0] 48)).setCell ⟨w1.heap.size, 0, none⟩ (.int .i64 Y) = W := ⟨_, rfl⟩
  rw [hS2_0] at Na2_0 E2_0
  clear Ya2 D2
  have r2_1 := Na2_0.out.cells.2.1
  have g2_1 := Na2_0.out.thaw.2.1
  have Na2_1 := Lib.hid (Na2_0.out.set1 M)
  have E2_1 := Lib.hid (below_set (C := w1.heap.size) (i := 1) E2_0.out (by omega) (.int .i64 M))
  obtain ⟨S2_1, hS2_1⟩ : ∃ W, S2_0.setCell ⟨w1.heap.size, 1, none⟩ (.int .i64 M) = W := ⟨_, rfl⟩
  rw [hS2_1] at Na2_1 E2_1
  clear Na2_0 E2_0
  have r2_2 := Na2_1.out.cells.2.2.1
  have g2_2 := Na2_1.out.thaw.2.2.1
  have Na2_2 := Lib.hid (Na2_1.out.set2 D)
  have E2_2 := Lib.hid (below_set (C := w1.heap.size) (i := 2) E2_1.out (by omega) (.int .i64 D))
  obtain ⟨S2_2, hS2_2⟩ : ∃ W, S2_1.setCell ⟨w1.heap.size, 2, none⟩ (.int .i64 D) = W := ⟨_, rfl⟩
  rw [hS2_2] at Na2_2 E2_2
  clear Na2_1 E2_1
  have r2_3 := Na2_2.out.cells.2.2.2.1
  have g2_3 := Na2_2.out.thaw.2.2.2.1
  have Na2_3 := Lib.hid (Na2_2.out.set3 H)
  have E2_3 := Lib.hid (below_set (C := w1.heap.size) (i := 3) E2_2.out (by omega) (.int .i64 H))
  obtain ⟨S2_3, hS2_3⟩ : ∃ W, S2_2.setCell ⟨w1.heap.size, 3, none⟩ (.int .i64 H) = W := ⟨_, rfl⟩
  rw [hS2_3] at Na2_3 E2_3
  clear Na2_2 E2_2
  have r2_4 := Na2_3.out.cells.2.2.2.2.1
  have g2_4 := Na2_3.out.thaw.2.2.2.2.1
  have Na2_4 := Lib.hid (Na2_3.out.set4 I)
  have E2_4 := Lib.hid (below_set (C := w1.heap.size) (i := 4) E2_3.out (by omega) (.int .i64 I))
  obtain ⟨S2_4, hS2_4⟩ : ∃ W, S2_3.setCell ⟨w1.heap.size, 4, none⟩ (.int .i64 I) = W := ⟨_, rfl⟩
  rw [hS2_4] at Na2_4 E2_4
  clear Na2_3 E2_3
  have r2_5 := Na2_4.out.cells.2.2.2.2.2.1
  have g2_5 := Na2_4.out.thaw.2.2.2.2.2.1
  have Na2_5 := Lib.hid (Na2_4.out.set5 S)
  have E2_5 := Lib.hid (below_set (C := w1.heap.size) (i := 5) E2_4.out (by omega) (.int .i64 S))
  obtain ⟨S2_5, hS2_5⟩ : ∃ W, S2_4.setCell ⟨w1.heap.size, 5, none⟩ (.int .i64 S) = W := ⟨_, rfl⟩
  rw [hS2_5] at Na2_5 E2_5
  clear Na2_4 E2_4
  have r2_6 := Na2_5.out.cells.2.2.2.2.2.2
  have g2_6 := Na2_5.out.thaw.2.2.2.2.2.2
  have Na2_6 := Lib.hid (Na2_5.out.set6 0)
  have E2_6 := Lib.hid (below_set (C := w1.heap.size) (i := 6) E2_5.out (by omega) (.int .i64 0))
  obtain ⟨S2_6, hS2_6⟩ : ∃ W, S2_5.setCell ⟨w1.heap.size, 6, none⟩ (.int .i64 0) = W := ⟨_, rfl⟩
  rw [hS2_6] at Na2_6 E2_6
  clear Na2_5 E2_5
  clear B1
  obtain ⟨c3_0, c3_1, c3_2, c3_3, c3_4, c3_5, c3_6⟩ := Na2_6.out.cells
  go_wp2_with fail
  clear hs2 r2_0 g2_0 hS2_0 r2_1 g2_1 hS2_1 r2_2 g2_2 hS2_2 r2_3 g2_3 hS2_3 r2_4 g2_4 hS2_4 r2_5 g2_5 hS2_5 r2_6 g2_6 hS2_6 c3_0 c3_1 c3_2 c3_3 c3_4 c3_5 c3_6
  go_ret
  exact ⟨rfl, E2_6.out⟩
set_option maxRecDepth 100000 in
theorem beginsmonth_2 (t : Int) (w : World) (ht : MT w) (h : inS t = true) (e0 : oD t = 1) (e1 : ¬ oH t = 0) :
    Calls Tryz.prog 52 #[.int .i64 t] w fun e w' => e = .returned (.bool false) ∧ Below w.heap.size w w' := by
  have BB0 := Lib.hid (Below.refl w.heap.size w)
  have HI := Lib.hid h
  have HT := Lib.hid ht
  clear ht
  obtain ⟨Y, hY⟩ : ∃ x, oY t = x := ⟨_, rfl⟩
  obtain ⟨M, hM⟩ : ∃ x, oM t = x := ⟨_, rfl⟩
  obtain ⟨D, hD⟩ : ∃ x, oD t = x := ⟨_, rfl⟩
  obtain ⟨H, hH⟩ : ∃ x, oH t = x := ⟨_, rfl⟩
  obtain ⟨I, hI⟩ : ∃ x, oI t = x := ⟨_, rfl⟩
  obtain ⟨S, hS⟩ : ∃ x, oS t = x := ⟨_, rfl⟩
  have HO : Hid (∀ u : World, MT u → Calls Tryz.prog 26 #[.int .i64 t] u fun e w' => e = .returned (.tuple #[.agg #[.int .i64 Y, .int .i64 M, .int .i64 D, .int .i64 H, .int .i64 I, .int .i64 S, .int .i64 0], .int .i64 0]) ∧ Below u.heap.size u w') := Lib.hid (fun u hu => by
    have h := pof_ok t u hu HI.out
    rw [hY, hM, hD, hH, hI, hS] at h; exact h)
  rw [hD] at e0
  subst e0
  rw [hH] at e1
  have g1 : decide (H = 0) = false := decide_eq_false e1
  have g2 : (H == 0) = false := by simpa using e1
  clear h
  clear hY
  clear hM
  clear hD
  clear hH
  clear hI
  clear hS
  go_enter Tryz.func52, Tryz.ntmps52
  go_wp2_with fail
  refine (HO.out _ HT.out ).mono ?_
  rintro e w1 ⟨rfl, hb⟩
  have B1 := Lib.hid (BB0.out.trans (hb.mono BB0.out.size))
  have hz1 := hb.size
  clear hb BB0
  have Ya2 := Lib.hid (bx7_new w1 0 0 0 0 0 0 0)
  have D2 := Lib.hid (B1.out.alloc B1.out.size (.cells #[.int .i64 0, .int .i64 0, .int .i64 0, .int .i64 0, .int .i64 0, .int .i64 0, .int .i64 0] 48))
  have hs2 := B1.out.size
  have r2_0 := Ya2.out.cells.1
  have g2_0 := Ya2.out.thaw.1
  have Na2_0 := Lib.hid (Ya2.out.set0 Y)
  have E2_0 := Lib.hid (below_set (C := w1.heap.size) (i := 0) D2.out (by omega) (.int .i64 Y))
  obtain ⟨S2_0, hS2_0⟩ : ∃ W, (w1.alloc (.cells #[.int .i64 0, .int .i64 0, .int .i64 0, .int .i64 0, .int .i64 0, .int .i64 0, .int .i64 0] 48)).setCell ⟨w1.heap.size, 0, none⟩ (.int .i64 Y) = W := ⟨_, rfl⟩
  rw [hS2_0] at Na2_0 E2_0
  clear Ya2 D2
  have r2_1 := Na2_0.out.cells.2.1
  have g2_1 := Na2_0.out.thaw.2.1
  have Na2_1 := Lib.hid (Na2_0.out.set1 M)
  have E2_1 := Lib.hid (below_set (C := w1.heap.size) (i := 1) E2_0.out (by omega) (.int .i64 M))
  obtain ⟨S2_1, hS2_1⟩ : ∃ W, S2_0.setCell ⟨w1.heap.size, 1, none⟩ (.int .i64 M) = W := ⟨_, rfl⟩
  rw [hS2_1] at Na2_1 E2_1
  clear Na2_0 E2_0
  have r2_2 := Na2_1.out.cells.2.2.1
  have g2_2 := Na2_1.out.thaw.2.2.1
  have Na2_2 := Lib.hid (Na2_1.out.set2 1)
  have E2_2 := Lib.hid (below_set (C := w1.heap.size) (i := 2) E2_1.out (by omega) (.int .i64 1))
  obtain ⟨S2_2, hS2_2⟩ : ∃ W, S2_1.setCell ⟨w1.heap.size, 2, none⟩ (.int .i64 1) = W := ⟨_, rfl⟩
  rw [hS2_2] at Na2_2 E2_2
  clear Na2_1 E2_1
  have r2_3 := Na2_2.out.cells.2.2.2.1
  have g2_3 := Na2_2.out.thaw.2.2.2.1
  have Na2_3 := Lib.hid (Na2_2.out.set3 H)
  have E2_3 := Lib.hid (below_set (C := w1.heap.size) (i := 3) E2_2.out (by omega) (.int .i64 H))
  obtain ⟨S2_3, hS2_3⟩ : ∃ W, S2_2.setCell ⟨w1.heap.size, 3, none⟩ (.int .i64 H) = W := ⟨_, rfl⟩
  rw [hS2_3] at Na2_3 E2_3
  clear Na2_2 E2_2
  have r2_4 := Na2_3.out.cells.2.2.2.2.1
  have g2_4 := Na2_3.out.thaw.2.2.2.2.1
  have Na2_4 := Lib.hid (Na2_3.out.set4 I)
  have E2_4 := Lib.hid (below_set (C := w1.heap.size) (i := 4) E2_3.out (by omega) (.int .i64 I))
  obtain ⟨S2_4, hS2_4⟩ : ∃ W, S2_3.setCell ⟨w1.heap.size, 4, none⟩ (.int .i64 I) = W := ⟨_, rfl⟩
  rw [hS2_4] at Na2_4 E2_4
  clear Na2_3 E2_3
  have r2_5 := Na2_4.out.cells.2.2.2.2.2.1
  have g2_5 := Na2_4.out.thaw.2.2.2.2.2.1
  have Na2_5 := Lib.hid (Na2_4.out.set5 S)
  have E2_5 := Lib.hid (below_set (C := w1.heap.size) (i := 5) E2_4.out (by omega) (.int .i64 S))
  obtain ⟨S2_5, hS2_5⟩ : ∃ W, S2_4.setCell ⟨w1.heap.size, 5, none⟩ (.int .i64 S) = W := ⟨_, rfl⟩
  rw [hS2_5] at Na2_5 E2_5
  clear Na2_4 E2_4
  have r2_6 := Na2_5.out.cells.2.2.2.2.2.2
  have g2_6 := Na2_5.out.thaw.2.2.2.2.2.2
  have Na2_6 := Lib.hid (Na2_5.out.set6 0)
  have E2_6 := Lib.hid (below_set (C := w1.heap.size) (i := 6) E2_5.out (by omega) (.int .i64 0))
  obtain ⟨S2_6, hS2_6⟩ : ∃ W, S2_5.setCell ⟨w1.heap.size, 6, none⟩ (.int .i64 0) = W := ⟨_, rfl⟩
  rw [hS2_6] at Na2_6 E2_6
  clear Na2_5 E2_5
  clear B1
  obtain ⟨c3_0, c3_1, c3_2, c3_3, c3_4, c3_5, c3_6⟩ := Na2_6.out.cells
  go_wp2_with fail
  clear hs2 r2_0 g2_0 hS2_0 r2_1 g2_1 hS2_1 r2_2 g2_2 hS2_2 r2_3 g2_3 hS2_3 r2_4 g2_4 hS2_4 r2_5 g2_5 hS2_5 r2_6 g2_6 hS2_6 c3_0 c3_1 c3_2 c3_3 c3_4 c3_5 c3_6
  go_ret
  exact ⟨rfl, E2_6.out⟩
set_option maxRecDepth 100000 in
theorem beginsmonth_3 (t : Int) (w : World) (ht : MT w) (h : inS t = true) (e0 : oD t = 1) (e1 : oH t = 0) (e2 : ¬ oI t = 0) :
    Calls Tryz.prog 52 #[.int .i64 t] w fun e w' => e = .returned (.bool false) ∧ Below w.heap.size w w' := by
  have BB0 := Lib.hid (Below.refl w.heap.size w)
  have HI := Lib.hid h
  have HT := Lib.hid ht
  clear ht
  obtain ⟨Y, hY⟩ : ∃ x, oY t = x := ⟨_, rfl⟩
  obtain ⟨M, hM⟩ : ∃ x, oM t = x := ⟨_, rfl⟩
  obtain ⟨D, hD⟩ : ∃ x, oD t = x := ⟨_, rfl⟩
  obtain ⟨H, hH⟩ : ∃ x, oH t = x := ⟨_, rfl⟩
  obtain ⟨I, hI⟩ : ∃ x, oI t = x := ⟨_, rfl⟩
  obtain ⟨S, hS⟩ : ∃ x, oS t = x := ⟨_, rfl⟩
  have HO : Hid (∀ u : World, MT u → Calls Tryz.prog 26 #[.int .i64 t] u fun e w' => e = .returned (.tuple #[.agg #[.int .i64 Y, .int .i64 M, .int .i64 D, .int .i64 H, .int .i64 I, .int .i64 S, .int .i64 0], .int .i64 0]) ∧ Below u.heap.size u w') := Lib.hid (fun u hu => by
    have h := pof_ok t u hu HI.out
    rw [hY, hM, hD, hH, hI, hS] at h; exact h)
  rw [hD] at e0
  subst e0
  rw [hH] at e1
  subst e1
  rw [hI] at e2
  have g1 : decide (I = 0) = false := decide_eq_false e2
  have g2 : (I == 0) = false := by simpa using e2
  clear h
  clear hY
  clear hM
  clear hD
  clear hH
  clear hI
  clear hS
  go_enter Tryz.func52, Tryz.ntmps52
  go_wp2_with fail
  refine (HO.out _ HT.out ).mono ?_
  rintro e w1 ⟨rfl, hb⟩
  have B1 := Lib.hid (BB0.out.trans (hb.mono BB0.out.size))
  have hz1 := hb.size
  clear hb BB0
  have Ya2 := Lib.hid (bx7_new w1 0 0 0 0 0 0 0)
  have D2 := Lib.hid (B1.out.alloc B1.out.size (.cells #[.int .i64 0, .int .i64 0, .int .i64 0, .int .i64 0, .int .i64 0, .int .i64 0, .int .i64 0] 48))
  have hs2 := B1.out.size
  have r2_0 := Ya2.out.cells.1
  have g2_0 := Ya2.out.thaw.1
  have Na2_0 := Lib.hid (Ya2.out.set0 Y)
  have E2_0 := Lib.hid (below_set (C := w1.heap.size) (i := 0) D2.out (by omega) (.int .i64 Y))
  obtain ⟨S2_0, hS2_0⟩ : ∃ W, (w1.alloc (.cells #[.int .i64 0, .int .i64 0, .int .i64 0, .int .i64 0, .int .i64 0, .int .i64 0, .int .i64 0] 48)).setCell ⟨w1.heap.size, 0, none⟩ (.int .i64 Y) = W := ⟨_, rfl⟩
  rw [hS2_0] at Na2_0 E2_0
  clear Ya2 D2
  have r2_1 := Na2_0.out.cells.2.1
  have g2_1 := Na2_0.out.thaw.2.1
  have Na2_1 := Lib.hid (Na2_0.out.set1 M)
  have E2_1 := Lib.hid (below_set (C := w1.heap.size) (i := 1) E2_0.out (by omega) (.int .i64 M))
  obtain ⟨S2_1, hS2_1⟩ : ∃ W, S2_0.setCell ⟨w1.heap.size, 1, none⟩ (.int .i64 M) = W := ⟨_, rfl⟩
  rw [hS2_1] at Na2_1 E2_1
  clear Na2_0 E2_0
  have r2_2 := Na2_1.out.cells.2.2.1
  have g2_2 := Na2_1.out.thaw.2.2.1
  have Na2_2 := Lib.hid (Na2_1.out.set2 1)
  have E2_2 := Lib.hid (below_set (C := w1.heap.size) (i := 2) E2_1.out (by omega) (.int .i64 1))
  obtain ⟨S2_2, hS2_2⟩ : ∃ W, S2_1.setCell ⟨w1.heap.size, 2, none⟩ (.int .i64 1) = W := ⟨_, rfl⟩
  rw [hS2_2] at Na2_2 E2_2
  clear Na2_1 E2_1
  have r2_3 := Na2_2.out.cells.2.2.2.1
  have g2_3 := Na2_2.out.thaw.2.2.2.1
  have Na2_3 := Lib.hid (Na2_2.out.set3 0)
  have E2_3 := Lib.hid (below_set (C := w1.heap.size) (i := 3) E2_2.out (by omega) (.int .i64 0))
  obtain ⟨S2_3, hS2_3⟩ : ∃ W, S2_2.setCell ⟨w1.heap.size, 3, none⟩ (.int .i64 0) = W := ⟨_, rfl⟩
  rw [hS2_3] at Na2_3 E2_3
  clear Na2_2 E2_2
  have r2_4 := Na2_3.out.cells.2.2.2.2.1
  have g2_4 := Na2_3.out.thaw.2.2.2.2.1
  have Na2_4 := Lib.hid (Na2_3.out.set4 I)
  have E2_4 := Lib.hid (below_set (C := w1.heap.size) (i := 4) E2_3.out (by omega) (.int .i64 I))
  obtain ⟨S2_4, hS2_4⟩ : ∃ W, S2_3.setCell ⟨w1.heap.size, 4, none⟩ (.int .i64 I) = W := ⟨_, rfl⟩
  rw [hS2_4] at Na2_4 E2_4
  clear Na2_3 E2_3
  have r2_5 := Na2_4.out.cells.2.2.2.2.2.1
  have g2_5 := Na2_4.out.thaw.2.2.2.2.2.1
  have Na2_5 := Lib.hid (Na2_4.out.set5 S)
  have E2_5 := Lib.hid (below_set (C := w1.heap.size) (i := 5) E2_4.out (by omega) (.int .i64 S))
  obtain ⟨S2_5, hS2_5⟩ : ∃ W, S2_4.setCell ⟨w1.heap.size, 5, none⟩ (.int .i64 S) = W := ⟨_, rfl⟩
  rw [hS2_5] at Na2_5 E2_5
  clear Na2_4 E2_4
  have r2_6 := Na2_5.out.cells.2.2.2.2.2.2
  have g2_6 := Na2_5.out.thaw.2.2.2.2.2.2
  have Na2_6 := Lib.hid (Na2_5.out.set6 0)
  have E2_6 := Lib.hid (below_set (C := w1.heap.size) (i := 6) E2_5.out (by omega) (.int .i64 0))
  obtain ⟨S2_6, hS2_6⟩ : ∃ W, S2_5.setCell ⟨w1.heap.size, 6, none⟩ (.int .i64 0) = W := ⟨_, rfl⟩
  rw [hS2_6] at Na2_6 E2_6
  clear Na2_5 E2_5
  clear B1
  obtain ⟨c3_0, c3_1, c3_2, c3_3, c3_4, c3_5, c3_6⟩ := Na2_6.out.cells
  go_wp2_with fail
  clear hs2 r2_0 g2_0 hS2_0 r2_1 g2_1 hS2_1 r2_2 g2_2 hS2_2 r2_3 g2_3 hS2_3 r2_4 g2_4 hS2_4 r2_5 g2_5 hS2_5 r2_6 g2_6 hS2_6 c3_0 c3_1 c3_2 c3_3 c3_4 c3_5 c3_6
  go_ret
  exact ⟨rfl, E2_6.out⟩
set_option maxRecDepth 100000 in
theorem beginsmonth_4 (t : Int) (w : World) (ht : MT w) (h : inS t = true) (e0 : oD t = 1) (e1 : oH t = 0) (e2 : oI t = 0) (e3 : ¬ oS t = 0) :
    Calls Tryz.prog 52 #[.int .i64 t] w fun e w' => e = .returned (.bool false) ∧ Below w.heap.size w w' := by
  have BB0 := Lib.hid (Below.refl w.heap.size w)
  have HI := Lib.hid h
  have HT := Lib.hid ht
  clear ht
  obtain ⟨Y, hY⟩ : ∃ x, oY t = x := ⟨_, rfl⟩
  obtain ⟨M, hM⟩ : ∃ x, oM t = x := ⟨_, rfl⟩
  obtain ⟨D, hD⟩ : ∃ x, oD t = x := ⟨_, rfl⟩
  obtain ⟨H, hH⟩ : ∃ x, oH t = x := ⟨_, rfl⟩
  obtain ⟨I, hI⟩ : ∃ x, oI t = x := ⟨_, rfl⟩
  obtain ⟨S, hS⟩ : ∃ x, oS t = x := ⟨_, rfl⟩
  have HO : Hid (∀ u : World, MT u → Calls Tryz.prog 26 #[.int .i64 t] u fun e w' => e = .returned (.tuple #[.agg #[.int .i64 Y, .int .i64 M, .int .i64 D, .int .i64 H, .int .i64 I, .int .i64 S, .int .i64 0], .int .i64 0]) ∧ Below u.heap.size u w') := Lib.hid (fun u hu => by
    have h := pof_ok t u hu HI.out
    rw [hY, hM, hD, hH, hI, hS] at h; exact h)
  rw [hD] at e0
  subst e0
  rw [hH] at e1
  subst e1
  rw [hI] at e2
  subst e2
  rw [hS] at e3
  have g1 : decide (S = 0) = false := decide_eq_false e3
  have g2 : (S == 0) = false := by simpa using e3
  clear h
  clear hY
  clear hM
  clear hD
  clear hH
  clear hI
  clear hS
  go_enter Tryz.func52, Tryz.ntmps52
  go_wp2_with fail
  refine (HO.out _ HT.out ).mono ?_
  rintro e w1 ⟨rfl, hb⟩
  have B1 := Lib.hid (BB0.out.trans (hb.mono BB0.out.size))
  have hz1 := hb.size
  clear hb BB0
  have Ya2 := Lib.hid (bx7_new w1 0 0 0 0 0 0 0)
  have D2 := Lib.hid (B1.out.alloc B1.out.size (.cells #[.int .i64 0, .int .i64 0, .int .i64 0, .int .i64 0, .int .i64 0, .int .i64 0, .int .i64 0] 48))
  have hs2 := B1.out.size
  have r2_0 := Ya2.out.cells.1
  have g2_0 := Ya2.out.thaw.1
  have Na2_0 := Lib.hid (Ya2.out.set0 Y)
  have E2_0 := Lib.hid (below_set (C := w1.heap.size) (i := 0) D2.out (by omega) (.int .i64 Y))
  obtain ⟨S2_0, hS2_0⟩ : ∃ W, (w1.alloc (.cells #[.int .i64 0, .int .i64 0, .int .i64 0, .int .i64 0, .int .i64 0, .int .i64 0, .int .i64 0] 48)).setCell ⟨w1.heap.size, 0, none⟩ (.int .i64 Y) = W := ⟨_, rfl⟩
  rw [hS2_0] at Na2_0 E2_0
  clear Ya2 D2
  have r2_1 := Na2_0.out.cells.2.1
  have g2_1 := Na2_0.out.thaw.2.1
  have Na2_1 := Lib.hid (Na2_0.out.set1 M)
  have E2_1 := Lib.hid (below_set (C := w1.heap.size) (i := 1) E2_0.out (by omega) (.int .i64 M))
  obtain ⟨S2_1, hS2_1⟩ : ∃ W, S2_0.setCell ⟨w1.heap.size, 1, none⟩ (.int .i64 M) = W := ⟨_, rfl⟩
  rw [hS2_1] at Na2_1 E2_1
  clear Na2_0 E2_0
  have r2_2 := Na2_1.out.cells.2.2.1
  have g2_2 := Na2_1.out.thaw.2.2.1
  have Na2_2 := Lib.hid (Na2_1.out.set2 1)
  have E2_2 := Lib.hid (below_set (C := w1.heap.size) (i := 2) E2_1.out (by omega) (.int .i64 1))
  obtain ⟨S2_2, hS2_2⟩ : ∃ W, S2_1.setCell ⟨w1.heap.size, 2, none⟩ (.int .i64 1) = W := ⟨_, rfl⟩
  rw [hS2_2] at Na2_2 E2_2
  clear Na2_1 E2_1
  have r2_3 := Na2_2.out.cells.2.2.2.1
  have g2_3 := Na2_2.out.thaw.2.2.2.1
  have Na2_3 := Lib.hid (Na2_2.out.set3 0)
  have E2_3 := Lib.hid (below_set (C := w1.heap.size) (i := 3) E2_2.out (by omega) (.int .i64 0))
  obtain ⟨S2_3, hS2_3⟩ : ∃ W, S2_2.setCell ⟨w1.heap.size, 3, none⟩ (.int .i64 0) = W := ⟨_, rfl⟩
  rw [hS2_3] at Na2_3 E2_3
  clear Na2_2 E2_2
  have r2_4 := Na2_3.out.cells.2.2.2.2.1
  have g2_4 := Na2_3.out.thaw.2.2.2.2.1
  have Na2_4 := Lib.hid (Na2_3.out.set4 0)
  have E2_4 := Lib.hid (below_set (C := w1.heap.size) (i := 4) E2_3.out (by omega) (.int .i64 0))
  obtain ⟨S2_4, hS2_4⟩ : ∃ W, S2_3.setCell ⟨w1.heap.size, 4, none⟩ (.int .i64 0) = W := ⟨_, rfl⟩
  rw [hS2_4] at Na2_4 E2_4
  clear Na2_3 E2_3
  have r2_5 := Na2_4.out.cells.2.2.2.2.2.1
  have g2_5 := Na2_4.out.thaw.2.2.2.2.2.1
  have Na2_5 := Lib.hid (Na2_4.out.set5 S)
  have E2_5 := Lib.hid (below_set (C := w1.heap.size) (i := 5) E2_4.out (by omega) (.int .i64 S))
  obtain ⟨S2_5, hS2_5⟩ : ∃ W, S2_4.setCell ⟨w1.heap.size, 5, none⟩ (.int .i64 S) = W := ⟨_, rfl⟩
  rw [hS2_5] at Na2_5 E2_5
  clear Na2_4 E2_4
  have r2_6 := Na2_5.out.cells.2.2.2.2.2.2
  have g2_6 := Na2_5.out.thaw.2.2.2.2.2.2
  have Na2_6 := Lib.hid (Na2_5.out.set6 0)
  have E2_6 := Lib.hid (below_set (C := w1.heap.size) (i := 6) E2_5.out (by omega) (.int .i64 0))
  obtain ⟨S2_6, hS2_6⟩ : ∃ W, S2_5.setCell ⟨w1.heap.size, 6, none⟩ (.int .i64 0) = W := ⟨_, rfl⟩
  rw [hS2_6] at Na2_6 E2_6
  clear Na2_5 E2_5
  clear B1
  obtain ⟨c3_0, c3_1, c3_2, c3_3, c3_4, c3_5, c3_6⟩ := Na2_6.out.cells
  go_wp2_with fail
  clear hs2 r2_0 g2_0 hS2_0 r2_1 g2_1 hS2_1 r2_2 g2_2 hS2_2 r2_3 g2_3 hS2_3 r2_4 g2_4 hS2_4 r2_5 g2_5 hS2_5 r2_6 g2_6 hS2_6 c3_0 c3_1 c3_2 c3_3 c3_4 c3_5 c3_6
  go_ret
  exact ⟨rfl, E2_6.out⟩
set_option maxRecDepth 100000 in
theorem beginsmonth_5 (t : Int) (w : World) (ht : MT w) (h : inS t = true) (e0 : oD t = 1) (e1 : oH t = 0) (e2 : oI t = 0) (e3 : oS t = 0) :
    Calls Tryz.prog 52 #[.int .i64 t] w fun e w' => e = .returned (.bool true) ∧ Below w.heap.size w w' := by
  have BB0 := Lib.hid (Below.refl w.heap.size w)
  have HI := Lib.hid h
  have HT := Lib.hid ht
  clear ht
  obtain ⟨Y, hY⟩ : ∃ x, oY t = x := ⟨_, rfl⟩
  obtain ⟨M, hM⟩ : ∃ x, oM t = x := ⟨_, rfl⟩
  obtain ⟨D, hD⟩ : ∃ x, oD t = x := ⟨_, rfl⟩
  obtain ⟨H, hH⟩ : ∃ x, oH t = x := ⟨_, rfl⟩
  obtain ⟨I, hI⟩ : ∃ x, oI t = x := ⟨_, rfl⟩
  obtain ⟨S, hS⟩ : ∃ x, oS t = x := ⟨_, rfl⟩
  have HO : Hid (∀ u : World, MT u → Calls Tryz.prog 26 #[.int .i64 t] u fun e w' => e = .returned (.tuple #[.agg #[.int .i64 Y, .int .i64 M, .int .i64 D, .int .i64 H, .int .i64 I, .int .i64 S, .int .i64 0], .int .i64 0]) ∧ Below u.heap.size u w') := Lib.hid (fun u hu => by
    have h := pof_ok t u hu HI.out
    rw [hY, hM, hD, hH, hI, hS] at h; exact h)
  rw [hD] at e0
  subst e0
  rw [hH] at e1
  subst e1
  rw [hI] at e2
  subst e2
  rw [hS] at e3
  subst e3
  clear h
  clear hY
  clear hM
  clear hD
  clear hH
  clear hI
  clear hS
  go_enter Tryz.func52, Tryz.ntmps52
  go_wp2_with fail
  refine (HO.out _ HT.out ).mono ?_
  rintro e w1 ⟨rfl, hb⟩
  have B1 := Lib.hid (BB0.out.trans (hb.mono BB0.out.size))
  have hz1 := hb.size
  clear hb BB0
  have Ya2 := Lib.hid (bx7_new w1 0 0 0 0 0 0 0)
  have D2 := Lib.hid (B1.out.alloc B1.out.size (.cells #[.int .i64 0, .int .i64 0, .int .i64 0, .int .i64 0, .int .i64 0, .int .i64 0, .int .i64 0] 48))
  have hs2 := B1.out.size
  have r2_0 := Ya2.out.cells.1
  have g2_0 := Ya2.out.thaw.1
  have Na2_0 := Lib.hid (Ya2.out.set0 Y)
  have E2_0 := Lib.hid (below_set (C := w1.heap.size) (i := 0) D2.out (by omega) (.int .i64 Y))
  obtain ⟨S2_0, hS2_0⟩ : ∃ W, (w1.alloc (.cells #[.int .i64 0, .int .i64 0, .int .i64 0, .int .i64 0, .int .i64 0, .int .i64 0, .int .i64 0] 48)).setCell ⟨w1.heap.size, 0, none⟩ (.int .i64 Y) = W := ⟨_, rfl⟩
  rw [hS2_0] at Na2_0 E2_0
  clear Ya2 D2
  have r2_1 := Na2_0.out.cells.2.1
  have g2_1 := Na2_0.out.thaw.2.1
  have Na2_1 := Lib.hid (Na2_0.out.set1 M)
  have E2_1 := Lib.hid (below_set (C := w1.heap.size) (i := 1) E2_0.out (by omega) (.int .i64 M))
  obtain ⟨S2_1, hS2_1⟩ : ∃ W, S2_0.setCell ⟨w1.heap.size, 1, none⟩ (.int .i64 M) = W := ⟨_, rfl⟩
  rw [hS2_1] at Na2_1 E2_1
  clear Na2_0 E2_0
  have r2_2 := Na2_1.out.cells.2.2.1
  have g2_2 := Na2_1.out.thaw.2.2.1
  have Na2_2 := Lib.hid (Na2_1.out.set2 1)
  have E2_2 := Lib.hid (below_set (C := w1.heap.size) (i := 2) E2_1.out (by omega) (.int .i64 1))
  obtain ⟨S2_2, hS2_2⟩ : ∃ W, S2_1.setCell ⟨w1.heap.size, 2, none⟩ (.int .i64 1) = W := ⟨_, rfl⟩
  rw [hS2_2] at Na2_2 E2_2
  clear Na2_1 E2_1
  have r2_3 := Na2_2.out.cells.2.2.2.1
  have g2_3 := Na2_2.out.thaw.2.2.2.1
  have Na2_3 := Lib.hid (Na2_2.out.set3 0)
  have E2_3 := Lib.hid (below_set (C := w1.heap.size) (i := 3) E2_2.out (by omega) (.int .i64 0))
  obtain ⟨S2_3, hS2_3⟩ : ∃ W, S2_2.setCell ⟨w1.heap.size, 3, none⟩ (.int .i64 0) = W := ⟨_, rfl⟩
  rw [hS2_3] at Na2_3 E2_3
  clear Na2_2 E2_2
  have r2_4 := Na2_3.out.cells.2.2.2.2.1
  have g2_4 := Na2_3.out.thaw.2.2.2.2.1
  have Na2_4 := Lib.hid (Na2_3.out.set4 0)
  have E2_4 := Lib.hid (below_set (C := w1.heap.size) (i := 4) E2_3.out (by omega) (.int .i64 0))
  obtain ⟨S2_4, hS2_4⟩ : ∃ W, S2_3.setCell ⟨w1.heap.size, 4, none⟩ (.int .i64 0) = W := ⟨_, rfl⟩
  rw [hS2_4] at Na2_4 E2_4
  clear Na2_3 E2_3
  have r2_5 := Na2_4.out.cells.2.2.2.2.2.1
  have g2_5 := Na2_4.out.thaw.2.2.2.2.2.1
  have Na2_5 := Lib.hid (Na2_4.out.set5 0)
  have E2_5 := Lib.hid (below_set (C := w1.heap.size) (i := 5) E2_4.out (by omega) (.int .i64 0))
  obtain ⟨S2_5, hS2_5⟩ : ∃ W, S2_4.setCell ⟨w1.heap.size, 5, none⟩ (.int .i64 0) = W := ⟨_, rfl⟩
  rw [hS2_5] at Na2_5 E2_5
  clear Na2_4 E2_4
  have r2_6 := Na2_5.out.cells.2.2.2.2.2.2
  have g2_6 := Na2_5.out.thaw.2.2.2.2.2.2
  have Na2_6 := Lib.hid (Na2_5.out.set6 0)
  have E2_6 := Lib.hid (below_set (C := w1.heap.size) (i := 6) E2_5.out (by omega) (.int .i64 0))
  obtain ⟨S2_6, hS2_6⟩ : ∃ W, S2_5.setCell ⟨w1.heap.size, 6, none⟩ (.int .i64 0) = W := ⟨_, rfl⟩
  rw [hS2_6] at Na2_6 E2_6
  clear Na2_5 E2_5
  clear B1
  obtain ⟨c3_0, c3_1, c3_2, c3_3, c3_4, c3_5, c3_6⟩ := Na2_6.out.cells
  go_wp2_with fail
  clear hs2 r2_0 g2_0 hS2_0 r2_1 g2_1 hS2_1 r2_2 g2_2 hS2_2 r2_3 g2_3 hS2_3 r2_4 g2_4 hS2_4 r2_5 g2_5 hS2_5 r2_6 g2_6 hS2_6 c3_0 c3_1 c3_2 c3_3 c3_4 c3_5 c3_6
  go_ret
  exact ⟨rfl, E2_6.out⟩
theorem beginsmonth_any (t : Int) (w : World) (ht : MT w) :
    Calls Tryz.prog 52 #[.int .i64 t] w fun e w' => e = .returned (.bool (beg t)) ∧ Below w.heap.size w w' := by
  cases h : inS t
  · rw [show beg t = false by unfold beg; rw [h]; rfl]; exact beginsmonth_0 t w ht h
  by_cases e0 : oD t = 1
  case neg => rw [show beg t = false by unfold beg; simp [e0]]; exact beginsmonth_1 t w ht h e0
  by_cases e1 : oH t = 0
  case neg => rw [show beg t = false by unfold beg; simp [e1]]; exact beginsmonth_2 t w ht h e0 e1
  by_cases e2 : oI t = 0
  case neg => rw [show beg t = false by unfold beg; simp [e2]]; exact beginsmonth_3 t w ht h e0 e1 e2
  by_cases e3 : oS t = 0
  case neg => rw [show beg t = false by unfold beg; simp [e3]]; exact beginsmonth_4 t w ht h e0 e1 e2 e3
  rw [show beg t = true by unfold beg; rw [h]; simp [e0, e1, e2, e3]]; exact beginsmonth_5 t w ht h e0 e1 e2 e3
set_option maxRecDepth 100000 in
theorem rbegins_0 (t : Int) (w : World) (h : inS t = false) :
    Calls Tryz.prog 30 #[.int .i64 t] w fun e w' => e = .returned (.bool false) ∧ Below w.heap.size w w' := by
  have BB0 := Lib.hid (Below.refl w.heap.size w)
  have HI := Lib.hid h
  clear h
  go_enter Tryz.func30, Tryz.ntmps30
  go_wp2_with fail
  refine (rof_no t _ (by have := HI.out; simp [inS] at this; omega)).mono ?_
  rintro e w1 ⟨rfl, hb⟩
  have B1 := Lib.hid (BB0.out.trans (hb.mono BB0.out.size))
  have hz1 := hb.size
  clear hb BB0
  have Ya2 := Lib.hid (bx7_new w1 0 0 0 0 0 0 0)
  have D2 := Lib.hid (B1.out.alloc B1.out.size (.cells #[.int .i64 0, .int .i64 0, .int .i64 0, .int .i64 0, .int .i64 0, .int .i64 0, .int .i64 0] 48))
  have hs2 := B1.out.size
  have r2_0 := Ya2.out.cells.1
  have g2_0 := Ya2.out.thaw.1
  have Na2_0 := Lib.hid (Ya2.out.set0 0)
  have E2_0 := Lib.hid (below_set (C := w1.heap.size) (i := 0) D2.out (by omega) (.int .i64 0))
  obtain ⟨S2_0, hS2_0⟩ : ∃ W, (w1.alloc (.cells #[.int .i64 0, .int .i64 0, .int .i64 0, .int .i64 0, .int .i64 0, .int .i64 0, .int .i64 0] 48)).setCell ⟨w1.heap.size, 0, none⟩ (.int .i64 0) = W := ⟨_, rfl⟩
  rw [hS2_0] at Na2_0 E2_0
  clear Ya2 D2
  have r2_1 := Na2_0.out.cells.2.1
  have g2_1 := Na2_0.out.thaw.2.1
  have Na2_1 := Lib.hid (Na2_0.out.set1 0)
  have E2_1 := Lib.hid (below_set (C := w1.heap.size) (i := 1) E2_0.out (by omega) (.int .i64 0))
  obtain ⟨S2_1, hS2_1⟩ : ∃ W, S2_0.setCell ⟨w1.heap.size, 1, none⟩ (.int .i64 0) = W := ⟨_, rfl⟩
  rw [hS2_1] at Na2_1 E2_1
  clear Na2_0 E2_0
  have r2_2 := Na2_1.out.cells.2.2.1
  have g2_2 := Na2_1.out.thaw.2.2.1
  have Na2_2 := Lib.hid (Na2_1.out.set2 0)
  have E2_2 := Lib.hid (below_set (C := w1.heap.size) (i := 2) E2_1.out (by omega) (.int .i64 0))
  obtain ⟨S2_2, hS2_2⟩ : ∃ W, S2_1.setCell ⟨w1.heap.size, 2, none⟩ (.int .i64 0) = W := ⟨_, rfl⟩
  rw [hS2_2] at Na2_2 E2_2
  clear Na2_1 E2_1
  have r2_3 := Na2_2.out.cells.2.2.2.1
  have g2_3 := Na2_2.out.thaw.2.2.2.1
  have Na2_3 := Lib.hid (Na2_2.out.set3 0)
  have E2_3 := Lib.hid (below_set (C := w1.heap.size) (i := 3) E2_2.out (by omega) (.int .i64 0))
  obtain ⟨S2_3, hS2_3⟩ : ∃ W, S2_2.setCell ⟨w1.heap.size, 3, none⟩ (.int .i64 0) = W := ⟨_, rfl⟩
  rw [hS2_3] at Na2_3 E2_3
  clear Na2_2 E2_2
  have r2_4 := Na2_3.out.cells.2.2.2.2.1
  have g2_4 := Na2_3.out.thaw.2.2.2.2.1
  have Na2_4 := Lib.hid (Na2_3.out.set4 0)
  have E2_4 := Lib.hid (below_set (C := w1.heap.size) (i := 4) E2_3.out (by omega) (.int .i64 0))
  obtain ⟨S2_4, hS2_4⟩ : ∃ W, S2_3.setCell ⟨w1.heap.size, 4, none⟩ (.int .i64 0) = W := ⟨_, rfl⟩
  rw [hS2_4] at Na2_4 E2_4
  clear Na2_3 E2_3
  have r2_5 := Na2_4.out.cells.2.2.2.2.2.1
  have g2_5 := Na2_4.out.thaw.2.2.2.2.2.1
  have Na2_5 := Lib.hid (Na2_4.out.set5 0)
  have E2_5 := Lib.hid (below_set (C := w1.heap.size) (i := 5) E2_4.out (by omega) (.int .i64 0))
  obtain ⟨S2_5, hS2_5⟩ : ∃ W, S2_4.setCell ⟨w1.heap.size, 5, none⟩ (.int .i64 0) = W := ⟨_, rfl⟩
  rw [hS2_5] at Na2_5 E2_5
  clear Na2_4 E2_4
  have r2_6 := Na2_5.out.cells.2.2.2.2.2.2
  have g2_6 := Na2_5.out.thaw.2.2.2.2.2.2
  have Na2_6 := Lib.hid (Na2_5.out.set6 0)
  have E2_6 := Lib.hid (below_set (C := w1.heap.size) (i := 6) E2_5.out (by omega) (.int .i64 0))
  obtain ⟨S2_6, hS2_6⟩ : ∃ W, S2_5.setCell ⟨w1.heap.size, 6, none⟩ (.int .i64 0) = W := ⟨_, rfl⟩
  rw [hS2_6] at Na2_6 E2_6
  clear Na2_5 E2_5
  clear B1
  obtain ⟨c3_0, c3_1, c3_2, c3_3, c3_4, c3_5, c3_6⟩ := Na2_6.out.cells
  go_wp2_with fail
  clear hs2 r2_0 g2_0 hS2_0 r2_1 g2_1 hS2_1 r2_2 g2_2 hS2_2 r2_3 g2_3 hS2_3 r2_4 g2_4 hS2_4 r2_5 g2_5 hS2_5 r2_6 g2_6 hS2_6 c3_0 c3_1 c3_2 c3_3 c3_4 c3_5 c3_6
  go_ret
  exact ⟨rfl, E2_6.out⟩
set_option maxRecDepth 100000 in
theorem rbegins_1 (t : Int) (w : World) (h : inS t = true) (e0 : ¬ oD t = 1) :
    Calls Tryz.prog 30 #[.int .i64 t] w fun e w' => e = .returned (.bool false) ∧ Below w.heap.size w w' := by
  have BB0 := Lib.hid (Below.refl w.heap.size w)
  have HI := Lib.hid h
  obtain ⟨Y, hY⟩ : ∃ x, oY t = x := ⟨_, rfl⟩
  obtain ⟨M, hM⟩ : ∃ x, oM t = x := ⟨_, rfl⟩
  obtain ⟨D, hD⟩ : ∃ x, oD t = x := ⟨_, rfl⟩
  obtain ⟨H, hH⟩ : ∃ x, oH t = x := ⟨_, rfl⟩
  obtain ⟨I, hI⟩ : ∃ x, oI t = x := ⟨_, rfl⟩
  obtain ⟨S, hS⟩ : ∃ x, oS t = x := ⟨_, rfl⟩
  have HO : Hid (∀ u : World, Calls Tryz.prog 53 #[.int .i64 t] u fun e w' => e = .returned (.tuple #[.agg #[.int .i64 Y, .int .i64 M, .int .i64 D, .int .i64 H, .int .i64 I, .int .i64 S, .int .i64 0], .int .i64 0]) ∧ Below u.heap.size u w') := Lib.hid (fun u => by
    have h := rof_ok t u (by have := HI.out; simp [inS] at this; omega) (by have := HI.out; simp [inS] at this; omega)
    rw [hY, hM, hD, hH, hI, hS] at h; exact h)
  rw [hD] at e0
  have g1 : decide (D = 1) = false := decide_eq_false e0
  have g2 : (D == 1) = false := by simpa using e0
  clear h
  clear hY
  clear hM
  clear hD
  clear hH
  clear hI
  clear hS
  go_enter Tryz.func30, Tryz.ntmps30
  go_wp2_with fail
  refine (HO.out _).mono ?_
  rintro e w1 ⟨rfl, hb⟩
  have B1 := Lib.hid (BB0.out.trans (hb.mono BB0.out.size))
  have hz1 := hb.size
  clear hb BB0
  have Ya2 := Lib.hid (bx7_new w1 0 0 0 0 0 0 0)
  have D2 := Lib.hid (B1.out.alloc B1.out.size (.cells #[.int .i64 0, .int .i64 0, .int .i64 0, .int .i64 0, .int .i64 0, .int .i64 0, .int .i64 0] 48))
  have hs2 := B1.out.size
  have r2_0 := Ya2.out.cells.1
  have g2_0 := Ya2.out.thaw.1
  have Na2_0 := Lib.hid (Ya2.out.set0 Y)
  have E2_0 := Lib.hid (below_set (C := w1.heap.size) (i := 0) D2.out (by omega) (.int .i64 Y))
  obtain ⟨S2_0, hS2_0⟩ : ∃ W, (w1.alloc (.cells #[.int .i64 0, .int .i64 0, .int .i64 0, .int .i64 0, .int .i64 0, .int .i64 0, .int .i64 0] 48)).setCell ⟨w1.heap.size, 0, none⟩ (.int .i64 Y) = W := ⟨_, rfl⟩
  rw [hS2_0] at Na2_0 E2_0
  clear Ya2 D2
  have r2_1 := Na2_0.out.cells.2.1
  have g2_1 := Na2_0.out.thaw.2.1
  have Na2_1 := Lib.hid (Na2_0.out.set1 M)
  have E2_1 := Lib.hid (below_set (C := w1.heap.size) (i := 1) E2_0.out (by omega) (.int .i64 M))
  obtain ⟨S2_1, hS2_1⟩ : ∃ W, S2_0.setCell ⟨w1.heap.size, 1, none⟩ (.int .i64 M) = W := ⟨_, rfl⟩
  rw [hS2_1] at Na2_1 E2_1
  clear Na2_0 E2_0
  have r2_2 := Na2_1.out.cells.2.2.1
  have g2_2 := Na2_1.out.thaw.2.2.1
  have Na2_2 := Lib.hid (Na2_1.out.set2 D)
  have E2_2 := Lib.hid (below_set (C := w1.heap.size) (i := 2) E2_1.out (by omega) (.int .i64 D))
  obtain ⟨S2_2, hS2_2⟩ : ∃ W, S2_1.setCell ⟨w1.heap.size, 2, none⟩ (.int .i64 D) = W := ⟨_, rfl⟩
  rw [hS2_2] at Na2_2 E2_2
  clear Na2_1 E2_1
  have r2_3 := Na2_2.out.cells.2.2.2.1
  have g2_3 := Na2_2.out.thaw.2.2.2.1
  have Na2_3 := Lib.hid (Na2_2.out.set3 H)
  have E2_3 := Lib.hid (below_set (C := w1.heap.size) (i := 3) E2_2.out (by omega) (.int .i64 H))
  obtain ⟨S2_3, hS2_3⟩ : ∃ W, S2_2.setCell ⟨w1.heap.size, 3, none⟩ (.int .i64 H) = W := ⟨_, rfl⟩
  rw [hS2_3] at Na2_3 E2_3
  clear Na2_2 E2_2
  have r2_4 := Na2_3.out.cells.2.2.2.2.1
  have g2_4 := Na2_3.out.thaw.2.2.2.2.1
  have Na2_4 := Lib.hid (Na2_3.out.set4 I)
  have E2_4 := Lib.hid (below_set (C := w1.heap.size) (i := 4) E2_3.out (by omega) (.int .i64 I))
  obtain ⟨S2_4, hS2_4⟩ : ∃ W, S2_3.setCell ⟨w1.heap.size, 4, none⟩ (.int .i64 I) = W := ⟨_, rfl⟩
  rw [hS2_4] at Na2_4 E2_4
  clear Na2_3 E2_3
  have r2_5 := Na2_4.out.cells.2.2.2.2.2.1
  have g2_5 := Na2_4.out.thaw.2.2.2.2.2.1
  have Na2_5 := Lib.hid (Na2_4.out.set5 S)
  have E2_5 := Lib.hid (below_set (C := w1.heap.size) (i := 5) E2_4.out (by omega) (.int .i64 S))
  obtain ⟨S2_5, hS2_5⟩ : ∃ W, S2_4.setCell ⟨w1.heap.size, 5, none⟩ (.int .i64 S) = W := ⟨_, rfl⟩
  rw [hS2_5] at Na2_5 E2_5
  clear Na2_4 E2_4
  have r2_6 := Na2_5.out.cells.2.2.2.2.2.2
  have g2_6 := Na2_5.out.thaw.2.2.2.2.2.2
  have Na2_6 := Lib.hid (Na2_5.out.set6 0)
  have E2_6 := Lib.hid (below_set (C := w1.heap.size) (i := 6) E2_5.out (by omega) (.int .i64 0))
  obtain ⟨S2_6, hS2_6⟩ : ∃ W, S2_5.setCell ⟨w1.heap.size, 6, none⟩ (.int .i64 0) = W := ⟨_, rfl⟩
  rw [hS2_6] at Na2_6 E2_6
  clear Na2_5 E2_5
  clear B1
  obtain ⟨c3_0, c3_1, c3_2, c3_3, c3_4, c3_5, c3_6⟩ := Na2_6.out.cells
  go_wp2_with fail
  clear hs2 r2_0 g2_0 hS2_0 r2_1 g2_1 hS2_1 r2_2 g2_2 hS2_2 r2_3 g2_3 hS2_3 r2_4 g2_4 hS2_4 r2_5 g2_5 hS2_5 r2_6 g2_6 hS2_6 c3_0 c3_1 c3_2 c3_3 c3_4 c3_5 c3_6
  go_ret
  exact ⟨rfl, E2_6.out⟩
set_option maxRecDepth 100000 in
theorem rbegins_2 (t : Int) (w : World) (h : inS t = true) (e0 : oD t = 1) (e1 : ¬ oH t = 0) :
    Calls Tryz.prog 30 #[.int .i64 t] w fun e w' => e = .returned (.bool false) ∧ Below w.heap.size w w' := by
  have BB0 := Lib.hid (Below.refl w.heap.size w)
  have HI := Lib.hid h
  obtain ⟨Y, hY⟩ : ∃ x, oY t = x := ⟨_, rfl⟩
  obtain ⟨M, hM⟩ : ∃ x, oM t = x := ⟨_, rfl⟩
  obtain ⟨D, hD⟩ : ∃ x, oD t = x := ⟨_, rfl⟩
  obtain ⟨H, hH⟩ : ∃ x, oH t = x := ⟨_, rfl⟩
  obtain ⟨I, hI⟩ : ∃ x, oI t = x := ⟨_, rfl⟩
  obtain ⟨S, hS⟩ : ∃ x, oS t = x := ⟨_, rfl⟩
  have HO : Hid (∀ u : World, Calls Tryz.prog 53 #[.int .i64 t] u fun e w' => e = .returned (.tuple #[.agg #[.int .i64 Y, .int .i64 M, .int .i64 D, .int .i64 H, .int .i64 I, .int .i64 S, .int .i64 0], .int .i64 0]) ∧ Below u.heap.size u w') := Lib.hid (fun u => by
    have h := rof_ok t u (by have := HI.out; simp [inS] at this; omega) (by have := HI.out; simp [inS] at this; omega)
    rw [hY, hM, hD, hH, hI, hS] at h; exact h)
  rw [hD] at e0
  subst e0
  rw [hH] at e1
  have g1 : decide (H = 0) = false := decide_eq_false e1
  have g2 : (H == 0) = false := by simpa using e1
  clear h
  clear hY
  clear hM
  clear hD
  clear hH
  clear hI
  clear hS
  go_enter Tryz.func30, Tryz.ntmps30
  go_wp2_with fail
  refine (HO.out _).mono ?_
  rintro e w1 ⟨rfl, hb⟩
  have B1 := Lib.hid (BB0.out.trans (hb.mono BB0.out.size))
  have hz1 := hb.size
  clear hb BB0
  have Ya2 := Lib.hid (bx7_new w1 0 0 0 0 0 0 0)
  have D2 := Lib.hid (B1.out.alloc B1.out.size (.cells #[.int .i64 0, .int .i64 0, .int .i64 0, .int .i64 0, .int .i64 0, .int .i64 0, .int .i64 0] 48))
  have hs2 := B1.out.size
  have r2_0 := Ya2.out.cells.1
  have g2_0 := Ya2.out.thaw.1
  have Na2_0 := Lib.hid (Ya2.out.set0 Y)
  have E2_0 := Lib.hid (below_set (C := w1.heap.size) (i := 0) D2.out (by omega) (.int .i64 Y))
  obtain ⟨S2_0, hS2_0⟩ : ∃ W, (w1.alloc (.cells #[.int .i64 0, .int .i64 0, .int .i64 0, .int .i64 0, .int .i64 0, .int .i64 0, .int .i64 0] 48)).setCell ⟨w1.heap.size, 0, none⟩ (.int .i64 Y) = W := ⟨_, rfl⟩
  rw [hS2_0] at Na2_0 E2_0
  clear Ya2 D2
  have r2_1 := Na2_0.out.cells.2.1
  have g2_1 := Na2_0.out.thaw.2.1
  have Na2_1 := Lib.hid (Na2_0.out.set1 M)
  have E2_1 := Lib.hid (below_set (C := w1.heap.size) (i := 1) E2_0.out (by omega) (.int .i64 M))
  obtain ⟨S2_1, hS2_1⟩ : ∃ W, S2_0.setCell ⟨w1.heap.size, 1, none⟩ (.int .i64 M) = W := ⟨_, rfl⟩
  rw [hS2_1] at Na2_1 E2_1
  clear Na2_0 E2_0
  have r2_2 := Na2_1.out.cells.2.2.1
  have g2_2 := Na2_1.out.thaw.2.2.1
  have Na2_2 := Lib.hid (Na2_1.out.set2 1)
  have E2_2 := Lib.hid (below_set (C := w1.heap.size) (i := 2) E2_1.out (by omega) (.int .i64 1))
  obtain ⟨S2_2, hS2_2⟩ : ∃ W, S2_1.setCell ⟨w1.heap.size, 2, none⟩ (.int .i64 1) = W := ⟨_, rfl⟩
  rw [hS2_2] at Na2_2 E2_2
  clear Na2_1 E2_1
  have r2_3 := Na2_2.out.cells.2.2.2.1
  have g2_3 := Na2_2.out.thaw.2.2.2.1
  have Na2_3 := Lib.hid (Na2_2.out.set3 H)
  have E2_3 := Lib.hid (below_set (C := w1.heap.size) (i := 3) E2_2.out (by omega) (.int .i64 H))
  obtain ⟨S2_3, hS2_3⟩ : ∃ W, S2_2.setCell ⟨w1.heap.size, 3, none⟩ (.int .i64 H) = W := ⟨_, rfl⟩
  rw [hS2_3] at Na2_3 E2_3
  clear Na2_2 E2_2
  have r2_4 := Na2_3.out.cells.2.2.2.2.1
  have g2_4 := Na2_3.out.thaw.2.2.2.2.1
  have Na2_4 := Lib.hid (Na2_3.out.set4 I)
  have E2_4 := Lib.hid (below_set (C := w1.heap.size) (i := 4) E2_3.out (by omega) (.int .i64 I))
  obtain ⟨S2_4, hS2_4⟩ : ∃ W, S2_3.setCell ⟨w1.heap.size, 4, none⟩ (.int .i64 I) = W := ⟨_, rfl⟩
  rw [hS2_4] at Na2_4 E2_4
  clear Na2_3 E2_3
  have r2_5 := Na2_4.out.cells.2.2.2.2.2.1
  have g2_5 := Na2_4.out.thaw.2.2.2.2.2.1
  have Na2_5 := Lib.hid (Na2_4.out.set5 S)
  have E2_5 := Lib.hid (below_set (C := w1.heap.size) (i := 5) E2_4.out (by omega) (.int .i64 S))
  obtain ⟨S2_5, hS2_5⟩ : ∃ W, S2_4.setCell ⟨w1.heap.size, 5, none⟩ (.int .i64 S) = W := ⟨_, rfl⟩
  rw [hS2_5] at Na2_5 E2_5
  clear Na2_4 E2_4
  have r2_6 := Na2_5.out.cells.2.2.2.2.2.2
  have g2_6 := Na2_5.out.thaw.2.2.2.2.2.2
  have Na2_6 := Lib.hid (Na2_5.out.set6 0)
  have E2_6 := Lib.hid (below_set (C := w1.heap.size) (i := 6) E2_5.out (by omega) (.int .i64 0))
  obtain ⟨S2_6, hS2_6⟩ : ∃ W, S2_5.setCell ⟨w1.heap.size, 6, none⟩ (.int .i64 0) = W := ⟨_, rfl⟩
  rw [hS2_6] at Na2_6 E2_6
  clear Na2_5 E2_5
  clear B1
  obtain ⟨c3_0, c3_1, c3_2, c3_3, c3_4, c3_5, c3_6⟩ := Na2_6.out.cells
  go_wp2_with fail
  clear hs2 r2_0 g2_0 hS2_0 r2_1 g2_1 hS2_1 r2_2 g2_2 hS2_2 r2_3 g2_3 hS2_3 r2_4 g2_4 hS2_4 r2_5 g2_5 hS2_5 r2_6 g2_6 hS2_6 c3_0 c3_1 c3_2 c3_3 c3_4 c3_5 c3_6
  go_ret
  exact ⟨rfl, E2_6.out⟩
set_option maxRecDepth 100000 in
theorem rbegins_3 (t : Int) (w : World) (h : inS t = true) (e0 : oD t = 1) (e1 : oH t = 0) (e2 : ¬ oI t = 0) :
    Calls Tryz.prog 30 #[.int .i64 t] w fun e w' => e = .returned (.bool false) ∧ Below w.heap.size w w' := by
  have BB0 := Lib.hid (Below.refl w.heap.size w)
  have HI := Lib.hid h
  obtain ⟨Y, hY⟩ : ∃ x, oY t = x := ⟨_, rfl⟩
  obtain ⟨M, hM⟩ : ∃ x, oM t = x := ⟨_, rfl⟩
  obtain ⟨D, hD⟩ : ∃ x, oD t = x := ⟨_, rfl⟩
  obtain ⟨H, hH⟩ : ∃ x, oH t = x := ⟨_, rfl⟩
  obtain ⟨I, hI⟩ : ∃ x, oI t = x := ⟨_, rfl⟩
  obtain ⟨S, hS⟩ : ∃ x, oS t = x := ⟨_, rfl⟩
  have HO : Hid (∀ u : World, Calls Tryz.prog 53 #[.int .i64 t] u fun e w' => e = .returned (.tuple #[.agg #[.int .i64 Y, .int .i64 M, .int .i64 D, .int .i64 H, .int .i64 I, .int .i64 S, .int .i64 0], .int .i64 0]) ∧ Below u.heap.size u w') := Lib.hid (fun u => by
    have h := rof_ok t u (by have := HI.out; simp [inS] at this; omega) (by have := HI.out; simp [inS] at this; omega)
    rw [hY, hM, hD, hH, hI, hS] at h; exact h)
  rw [hD] at e0
  subst e0
  rw [hH] at e1
  subst e1
  rw [hI] at e2
  have g1 : decide (I = 0) = false := decide_eq_false e2
  have g2 : (I == 0) = false := by simpa using e2
  clear h
  clear hY
  clear hM
  clear hD
  clear hH
  clear hI
  clear hS
  go_enter Tryz.func30, Tryz.ntmps30
  go_wp2_with fail
  refine (HO.out _).mono ?_
  rintro e w1 ⟨rfl, hb⟩
  have B1 := Lib.hid (BB0.out.trans (hb.mono BB0.out.size))
  have hz1 := hb.size
  clear hb BB0
  have Ya2 := Lib.hid (bx7_new w1 0 0 0 0 0 0 0)
  have D2 := Lib.hid (B1.out.alloc B1.out.size (.cells #[.int .i64 0, .int .i64 0, .int .i64 0, .int .i64 0, .int .i64 0, .int .i64 0, .int .i64 0] 48))
  have hs2 := B1.out.size
  have r2_0 := Ya2.out.cells.1
  have g2_0 := Ya2.out.thaw.1
  have Na2_0 := Lib.hid (Ya2.out.set0 Y)
  have E2_0 := Lib.hid (below_set (C := w1.heap.size) (i := 0) D2.out (by omega) (.int .i64 Y))
  obtain ⟨S2_0, hS2_0⟩ : ∃ W, (w1.alloc (.cells #[.int .i64 0, .int .i64 0, .int .i64 0, .int .i64 0, .int .i64 0, .int .i64 0, .int .i64 0] 48)).setCell ⟨w1.heap.size, 0, none⟩ (.int .i64 Y) = W := ⟨_, rfl⟩
  rw [hS2_0] at Na2_0 E2_0
  clear Ya2 D2
  have r2_1 := Na2_0.out.cells.2.1
  have g2_1 := Na2_0.out.thaw.2.1
  have Na2_1 := Lib.hid (Na2_0.out.set1 M)
  have E2_1 := Lib.hid (below_set (C := w1.heap.size) (i := 1) E2_0.out (by omega) (.int .i64 M))
  obtain ⟨S2_1, hS2_1⟩ : ∃ W, S2_0.setCell ⟨w1.heap.size, 1, none⟩ (.int .i64 M) = W := ⟨_, rfl⟩
  rw [hS2_1] at Na2_1 E2_1
  clear Na2_0 E2_0
  have r2_2 := Na2_1.out.cells.2.2.1
  have g2_2 := Na2_1.out.thaw.2.2.1
  have Na2_2 := Lib.hid (Na2_1.out.set2 1)
  have E2_2 := Lib.hid (below_set (C := w1.heap.size) (i := 2) E2_1.out (by omega) (.int .i64 1))
  obtain ⟨S2_2, hS2_2⟩ : ∃ W, S2_1.setCell ⟨w1.heap.size, 2, none⟩ (.int .i64 1) = W := ⟨_, rfl⟩
  rw [hS2_2] at Na2_2 E2_2
  clear Na2_1 E2_1
  have r2_3 := Na2_2.out.cells.2.2.2.1
  have g2_3 := Na2_2.out.thaw.2.2.2.1
  have Na2_3 := Lib.hid (Na2_2.out.set3 0)
  have E2_3 := Lib.hid (below_set (C := w1.heap.size) (i := 3) E2_2.out (by omega) (.int .i64 0))
  obtain ⟨S2_3, hS2_3⟩ : ∃ W, S2_2.setCell ⟨w1.heap.size, 3, none⟩ (.int .i64 0) = W := ⟨_, rfl⟩
  rw [hS2_3] at Na2_3 E2_3
  clear Na2_2 E2_2
  have r2_4 := Na2_3.out.cells.2.2.2.2.1
  have g2_4 := Na2_3.out.thaw.2.2.2.2.1
  have Na2_4 := Lib.hid (Na2_3.out.set4 I)
  have E2_4 := Lib.hid (below_set (C := w1.heap.size) (i := 4) E2_3.out (by omega) (.int .i64 I))
  obtain ⟨S2_4, hS2_4⟩ : ∃ W, S2_3.setCell ⟨w1.heap.size, 4, none⟩ (.int .i64 I) = W := ⟨_, rfl⟩
  rw [hS2_4] at Na2_4 E2_4
  clear Na2_3 E2_3
  have r2_5 := Na2_4.out.cells.2.2.2.2.2.1
  have g2_5 := Na2_4.out.thaw.2.2.2.2.2.1
  have Na2_5 := Lib.hid (Na2_4.out.set5 S)
  have E2_5 := Lib.hid (below_set (C := w1.heap.size) (i := 5) E2_4.out (by omega) (.int .i64 S))
  obtain ⟨S2_5, hS2_5⟩ : ∃ W, S2_4.setCell ⟨w1.heap.size, 5, none⟩ (.int .i64 S) = W := ⟨_, rfl⟩
  rw [hS2_5] at Na2_5 E2_5
  clear Na2_4 E2_4
  have r2_6 := Na2_5.out.cells.2.2.2.2.2.2
  have g2_6 := Na2_5.out.thaw.2.2.2.2.2.2
  have Na2_6 := Lib.hid (Na2_5.out.set6 0)
  have E2_6 := Lib.hid (below_set (C := w1.heap.size) (i := 6) E2_5.out (by omega) (.int .i64 0))
  obtain ⟨S2_6, hS2_6⟩ : ∃ W, S2_5.setCell ⟨w1.heap.size, 6, none⟩ (.int .i64 0) = W := ⟨_, rfl⟩
  rw [hS2_6] at Na2_6 E2_6
  clear Na2_5 E2_5
  clear B1
  obtain ⟨c3_0, c3_1, c3_2, c3_3, c3_4, c3_5, c3_6⟩ := Na2_6.out.cells
  go_wp2_with fail
  clear hs2 r2_0 g2_0 hS2_0 r2_1 g2_1 hS2_1 r2_2 g2_2 hS2_2 r2_3 g2_3 hS2_3 r2_4 g2_4 hS2_4 r2_5 g2_5 hS2_5 r2_6 g2_6 hS2_6 c3_0 c3_1 c3_2 c3_3 c3_4 c3_5 c3_6
  go_ret
  exact ⟨rfl, E2_6.out⟩
set_option maxRecDepth 100000 in
theorem rbegins_4 (t : Int) (w : World) (h : inS t = true) (e0 : oD t = 1) (e1 : oH t = 0) (e2 : oI t = 0) (e3 : ¬ oS t = 0) :
    Calls Tryz.prog 30 #[.int .i64 t] w fun e w' => e = .returned (.bool false) ∧ Below w.heap.size w w' := by
  have BB0 := Lib.hid (Below.refl w.heap.size w)
  have HI := Lib.hid h
  obtain ⟨Y, hY⟩ : ∃ x, oY t = x := ⟨_, rfl⟩
  obtain ⟨M, hM⟩ : ∃ x, oM t = x := ⟨_, rfl⟩
  obtain ⟨D, hD⟩ : ∃ x, oD t = x := ⟨_, rfl⟩
  obtain ⟨H, hH⟩ : ∃ x, oH t = x := ⟨_, rfl⟩
  obtain ⟨I, hI⟩ : ∃ x, oI t = x := ⟨_, rfl⟩
  obtain ⟨S, hS⟩ : ∃ x, oS t = x := ⟨_, rfl⟩
  have HO : Hid (∀ u : World, Calls Tryz.prog 53 #[.int .i64 t] u fun e w' => e = .returned (.tuple #[.agg #[.int .i64 Y, .int .i64 M, .int .i64 D, .int .i64 H, .int .i64 I, .int .i64 S, .int .i64 0], .int .i64 0]) ∧ Below u.heap.size u w') := Lib.hid (fun u => by
    have h := rof_ok t u (by have := HI.out; simp [inS] at this; omega) (by have := HI.out; simp [inS] at this; omega)
    rw [hY, hM, hD, hH, hI, hS] at h; exact h)
  rw [hD] at e0
  subst e0
  rw [hH] at e1
  subst e1
  rw [hI] at e2
  subst e2
  rw [hS] at e3
  have g1 : decide (S = 0) = false := decide_eq_false e3
  have g2 : (S == 0) = false := by simpa using e3
  clear h
  clear hY
  clear hM
  clear hD
  clear hH
  clear hI
  clear hS
  go_enter Tryz.func30, Tryz.ntmps30
  go_wp2_with fail
  refine (HO.out _).mono ?_
  rintro e w1 ⟨rfl, hb⟩
  have B1 := Lib.hid (BB0.out.trans (hb.mono BB0.out.size))
  have hz1 := hb.size
  clear hb BB0
  have Ya2 := Lib.hid (bx7_new w1 0 0 0 0 0 0 0)
  have D2 := Lib.hid (B1.out.alloc B1.out.size (.cells #[.int .i64 0, .int .i64 0, .int .i64 0, .int .i64 0, .int .i64 0, .int .i64 0, .int .i64 0] 48))
  have hs2 := B1.out.size
  have r2_0 := Ya2.out.cells.1
  have g2_0 := Ya2.out.thaw.1
  have Na2_0 := Lib.hid (Ya2.out.set0 Y)
  have E2_0 := Lib.hid (below_set (C := w1.heap.size) (i := 0) D2.out (by omega) (.int .i64 Y))
  obtain ⟨S2_0, hS2_0⟩ : ∃ W, (w1.alloc (.cells #[.int .i64 0, .int .i64 0, .int .i64 0, .int .i64 0, .int .i64 0, .int .i64 0, .int .i64 0] 48)).setCell ⟨w1.heap.size, 0, none⟩ (.int .i64 Y) = W := ⟨_, rfl⟩
  rw [hS2_0] at Na2_0 E2_0
  clear Ya2 D2
  have r2_1 := Na2_0.out.cells.2.1
  have g2_1 := Na2_0.out.thaw.2.1
  have Na2_1 := Lib.hid (Na2_0.out.set1 M)
  have E2_1 := Lib.hid (below_set (C := w1.heap.size) (i := 1) E2_0.out (by omega) (.int .i64 M))
  obtain ⟨S2_1, hS2_1⟩ : ∃ W, S2_0.setCell ⟨w1.heap.size, 1, none⟩ (.int .i64 M) = W := ⟨_, rfl⟩
  rw [hS2_1] at Na2_1 E2_1
  clear Na2_0 E2_0
  have r2_2 := Na2_1.out.cells.2.2.1
  have g2_2 := Na2_1.out.thaw.2.2.1
  have Na2_2 := Lib.hid (Na2_1.out.set2 1)
  have E2_2 := Lib.hid (below_set (C := w1.heap.size) (i := 2) E2_1.out (by omega) (.int .i64 1))
  obtain ⟨S2_2, hS2_2⟩ : ∃ W, S2_1.setCell ⟨w1.heap.size, 2, none⟩ (.int .i64 1) = W := ⟨_, rfl⟩
  rw [hS2_2] at Na2_2 E2_2
  clear Na2_1 E2_1
  have r2_3 := Na2_2.out.cells.2.2.2.1
  have g2_3 := Na2_2.out.thaw.2.2.2.1
  have Na2_3 := Lib.hid (Na2_2.out.set3 0)
  have E2_3 := Lib.hid (below_set (C := w1.heap.size) (i := 3) E2_2.out (by omega) (.int .i64 0))
  obtain ⟨S2_3, hS2_3⟩ : ∃ W, S2_2.setCell ⟨w1.heap.size, 3, none⟩ (.int .i64 0) = W := ⟨_, rfl⟩
  rw [hS2_3] at Na2_3 E2_3
  clear Na2_2 E2_2
  have r2_4 := Na2_3.out.cells.2.2.2.2.1
  have g2_4 := Na2_3.out.thaw.2.2.2.2.1
  have Na2_4 := Lib.hid (Na2_3.out.set4 0)
  have E2_4 := Lib.hid (below_set (C := w1.heap.size) (i := 4) E2_3.out (by omega) (.int .i64 0))
  obtain ⟨S2_4, hS2_4⟩ : ∃ W, S2_3.setCell ⟨w1.heap.size, 4, none⟩ (.int .i64 0) = W := ⟨_, rfl⟩
  rw [hS2_4] at Na2_4 E2_4
  clear Na2_3 E2_3
  have r2_5 := Na2_4.out.cells.2.2.2.2.2.1
  have g2_5 := Na2_4.out.thaw.2.2.2.2.2.1
  have Na2_5 := Lib.hid (Na2_4.out.set5 S)
  have E2_5 := Lib.hid (below_set (C := w1.heap.size) (i := 5) E2_4.out (by omega) (.int .i64 S))
  obtain ⟨S2_5, hS2_5⟩ : ∃ W, S2_4.setCell ⟨w1.heap.size, 5, none⟩ (.int .i64 S) = W := ⟨_, rfl⟩
  rw [hS2_5] at Na2_5 E2_5
  clear Na2_4 E2_4
  have r2_6 := Na2_5.out.cells.2.2.2.2.2.2
  have g2_6 := Na2_5.out.thaw.2.2.2.2.2.2
  have Na2_6 := Lib.hid (Na2_5.out.set6 0)
  have E2_6 := Lib.hid (below_set (C := w1.heap.size) (i := 6) E2_5.out (by omega) (.int .i64 0))
  obtain ⟨S2_6, hS2_6⟩ : ∃ W, S2_5.setCell ⟨w1.heap.size, 6, none⟩ (.int .i64 0) = W := ⟨_, rfl⟩
  rw [hS2_6] at Na2_6 E2_6
  clear Na2_5 E2_5
  clear B1
  obtain ⟨c3_0, c3_1, c3_2, c3_3, c3_4, c3_5, c3_6⟩ := Na2_6.out.cells
  go_wp2_with fail
  clear hs2 r2_0 g2_0 hS2_0 r2_1 g2_1 hS2_1 r2_2 g2_2 hS2_2 r2_3 g2_3 hS2_3 r2_4 g2_4 hS2_4 r2_5 g2_5 hS2_5 r2_6 g2_6 hS2_6 c3_0 c3_1 c3_2 c3_3 c3_4 c3_5 c3_6
  go_ret
  exact ⟨rfl, E2_6.out⟩
set_option maxRecDepth 100000 in
theorem rbegins_5 (t : Int) (w : World) (h : inS t = true) (e0 : oD t = 1) (e1 : oH t = 0) (e2 : oI t = 0) (e3 : oS t = 0) :
    Calls Tryz.prog 30 #[.int .i64 t] w fun e w' => e = .returned (.bool true) ∧ Below w.heap.size w w' := by
  have BB0 := Lib.hid (Below.refl w.heap.size w)
  have HI := Lib.hid h
  obtain ⟨Y, hY⟩ : ∃ x, oY t = x := ⟨_, rfl⟩
  obtain ⟨M, hM⟩ : ∃ x, oM t = x := ⟨_, rfl⟩
  obtain ⟨D, hD⟩ : ∃ x, oD t = x := ⟨_, rfl⟩
  obtain ⟨H, hH⟩ : ∃ x, oH t = x := ⟨_, rfl⟩
  obtain ⟨I, hI⟩ : ∃ x, oI t = x := ⟨_, rfl⟩
  obtain ⟨S, hS⟩ : ∃ x, oS t = x := ⟨_, rfl⟩
  have HO : Hid (∀ u : World, Calls Tryz.prog 53 #[.int .i64 t] u fun e w' => e = .returned (.tuple #[.agg #[.int .i64 Y, .int .i64 M, .int .i64 D, .int .i64 H, .int .i64 I, .int .i64 S, .int .i64 0], .int .i64 0]) ∧ Below u.heap.size u w') := Lib.hid (fun u => by
    have h := rof_ok t u (by have := HI.out; simp [inS] at this; omega) (by have := HI.out; simp [inS] at this; omega)
    rw [hY, hM, hD, hH, hI, hS] at h; exact h)
  rw [hD] at e0
  subst e0
  rw [hH] at e1
  subst e1
  rw [hI] at e2
  subst e2
  rw [hS] at e3
  subst e3
  clear h
  clear hY
  clear hM
  clear hD
  clear hH
  clear hI
  clear hS
  go_enter Tryz.func30, Tryz.ntmps30
  go_wp2_with fail
  refine (HO.out _).mono ?_
  rintro e w1 ⟨rfl, hb⟩
  have B1 := Lib.hid (BB0.out.trans (hb.mono BB0.out.size))
  have hz1 := hb.size
  clear hb BB0
  have Ya2 := Lib.hid (bx7_new w1 0 0 0 0 0 0 0)
  have D2 := Lib.hid (B1.out.alloc B1.out.size (.cells #[.int .i64 0, .int .i64 0, .int .i64 0, .int .i64 0, .int .i64 0, .int .i64 0, .int .i64 0] 48))
  have hs2 := B1.out.size
  have r2_0 := Ya2.out.cells.1
  have g2_0 := Ya2.out.thaw.1
  have Na2_0 := Lib.hid (Ya2.out.set0 Y)
  have E2_0 := Lib.hid (below_set (C := w1.heap.size) (i := 0) D2.out (by omega) (.int .i64 Y))
  obtain ⟨S2_0, hS2_0⟩ : ∃ W, (w1.alloc (.cells #[.int .i64 0, .int .i64 0, .int .i64 0, .int .i64 0, .int .i64 0, .int .i64 0, .int .i64 0] 48)).setCell ⟨w1.heap.size, 0, none⟩ (.int .i64 Y) = W := ⟨_, rfl⟩
  rw [hS2_0] at Na2_0 E2_0
  clear Ya2 D2
  have r2_1 := Na2_0.out.cells.2.1
  have g2_1 := Na2_0.out.thaw.2.1
  have Na2_1 := Lib.hid (Na2_0.out.set1 M)
  have E2_1 := Lib.hid (below_set (C := w1.heap.size) (i := 1) E2_0.out (by omega) (.int .i64 M))
  obtain ⟨S2_1, hS2_1⟩ : ∃ W, S2_0.setCell ⟨w1.heap.size, 1, none⟩ (.int .i64 M) = W := ⟨_, rfl⟩
  rw [hS2_1] at Na2_1 E2_1
  clear Na2_0 E2_0
  have r2_2 := Na2_1.out.cells.2.2.1
  have g2_2 := Na2_1.out.thaw.2.2.1
  have Na2_2 := Lib.hid (Na2_1.out.set2 1)
  have E2_2 := Lib.hid (below_set (C := w1.heap.size) (i := 2) E2_1.out (by omega) (.int .i64 1))
  obtain ⟨S2_2, hS2_2⟩ : ∃ W, S2_1.setCell ⟨w1.heap.size, 2, none⟩ (.int .i64 1) = W := ⟨_, rfl⟩
  rw [hS2_2] at Na2_2 E2_2
  clear Na2_1 E2_1
  have r2_3 := Na2_2.out.cells.2.2.2.1
  have g2_3 := Na2_2.out.thaw.2.2.2.1
  have Na2_3 := Lib.hid (Na2_2.out.set3 0)
  have E2_3 := Lib.hid (below_set (C := w1.heap.size) (i := 3) E2_2.out (by omega) (.int .i64 0))
  obtain ⟨S2_3, hS2_3⟩ : ∃ W, S2_2.setCell ⟨w1.heap.size, 3, none⟩ (.int .i64 0) = W := ⟨_, rfl⟩
  rw [hS2_3] at Na2_3 E2_3
  clear Na2_2 E2_2
  have r2_4 := Na2_3.out.cells.2.2.2.2.1
  have g2_4 := Na2_3.out.thaw.2.2.2.2.1
  have Na2_4 := Lib.hid (Na2_3.out.set4 0)
  have E2_4 := Lib.hid (below_set (C := w1.heap.size) (i := 4) E2_3.out (by omega) (.int .i64 0))
  obtain ⟨S2_4, hS2_4⟩ : ∃ W, S2_3.setCell ⟨w1.heap.size, 4, none⟩ (.int .i64 0) = W := ⟨_, rfl⟩
  rw [hS2_4] at Na2_4 E2_4
  clear Na2_3 E2_3
  have r2_5 := Na2_4.out.cells.2.2.2.2.2.1
  have g2_5 := Na2_4.out.thaw.2.2.2.2.2.1
  have Na2_5 := Lib.hid (Na2_4.out.set5 0)
  have E2_5 := Lib.hid (below_set (C := w1.heap.size) (i := 5) E2_4.out (by omega) (.int .i64 0))
  obtain ⟨S2_5, hS2_5⟩ : ∃ W, S2_4.setCell ⟨w1.heap.size, 5, none⟩ (.int .i64 0) = W := ⟨_, rfl⟩
  rw [hS2_5] at Na2_5 E2_5
  clear Na2_4 E2_4
  have r2_6 := Na2_5.out.cells.2.2.2.2.2.2
  have g2_6 := Na2_5.out.thaw.2.2.2.2.2.2
  have Na2_6 := Lib.hid (Na2_5.out.set6 0)
  have E2_6 := Lib.hid (below_set (C := w1.heap.size) (i := 6) E2_5.out (by omega) (.int .i64 0))
  obtain ⟨S2_6, hS2_6⟩ : ∃ W, S2_5.setCell ⟨w1.heap.size, 6, none⟩ (.int .i64 0) = W := ⟨_, rfl⟩
  rw [hS2_6] at Na2_6 E2_6
  clear Na2_5 E2_5
  clear B1
  obtain ⟨c3_0, c3_1, c3_2, c3_3, c3_4, c3_5, c3_6⟩ := Na2_6.out.cells
  go_wp2_with fail
  clear hs2 r2_0 g2_0 hS2_0 r2_1 g2_1 hS2_1 r2_2 g2_2 hS2_2 r2_3 g2_3 hS2_3 r2_4 g2_4 hS2_4 r2_5 g2_5 hS2_5 r2_6 g2_6 hS2_6 c3_0 c3_1 c3_2 c3_3 c3_4 c3_5 c3_6
  go_ret
  exact ⟨rfl, E2_6.out⟩
theorem rbegins_any (t : Int) (w : World) :
    Calls Tryz.prog 30 #[.int .i64 t] w fun e w' => e = .returned (.bool (beg t)) ∧ Below w.heap.size w w' := by
  cases h : inS t
  · rw [show beg t = false by unfold beg; rw [h]; rfl]; exact rbegins_0 t w h
  by_cases e0 : oD t = 1
  case neg => rw [show beg t = false by unfold beg; simp [e0]]; exact rbegins_1 t w h e0
  by_cases e1 : oH t = 0
  case neg => rw [show beg t = false by unfold beg; simp [e1]]; exact rbegins_2 t w h e0 e1
  by_cases e2 : oI t = 0
  case neg => rw [show beg t = false by unfold beg; simp [e2]]; exact rbegins_3 t w h e0 e1 e2
  by_cases e3 : oS t = 0
  case neg => rw [show beg t = false by unfold beg; simp [e3]]; exact rbegins_4 t w h e0 e1 e2 e3
  rw [show beg t = true by unfold beg; rw [h]; simp [e0, e1, e2, e3]]; exact rbegins_5 t w h e0 e1 e2 e3

set_option maxRecDepth 100000 in
theorem change_any (B E : Int) (a : Option Addr) (n c : Nat) (f : Nat → Int × Int) (k : Nat) (w : World) (hr : LRd w w.heap.size a n f) (hk : k < n) (hn : n ≤ 64) (hR : inR B E f n) :
    Calls Tryz.prog 47 #[.agg #[.int .i64 B, .int .i64 E, .slice a n c], .int .i64 k] w fun e w' => e = .returned (.int .i64 ((f k).2 - offA B f k)) ∧ Below w.heap.size w w' := by
  obtain ⟨b, off, rfl, hlt⟩ := hr.some (by omega)
  have HR := Lib.hid hr
  have o1 := offA_in hR (Nat.le_of_lt hk)
  have o2 := (hR.2.2 k hk).1
  obtain ⟨O, hO⟩ : ∃ O, offA B f k = O := ⟨_, rfl⟩
  rw [hO] at o1
  have HO := Lib.hid hO
  rw [hO]
  have hkn : (k : Int) < n := by omega
  clear hr hO hR
  have e0 := (HR.out.below ((Below.refl w.heap.size w).alloc (Nat.le_refl _) (.cells #[.int .i64 B, .int .i64 E, .slice (some ⟨b, off, none⟩) n c] 24))).at hk
  obtain ⟨e00, e01⟩ := e0
  have BB0 := Lib.hid ((Below.refl w.heap.size w).alloc (Nat.le_refl _) (.cells #[.int .i64 B, .int .i64 E, .slice (some ⟨b, off, none⟩) n c] 24))
  have X0 := Lib.hid (tbx_new w B E (some ⟨b, off, none⟩) n c)
  obtain ⟨W0, hW0⟩ : ∃ W, w.alloc (.cells #[.int .i64 B, .int .i64 E, .slice (some ⟨b, off, none⟩) n c] 24) = W := ⟨_, rfl⟩
  rw [hW0] at BB0 X0
  obtain ⟨t0, t1, t2⟩ := X0.out.cells
  rw [hW0] at e00 e01
  go_enter Tryz.func47, Tryz.ntmps47
  go_wp2_with fail
  go_region_held3 (fun w' => w'.cell? ⟨w.heap.size, 0, none⟩ = some (.int .i64 B) ∧ w'.cell? ⟨w.heap.size, 1, none⟩ = some (.int .i64 E) ∧ w'.cell? ⟨w.heap.size, 2, none⟩ = some (.slice (some ⟨b, off, none⟩) n c) ∧ w'.cell? ⟨b, off + k * 2 + 1, none⟩ = some (.int .i64 (f k).2)) (go_keep)
      (first
        | (go_at_call 34; refine (offa_any B E _ n c f k _ ?_ (by omega) hn).mono ?_; exact (show LRd W0 W0.heap.size (some ⟨b, off, none⟩) n f from (HR.out.below BB0.out).mono BB0.out.size); rintro e w1 ⟨rfl, hw⟩; rw [HO.out]; have hw' : Below W0.heap.size W0 w1 := ⟨hw.os, hw.tape, hw.output, hw.size, hw.block⟩; have X1 := Lib.hid (X0.out.below hw' X0.out.lt); have B1 := Lib.hid (BB0.out.trans (hw'.mono BB0.out.size)); obtain ⟨q1_0, q1_1, q1_2⟩ := X1.out.cells; obtain ⟨r1_0, r1_1⟩ := (HR.out.below B1.out).at hk; clear hw hw' X0 BB0))
  go_wp2_with fail
  go_ret
  exact ⟨ret1 (IntWalk.i64_in _ (by omega)), B1.out⟩
end Go.Proofs.YtegpajdahanhfaaGreatDoor
