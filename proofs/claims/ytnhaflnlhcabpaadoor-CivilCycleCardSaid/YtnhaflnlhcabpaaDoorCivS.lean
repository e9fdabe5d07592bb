/- Layer 5: CivilChecks, CivilTexts. -/
import Derived.Test.YtnhaflnlhcabpaaDoorCivR
import Derived.Deep.RegionHeld3
namespace Go.Proofs.YtnhaflnlhcabpaaDoor
open Go.RowKit Fx Cv Pt

set_option maxRecDepth 100000 in
set_option maxHeartbeats 1000000 in
theorem checks_law (y m d hh mi s n : Int) (w : World) (ht : MT w) (hp : Tab w) (y1 : y ≤ 9223372036854775807) :
    Calls Tryd.prog 3 #[.agg #[.int .i64 y, .int .i64 m, .int .i64 d, .int .i64 hh, .int .i64 mi, .int .i64 s, .int .i64 n]] w fun e w' => e = .returned (.bool true) ∧ Below w.heap.size w w' := by
  have HT := Lib.hid ht
  have HP := Lib.hid hp
  have BB0 := Lib.hid ((Below.refl w.heap.size w).alloc (Nat.le_refl _) (.cells #[.int .i64 y, .int .i64 m, .int .i64 d, .int .i64 hh, .int .i64 mi, .int .i64 s, .int .i64 n] 23))
  have X0 := Lib.hid (bx7_new w y m d hh mi s n)
  obtain ⟨W0, hW0⟩ : ∃ W, w.alloc (.cells #[.int .i64 y, .int .i64 m, .int .i64 d, .int .i64 hh, .int .i64 mi, .int .i64 s, .int .i64 n] 23) = W := ⟨_, rfl⟩
  rw [hW0] at BB0 X0
  have HW0 := Lib.hid hW0
  clear ht hp hW0
  obtain ⟨E, hE⟩ : ∃ x, chkC y m d hh mi s n = x := ⟨_, rfl⟩
  obtain ⟨U, hU⟩ : ∃ x, secV y m d hh mi s n = x := ⟨_, rfl⟩
  obtain ⟨G, hG⟩ : ∃ x, secE y m d hh mi s n = x := ⟨_, rfl⟩
  have HE := Lib.hid hE
  have HU := Lib.hid hU
  have HG := Lib.hid hG
  clear hE hU hG
  obtain ⟨b0, b1, b2, b3, b4, b5, b6⟩ := (bx7_new w y m d hh mi s n |> seven_cells)
  go_enter Tryd.func3, Tryd.ntmps3
  go_wp2_with fail
  rw [HW0.out]
  clear b0 b1 b2 b3 b4 b5 b6
  refine (psec_any y m d hh mi s n _ (show MT W0 from HT.out.below BB0.out)).mono ?_
  rintro e w1 ⟨rfl, hb⟩
  have Xc1 := Lib.hid (X0.out.below hb X0.out.lt)
  have B1 := Lib.hid (BB0.out.trans (hb.mono BB0.out.size))
  have hz1 := hb.size
  clear hb X0 BB0
  rw [HU.out, HG.out]
  obtain ⟨c2_0, c2_1, c2_2, c2_3, c2_4, c2_5, c2_6⟩ := Xc1.out.cells
  go_wp2_with fail
  clear c2_0 c2_1 c2_2 c2_3 c2_4 c2_5 c2_6
  refine (rsec_any y m d hh mi s n _ y1).mono ?_
  rintro e w3 ⟨rfl, hb⟩
  have Xc3 := Lib.hid (Xc1.out.below hb Xc1.out.lt)
  have B3 := Lib.hid (B1.out.trans (hb.mono B1.out.size))
  have hz3 := hb.size
  clear hb Xc1 B1
  rw [HU.out, HG.out]
  obtain ⟨c4_0, c4_1, c4_2, c4_3, c4_4, c4_5, c4_6⟩ := Xc3.out.cells
  go_wp2_with fail
  go_region_held3 (fun w' => w'.cell? ⟨w.heap.size, 0, none⟩ = some (.int .i64 y) ∧ w'.cell? ⟨w.heap.size, 1, none⟩ = some (.int .i64 m) ∧ w'.cell? ⟨w.heap.size, 2, none⟩ = some (.int .i64 d) ∧ w'.cell? ⟨w.heap.size, 3, none⟩ = some (.int .i64 hh) ∧ w'.cell? ⟨w.heap.size, 4, none⟩ = some (.int .i64 mi) ∧ w'.cell? ⟨w.heap.size, 5, none⟩ = some (.int .i64 s) ∧ w'.cell? ⟨w.heap.size, 6, none⟩ = some (.int .i64 n)) (go_keep)
      (first
        | (go_at_call 13; refine (pchk_any y m d hh mi s n _ ?_).mono ?_; exact (show MT w3 from HT.out.below B3.out); rintro e w5 ⟨rfl, hw⟩; rw [HE.out]; have hw' : Below w3.heap.size w3 w5 := ⟨hw.os, hw.tape, hw.output, hw.size, hw.block⟩; have Xc5 := Lib.hid (Xc3.out.below hw' Xc3.out.lt); obtain ⟨ac50, ac51, ac52, ac53, ac54, ac55, ac56⟩ := Xc5.out.cells; have B5 := Lib.hid (B3.out.trans (hw'.mono B3.out.size)); clear hw hw' B3)
        | (go_at_call 14; refine (rcchk_any y m d hh mi s n _ ?_).mono ?_; exact y1; rintro e w6 ⟨rfl, kk, hk⟩; have hw : Below w5.heap.size w5 w6 := (by rw [hk]; exact blwn ((Below.refl _ _).alloc (Nat.le_refl _) _) kk); clear hk; rw [HE.out]; have hw' := hw; have Xc6 := Lib.hid (Xc5.out.below hw' Xc5.out.lt); obtain ⟨ac60, ac61, ac62, ac63, ac64, ac65, ac66⟩ := Xc6.out.cells; have B6 := Lib.hid (B5.out.trans (hw'.mono B5.out.size)); clear hw hw' B5)
        | (go_at_call 15; refine (awake5_any _ ?_ ?_).mono ?_; exact (show MT w6 from HT.out.below B6.out); exact (show Tab w6 from HP.out.below B6.out); rintro e w7 ⟨rfl, hw⟩; have hw' := hw; have Xc7 := Lib.hid (Xc6.out.below hw' Xc6.out.lt); obtain ⟨ac70, ac71, ac72, ac73, ac74, ac75, ac76⟩ := Xc7.out.cells; have B7 := Lib.hid (B6.out.trans (hw'.mono B6.out.size)); clear hw hw' B6))
  go_wp2_with fail
  go_ret
  exact ⟨rfl, B7.out⟩

set_option maxRecDepth 100000 in
set_option maxHeartbeats 2000000 in
theorem texts_law (y m d hh mi s n : Int) (x : ByteArray) (w : World) (ht : MT w) (hp : Tab w) (y1 : y ≤ 9223372036854775807) :
    Calls Tryd.prog 6 #[.agg #[.int .i64 y, .int .i64 m, .int .i64 d, .int .i64 hh, .int .i64 mi, .int .i64 s, .int .i64 n], .string x] w fun e w' => e = .returned (.bool true) ∧ Below w.heap.size w w' := by
  have HT := Lib.hid ht
  have HP := Lib.hid hp
  have BB0 := Lib.hid ((Below.refl w.heap.size w).alloc (Nat.le_refl _) (.cells #[.int .i64 y, .int .i64 m, .int .i64 d, .int .i64 hh, .int .i64 mi, .int .i64 s, .int .i64 n] 23))
  have X0 := Lib.hid (bx7_new w y m d hh mi s n)
  obtain ⟨W0, hW0⟩ : ∃ W, w.alloc (.cells #[.int .i64 y, .int .i64 m, .int .i64 d, .int .i64 hh, .int .i64 mi, .int .i64 s, .int .i64 n] 23) = W := ⟨_, rfl⟩
  rw [hW0] at BB0 X0
  have HW0 := Lib.hid hW0
  clear ht hp hW0
  obtain ⟨T, hT⟩ : ∃ t, txtC y m d hh mi s n = t := ⟨_, rfl⟩
  have HX := Lib.hid hT
  obtain ⟨E, hE⟩ : ∃ e, pE x = e := ⟨_, rfl⟩
  obtain ⟨p0, hp0⟩ : ∃ z, pF x 0 4 = z := ⟨_, rfl⟩
  obtain ⟨p1, hp1⟩ : ∃ z, pF x 5 7 = z := ⟨_, rfl⟩
  obtain ⟨p2, hp2⟩ : ∃ z, pF x 8 10 = z := ⟨_, rfl⟩
  obtain ⟨p3, hp3⟩ : ∃ z, pF x 11 13 = z := ⟨_, rfl⟩
  obtain ⟨p4, hp4⟩ : ∃ z, pF x 14 16 = z := ⟨_, rfl⟩
  obtain ⟨p5, hp5⟩ : ∃ z, pF x 17 19 = z := ⟨_, rfl⟩
  obtain ⟨p6, hp6⟩ : ∃ z, pF x 20 29 = z := ⟨_, rfl⟩
  have HO : Hid (∀ u : World, MT u → Calls Tryd.prog 24 #[.string x] u fun e w' => e = .returned (.tuple #[.agg #[.int .i64 p0, .int .i64 p1, .int .i64 p2, .int .i64 p3, .int .i64 p4, .int .i64 p5, .int .i64 p6], .int .i64 E]) ∧ Below u.heap.size u w') := Lib.hid (fun u hu => by
    have h := pparse_any x u hu
    rw [hp0, hp1, hp2, hp3, hp4, hp5, hp6, hE] at h; exact h)
  have HR : Hid (∀ u : World, Calls Tryd.prog 25 #[.string x] u fun e w' => e = .returned (.tuple #[.agg #[.int .i64 p0, .int .i64 p1, .int .i64 p2, .int .i64 p3, .int .i64 p4, .int .i64 p5, .int .i64 p6], .int .i64 E]) ∧ Below u.heap.size u w') := Lib.hid (fun u => by
    have h := rparse5_any x u
    rw [hp0, hp1, hp2, hp3, hp4, hp5, hp6, hE] at h; exact h)
  clear hp0 hp1 hp2 hp3 hp4 hp5 hp6 hE hT
  go_enter Tryd.func6, Tryd.ntmps6
  go_wp2_with fail
  rw [HW0.out]
  refine (HO.out _ (show MT W0 from HT.out.below BB0.out)).mono ?_
  rintro e w1 ⟨rfl, hb⟩
  have Xc1 := Lib.hid (X0.out.below hb X0.out.lt)
  have B1 := Lib.hid (BB0.out.trans (hb.mono BB0.out.size))
  have hz1 := hb.size
  clear hb X0 BB0
  have Ya2 := Lib.hid (bx7_new w1 0 0 0 0 0 0 0)
  have lc2 := Xc1.out.lt
  have Yc2 := Lib.hid (Xc1.out.alloc (.cells #[.int .i64 0, .int .i64 0, .int .i64 0, .int .i64 0, .int .i64 0, .int .i64 0, .int .i64 0] 23))
  have D2 := Lib.hid (B1.out.alloc B1.out.size (.cells #[.int .i64 0, .int .i64 0, .int .i64 0, .int .i64 0, .int .i64 0, .int .i64 0, .int .i64 0] 23))
  have hs2 := B1.out.size
  have r2_0 := Ya2.out.cells.1
  have g2_0 := Ya2.out.thaw.1
  have Na2_0 := Lib.hid (Ya2.out.set0 p0)
  have Nc2_0 := Lib.hid (Yc2.out.other (C := w1.heap.size) (i := 0) (by omega) (.int .i64 p0))
  have E2_0 := Lib.hid (below_set (C := w1.heap.size) (i := 0) D2.out (by omega) (.int .i64 p0))
  obtain ⟨S2_0, hS2_0⟩ : ∃ W, (w1.alloc (.cells #[.int .i64 0, .int .i64 0, .int .i64 0, .int .i64 0, .int .i64 0, .int .i64 0, .int .i64 0] 23)).setCell ⟨w1.heap.size, 0, none⟩ (.int .i64 p0) = W := ⟨_, rfl⟩
  rw [hS2_0] at Na2_0 Nc2_0 E2_0
  clear Ya2 Yc2 D2
  have r2_1 := Na2_0.out.cells.2.1
  have g2_1 := Na2_0.out.thaw.2.1
  have Na2_1 := Lib.hid (Na2_0.out.set1 p1)
  have Nc2_1 := Lib.hid (Nc2_0.out.other (C := w1.heap.size) (i := 1) (by omega) (.int .i64 p1))
  have E2_1 := Lib.hid (below_set (C := w1.heap.size) (i := 1) E2_0.out (by omega) (.int .i64 p1))
  obtain ⟨S2_1, hS2_1⟩ : ∃ W, S2_0.setCell ⟨w1.heap.size, 1, none⟩ (.int .i64 p1) = W := ⟨_, rfl⟩
  rw [hS2_1] at Na2_1 Nc2_1 E2_1
  clear Na2_0 Nc2_0 E2_0
  have r2_2 := Na2_1.out.cells.2.2.1
  have g2_2 := Na2_1.out.thaw.2.2.1
  have Na2_2 := Lib.hid (Na2_1.out.set2 p2)
  have Nc2_2 := Lib.hid (Nc2_1.out.other (C := w1.heap.size) (i := 2) (by omega) (.int .i64 p2))
  have E2_2 := Lib.hid (below_set (C := w1.heap.size) (i := 2) E2_1.out (by omega) (.int .i64 p2))
  obtain ⟨S2_2, hS2_2⟩ : ∃ W, S2_1.setCell ⟨w1.heap.size, 2, none⟩ (.int .i64 p2) = W := ⟨_, rfl⟩
  rw [hS2_2] at Na2_2 Nc2_2 E2_2
  clear Na2_1 Nc2_1 E2_1
  have r2_3 := Na2_2.out.cells.2.2.2.1
  have g2_3 := Na2_2.out.thaw.2.2.2.1
  have Na2_3 := Lib.hid (Na2_2.out.set3 p3)
  have Nc2_3 := Lib.hid (Nc2_2.out.other (C := w1.heap.size) (i := 3) (by omega) (.int .i64 p3))
  have E2_3 := Lib.hid (below_set (C := w1.heap.size) (i := 3) E2_2.out (by omega) (.int .i64 p3))
  obtain ⟨S2_3, hS2_3⟩ : ∃ W, S2_2.setCell ⟨w1.heap.size, 3, none⟩ (.int .i64 p3) = W := ⟨_, rfl⟩
  rw [hS2_3] at Na2_3 Nc2_3 E2_3
  clear Na2_2 Nc2_2 E2_2
  have r2_4 := Na2_3.out.cells.2.2.2.2.1
  have g2_4 := Na2_3.out.thaw.2.2.2.2.1
  have Na2_4 := Lib.hid (Na2_3.out.set4 p4)
  have Nc2_4 := Lib.hid (Nc2_3.out.other (C := w1.heap.size) (i := 4) (by omega) (.int .i64 p4))
  have E2_4 := Lib.hid (below_set (C := w1.heap.size) (i := 4) E2_3.out (by omega) (.int .i64 p4))
  obtain ⟨S2_4, hS2_4⟩ : ∃ W, S2_3.setCell ⟨w1.heap.size, 4, none⟩ (.int .i64 p4) = W := ⟨_, rfl⟩
  rw [hS2_4] at Na2_4 Nc2_4 E2_4
  clear Na2_3 Nc2_3 E2_3
  have r2_5 := Na2_4.out.cells.2.2.2.2.2.1
  have g2_5 := Na2_4.out.thaw.2.2.2.2.2.1
  have Na2_5 := Lib.hid (Na2_4.out.set5 p5)
  have Nc2_5 := Lib.hid (Nc2_4.out.other (C := w1.heap.size) (i := 5) (by omega) (.int .i64 p5))
  have E2_5 := Lib.hid (below_set (C := w1.heap.size) (i := 5) E2_4.out (by omega) (.int .i64 p5))
  obtain ⟨S2_5, hS2_5⟩ : ∃ W, S2_4.setCell ⟨w1.heap.size, 5, none⟩ (.int .i64 p5) = W := ⟨_, rfl⟩
  rw [hS2_5] at Na2_5 Nc2_5 E2_5
  clear Na2_4 Nc2_4 E2_4
  have r2_6 := Na2_5.out.cells.2.2.2.2.2.2
  have g2_6 := Na2_5.out.thaw.2.2.2.2.2.2
  have Na2_6 := Lib.hid (Na2_5.out.set6 p6)
  have Nc2_6 := Lib.hid (Nc2_5.out.other (C := w1.heap.size) (i := 6) (by omega) (.int .i64 p6))
  have E2_6 := Lib.hid (below_set (C := w1.heap.size) (i := 6) E2_5.out (by omega) (.int .i64 p6))
  obtain ⟨S2_6, hS2_6⟩ : ∃ W, S2_5.setCell ⟨w1.heap.size, 6, none⟩ (.int .i64 p6) = W := ⟨_, rfl⟩
  rw [hS2_6] at Na2_6 Nc2_6 E2_6
  clear Na2_5 Nc2_5 E2_5
  clear Xc1 B1
  go_wp2_with fail
  clear lc2 hs2 r2_0 g2_0 hS2_0 r2_1 g2_1 hS2_1 r2_2 g2_2 hS2_2 r2_3 g2_3 hS2_3 r2_4 g2_4 hS2_4 r2_5 g2_5 hS2_5 r2_6 g2_6 hS2_6
  refine (HR.out _).mono ?_
  rintro e w3 ⟨rfl, hb⟩
  have Xc3 := Lib.hid (Nc2_6.out.below hb Nc2_6.out.lt)
  have Xa3 := Lib.hid (Na2_6.out.below hb Na2_6.out.lt)
  have B3 := Lib.hid (E2_6.out.trans (hb.mono E2_6.out.size))
  have hz3 := hb.size
  clear hb Nc2_6 Na2_6 E2_6
  have Yb4 := Lib.hid (bx7_new w3 0 0 0 0 0 0 0)
  have lc4 := Xc3.out.lt
  have Yc4 := Lib.hid (Xc3.out.alloc (.cells #[.int .i64 0, .int .i64 0, .int .i64 0, .int .i64 0, .int .i64 0, .int .i64 0, .int .i64 0] 23))
  have la4 := Xa3.out.lt
  have Ya4 := Lib.hid (Xa3.out.alloc (.cells #[.int .i64 0, .int .i64 0, .int .i64 0, .int .i64 0, .int .i64 0, .int .i64 0, .int .i64 0] 23))
  have D4 := Lib.hid (B3.out.alloc B3.out.size (.cells #[.int .i64 0, .int .i64 0, .int .i64 0, .int .i64 0, .int .i64 0, .int .i64 0, .int .i64 0] 23))
  have hs4 := B3.out.size
  have r4_0 := Yb4.out.cells.1
  have g4_0 := Yb4.out.thaw.1
  have Nb4_0 := Lib.hid (Yb4.out.set0 p0)
  have Nc4_0 := Lib.hid (Yc4.out.other (C := w3.heap.size) (i := 0) (by omega) (.int .i64 p0))
  have Na4_0 := Lib.hid (Ya4.out.other (C := w3.heap.size) (i := 0) (by omega) (.int .i64 p0))
  have E4_0 := Lib.hid (below_set (C := w3.heap.size) (i := 0) D4.out (by omega) (.int .i64 p0))
  obtain ⟨S4_0, hS4_0⟩ : ∃ W, (w3.alloc (.cells #[.int .i64 0, .int .i64 0, .int .i64 0, .int .i64 0, .int .i64 0, .int .i64 0, .int .i64 0] 23)).setCell ⟨w3.heap.size, 0, none⟩ (.int .i64 p0) = W := ⟨_, rfl⟩
  rw [hS4_0] at Nb4_0 Nc4_0 Na4_0 E4_0
  clear Yb4 Yc4 Ya4 D4
  have r4_1 := Nb4_0.out.cells.2.1
  have g4_1 := Nb4_0.out.thaw.2.1
  have Nb4_1 := Lib.hid (Nb4_0.out.set1 p1)
  have Nc4_1 := Lib.hid (Nc4_0.out.other (C := w3.heap.size) (i := 1) (by omega) (.int .i64 p1))
  have Na4_1 := Lib.hid (Na4_0.out.other (C := w3.heap.size) (i := 1) (by omega) (.int .i64 p1))
  have E4_1 := Lib.hid (below_set (C := w3.heap.size) (i := 1) E4_0.out (by omega) (.int .i64 p1))
  obtain ⟨S4_1, hS4_1⟩ : ∃ W, S4_0.setCell ⟨w3.heap.size, 1, none⟩ (.int .i64 p1) = W := ⟨_, rfl⟩
  rw [hS4_1] at Nb4_1 Nc4_1 Na4_1 E4_1
  clear Nb4_0 Nc4_0 Na4_0 E4_0
  have r4_2 := Nb4_1.out.cells.2.2.1
  have g4_2 := Nb4_1.out.thaw.2.2.1
  have Nb4_2 := Lib.hid (Nb4_1.out.set2 p2)
  have Nc4_2 := Lib.hid (Nc4_1.out.other (C := w3.heap.size) (i := 2) (by omega) (.int .i64 p2))
  have Na4_2 := Lib.hid (Na4_1.out.other (C := w3.heap.size) (i := 2) (by omega) (.int .i64 p2))
  have E4_2 := Lib.hid (below_set (C := w3.heap.size) (i := 2) E4_1.out (by omega) (.int .i64 p2))
  obtain ⟨S4_2, hS4_2⟩ : ∃ W, S4_1.setCell ⟨w3.heap.size, 2, none⟩ (.int .i64 p2) = W := ⟨_, rfl⟩
  rw [hS4_2] at Nb4_2 Nc4_2 Na4_2 E4_2
  clear Nb4_1 Nc4_1 Na4_1 E4_1
  have r4_3 := Nb4_2.out.cells.2.2.2.1
  have g4_3 := Nb4_2.out.thaw.2.2.2.1
  have Nb4_3 := Lib.hid (Nb4_2.out.set3 p3)
  have Nc4_3 := Lib.hid (Nc4_2.out.other (C := w3.heap.size) (i := 3) (by omega) (.int .i64 p3))
  have Na4_3 := Lib.hid (Na4_2.out.other (C := w3.heap.size) (i := 3) (by omega) (.int .i64 p3))
  have E4_3 := Lib.hid (below_set (C := w3.heap.size) (i := 3) E4_2.out (by omega) (.int .i64 p3))
  obtain ⟨S4_3, hS4_3⟩ : ∃ W, S4_2.setCell ⟨w3.heap.size, 3, none⟩ (.int .i64 p3) = W := ⟨_, rfl⟩
  rw [hS4_3] at Nb4_3 Nc4_3 Na4_3 E4_3
  clear Nb4_2 Nc4_2 Na4_2 E4_2
  have r4_4 := Nb4_3.out.cells.2.2.2.2.1
  have g4_4 := Nb4_3.out.thaw.2.2.2.2.1
  have Nb4_4 := Lib.hid (Nb4_3.out.set4 p4)
  have Nc4_4 := Lib.hid (Nc4_3.out.other (C := w3.heap.size) (i := 4) (by omega) (.int .i64 p4))
  have Na4_4 := Lib.hid (Na4_3.out.other (C := w3.heap.size) (i := 4) (by omega) (.int .i64 p4))
  have E4_4 := Lib.hid (below_set (C := w3.heap.size) (i := 4) E4_3.out (by omega) (.int .i64 p4))
  obtain ⟨S4_4, hS4_4⟩ : ∃ W, S4_3.setCell ⟨w3.heap.size, 4, none⟩ (.int .i64 p4) = W := ⟨_, rfl⟩
  rw [hS4_4] at Nb4_4 Nc4_4 Na4_4 E4_4
  clear Nb4_3 Nc4_3 Na4_3 E4_3
  have r4_5 := Nb4_4.out.cells.2.2.2.2.2.1
  have g4_5 := Nb4_4.out.thaw.2.2.2.2.2.1
  have Nb4_5 := Lib.hid (Nb4_4.out.set5 p5)
  have Nc4_5 := Lib.hid (Nc4_4.out.other (C := w3.heap.size) (i := 5) (by omega) (.int .i64 p5))
  have Na4_5 := Lib.hid (Na4_4.out.other (C := w3.heap.size) (i := 5) (by omega) (.int .i64 p5))
  have E4_5 := Lib.hid (below_set (C := w3.heap.size) (i := 5) E4_4.out (by omega) (.int .i64 p5))
  obtain ⟨S4_5, hS4_5⟩ : ∃ W, S4_4.setCell ⟨w3.heap.size, 5, none⟩ (.int .i64 p5) = W := ⟨_, rfl⟩
  rw [hS4_5] at Nb4_5 Nc4_5 Na4_5 E4_5
  clear Nb4_4 Nc4_4 Na4_4 E4_4
  have r4_6 := Nb4_5.out.cells.2.2.2.2.2.2
  have g4_6 := Nb4_5.out.thaw.2.2.2.2.2.2
  have Nb4_6 := Lib.hid (Nb4_5.out.set6 p6)
  have Nc4_6 := Lib.hid (Nc4_5.out.other (C := w3.heap.size) (i := 6) (by omega) (.int .i64 p6))
  have Na4_6 := Lib.hid (Na4_5.out.other (C := w3.heap.size) (i := 6) (by omega) (.int .i64 p6))
  have E4_6 := Lib.hid (below_set (C := w3.heap.size) (i := 6) E4_5.out (by omega) (.int .i64 p6))
  obtain ⟨S4_6, hS4_6⟩ : ∃ W, S4_5.setCell ⟨w3.heap.size, 6, none⟩ (.int .i64 p6) = W := ⟨_, rfl⟩
  rw [hS4_6] at Nb4_6 Nc4_6 Na4_6 E4_6
  clear Nb4_5 Nc4_5 Na4_5 E4_5
  clear Xc3 Xa3 B3
  obtain ⟨c5_0, c5_1, c5_2, c5_3, c5_4, c5_5, c5_6⟩ := Na4_6.out.cells
  obtain ⟨c6_0, c6_1, c6_2, c6_3, c6_4, c6_5, c6_6⟩ := Nb4_6.out.cells
  obtain ⟨c7_0, c7_1, c7_2, c7_3, c7_4, c7_5, c7_6⟩ := Nc4_6.out.cells
  go_wp2_with fail
  clear lc4 la4 hs4 r4_0 g4_0 hS4_0 r4_1 g4_1 hS4_1 r4_2 g4_2 hS4_2 r4_3 g4_3 hS4_3 r4_4 g4_4 hS4_4 r4_5 g4_5 hS4_5 r4_6 g4_6 hS4_6
  go_region_held3 (fun w' => w'.cell? ⟨w.heap.size, 0, none⟩ = some (.int .i64 y) ∧ w'.cell? ⟨w.heap.size, 1, none⟩ = some (.int .i64 m) ∧ w'.cell? ⟨w.heap.size, 2, none⟩ = some (.int .i64 d) ∧ w'.cell? ⟨w.heap.size, 3, none⟩ = some (.int .i64 hh) ∧ w'.cell? ⟨w.heap.size, 4, none⟩ = some (.int .i64 mi) ∧ w'.cell? ⟨w.heap.size, 5, none⟩ = some (.int .i64 s) ∧ w'.cell? ⟨w.heap.size, 6, none⟩ = some (.int .i64 n) ∧ w'.cell? ⟨w1.heap.size, 0, none⟩ = some (.int .i64 p0) ∧ w'.cell? ⟨w1.heap.size, 1, none⟩ = some (.int .i64 p1) ∧ w'.cell? ⟨w1.heap.size, 2, none⟩ = some (.int .i64 p2) ∧ w'.cell? ⟨w1.heap.size, 3, none⟩ = some (.int .i64 p3) ∧ w'.cell? ⟨w1.heap.size, 4, none⟩ = some (.int .i64 p4) ∧ w'.cell? ⟨w1.heap.size, 5, none⟩ = some (.int .i64 p5) ∧ w'.cell? ⟨w1.heap.size, 6, none⟩ = some (.int .i64 p6) ∧ w'.cell? ⟨w3.heap.size, 0, none⟩ = some (.int .i64 p0) ∧ w'.cell? ⟨w3.heap.size, 1, none⟩ = some (.int .i64 p1) ∧ w'.cell? ⟨w3.heap.size, 2, none⟩ = some (.int .i64 p2) ∧ w'.cell? ⟨w3.heap.size, 3, none⟩ = some (.int .i64 p3) ∧ w'.cell? ⟨w3.heap.size, 4, none⟩ = some (.int .i64 p4) ∧ w'.cell? ⟨w3.heap.size, 5, none⟩ = some (.int .i64 p5) ∧ w'.cell? ⟨w3.heap.size, 6, none⟩ = some (.int .i64 p6)) (go_keep)
      (first
        | (go_at_call 26; refine (ctext_any y m d hh mi s n _ ?_ ?_).mono ?_; exact (show MT S4_6 from HT.out.below E4_6.out); exact (show Tab S4_6 from HP.out.below E4_6.out); rintro e w8 ⟨rfl, hw⟩; rw [HX.out]; have hw' : Below S4_6.heap.size S4_6 w8 := ⟨hw.os, hw.tape, hw.output, hw.size, hw.block⟩; have Xc8 := Lib.hid (Nc4_6.out.below hw' Nc4_6.out.lt); obtain ⟨ac80, ac81, ac82, ac83, ac84, ac85, ac86⟩ := Xc8.out.cells; have Xa8 := Lib.hid (Na4_6.out.below hw' Na4_6.out.lt); obtain ⟨aa80, aa81, aa82, aa83, aa84, aa85, aa86⟩ := Xa8.out.cells; have Xb8 := Lib.hid (Nb4_6.out.below hw' Nb4_6.out.lt); obtain ⟨ab80, ab81, ab82, ab83, ab84, ab85, ab86⟩ := Xb8.out.cells; have B8 := Lib.hid (E4_6.out.trans (hw'.mono E4_6.out.size)); clear hw hw' E4_6)
        | (go_at_call 27; refine (rtext_any y m d hh mi s n _ ?_).mono ?_; exact y1; rintro e w9 ⟨rfl, hw⟩; rw [HX.out]; have hw' := hw; have Xc9 := Lib.hid (Xc8.out.below hw' Xc8.out.lt); obtain ⟨ac90, ac91, ac92, ac93, ac94, ac95, ac96⟩ := Xc9.out.cells; have Xa9 := Lib.hid (Xa8.out.below hw' Xa8.out.lt); obtain ⟨aa90, aa91, aa92, aa93, aa94, aa95, aa96⟩ := Xa9.out.cells; have Xb9 := Lib.hid (Xb8.out.below hw' Xb8.out.lt); obtain ⟨ab90, ab91, ab92, ab93, ab94, ab95, ab96⟩ := Xb9.out.cells; have B9 := Lib.hid (B8.out.trans (hw'.mono B8.out.size)); clear hw hw' B8)
        | (go_at_call 15; refine (awake5_any _ ?_ ?_).mono ?_; exact (show MT w9 from HT.out.below B9.out); exact (show Tab w9 from HP.out.below B9.out); rintro e w10 ⟨rfl, hw⟩; have hw' := hw; have Xc10 := Lib.hid (Xc9.out.below hw' Xc9.out.lt); obtain ⟨ac100, ac101, ac102, ac103, ac104, ac105, ac106⟩ := Xc10.out.cells; have Xa10 := Lib.hid (Xa9.out.below hw' Xa9.out.lt); obtain ⟨aa100, aa101, aa102, aa103, aa104, aa105, aa106⟩ := Xa10.out.cells; have Xb10 := Lib.hid (Xb9.out.below hw' Xb9.out.lt); obtain ⟨ab100, ab101, ab102, ab103, ab104, ab105, ab106⟩ := Xb10.out.cells; have B10 := Lib.hid (B9.out.trans (hw'.mono B9.out.size)); clear hw hw' B9))
  go_wp2_with fail
  go_ret
  exact ⟨rfl, B10.out⟩
end Go.Proofs.YtnhaflnlhcabpaaDoor
