/- Layer 5: the fixed run of the chapter's examples. -/
import Derived.Test.YtnhaflnlhcabpaaDoorCivQ
namespace Go.Proofs.YtnhaflnlhcabpaaDoor
open Go.RowKit Fx Cv Pt

theorem Cv.agg_ce {y m d hh mi s n y' m' d' hh' mi' s' n' e e' : Int} (h1 : y = y') (h2 : m = m') (h3 : d = d') (h4 : hh = hh') (h5 : mi = mi') (h6 : s = s') (h7 : n = n') (h8 : e = e') :
    Ending.returned (.tuple #[.agg #[.int .i64 y, .int .i64 m, .int .i64 d, .int .i64 hh, .int .i64 mi, .int .i64 s, .int .i64 n], .int .i64 e]) = .returned (.tuple #[.agg #[.int .i64 y', .int .i64 m', .int .i64 d', .int .i64 hh', .int .i64 mi', .int .i64 s', .int .i64 n'], .int .i64 e']) := by subst h1 h2 h3 h4 h5 h6 h7 h8; rfl
theorem of_m1 (w : World) (ht : MT w) :
    Calls Tryd.prog 16 #[.int .i64 (-1)] w fun e w' => e = .returned (.tuple #[.agg #[.int .i64 1899, .int .i64 12, .int .i64 31, .int .i64 23, .int .i64 59, .int .i64 59, .int .i64 0], .int .i64 0]) ∧ Below w.heap.size w w' :=
  (pof_any (-1) w ht).mono fun e w' k => ⟨k.1.trans (agg_ce (by kernel_rfl) (by kernel_rfl) (by kernel_rfl) (by kernel_rfl) (by kernel_rfl) (by kernel_rfl) (by kernel_rfl) (by kernel_rfl)), k.2⟩
theorem of_1972 (w : World) (ht : MT w) :
    Calls Tryd.prog 16 #[.int .i64 2272060800] w fun e w' => e = .returned (.tuple #[.agg #[.int .i64 1972, .int .i64 1, .int .i64 1, .int .i64 0, .int .i64 0, .int .i64 0, .int .i64 0], .int .i64 0]) ∧ Below w.heap.size w w' :=
  (pof_any 2272060800 w ht).mono fun e w' k => ⟨k.1.trans (agg_ce (by kernel_rfl) (by kernel_rfl) (by kernel_rfl) (by kernel_rfl) (by kernel_rfl) (by kernel_rfl) (by kernel_rfl) (by kernel_rfl)), k.2⟩
theorem of_zero (w : World) (ht : MT w) :
    Calls Tryd.prog 16 #[.int .i64 0] w fun e w' => e = .returned (.tuple #[.agg #[.int .i64 1900, .int .i64 1, .int .i64 1, .int .i64 0, .int .i64 0, .int .i64 0, .int .i64 0], .int .i64 0]) ∧ Below w.heap.size w w' :=
  (pof_any 0 w ht).mono fun e w' k => ⟨k.1.trans (agg_ce (by kernel_rfl) (by kernel_rfl) (by kernel_rfl) (by kernel_rfl) (by kernel_rfl) (by kernel_rfl) (by kernel_rfl) (by kernel_rfl)), k.2⟩
theorem parse_60 (w : World) (ht : MT w) :
    Calls Tryd.prog 24 #[.string ⟨#[50, 48, 49, 54, 45, 49, 50, 45, 51, 49, 84, 50, 51, 58, 53, 57, 58, 54, 48, 46, 48, 48, 48, 48, 48, 48, 48, 48, 48, 90]⟩] w fun e w' => e = .returned (.tuple #[.agg #[.int .i64 0, .int .i64 0, .int .i64 0, .int .i64 0, .int .i64 0, .int .i64 0, .int .i64 0], .int .i64 3]) ∧ Below w.heap.size w w' :=
  (pparse_any ⟨#[50, 48, 49, 54, 45, 49, 50, 45, 51, 49, 84, 50, 51, 58, 53, 57, 58, 54, 48, 46, 48, 48, 48, 48, 48, 48, 48, 48, 48, 90]⟩ w ht).mono fun e w' k => ⟨k.1.trans (p_end (by kernel_rfl) (by decide)).symm, k.2⟩
theorem text_zero (w : World) (ht : MT w) (hp : Tab w) :
    Calls Tryd.prog 26 #[.agg #[.int .i64 1900, .int .i64 1, .int .i64 1, .int .i64 0, .int .i64 0, .int .i64 0, .int .i64 0]] w fun e w' => e = .returned (.string ⟨#[49, 57, 48, 48, 45, 48, 49, 45, 48, 49, 84, 48, 48, 58, 48, 48, 58, 48, 48, 46, 48, 48, 48, 48, 48, 48, 48, 48, 48, 90]⟩) ∧ Below w.heap.size w w' :=
  (ctext_any 1900 1 1 0 0 0 0 w ht hp).mono fun e w' k => ⟨k.1.trans (ret_s (by kernel_rfl)), k.2⟩
set_option maxRecDepth 100000 in
set_option maxHeartbeats 2000000 in
theorem awake5_any (w : World) (ht : MT w) (hp : Tab w) :
    Calls Tryd.prog 15 #[] w fun e w' => e = .returned (.bool true) ∧ Below w.heap.size w w' := by
  have HT := Lib.hid ht
  have HP := Lib.hid hp
  have BB0 := Lib.hid (Below.refl w.heap.size w)
  have HD := Lib.hid (show md 2000 2 = 29 by kernel_rfl)
  have HJ := Lib.hid (show (2208988800 : Int) / 86400 + 15020 = 40587 by decide)
  clear ht hp
  go_enter Tryd.func15, Tryd.ntmps15
  go_wp2_with fail
  refine (of_m1 _ (HT.out.below BB0.out)).mono ?_
  rintro e w1 ⟨rfl, hb⟩
  have B1 := Lib.hid (BB0.out.trans (hb.mono BB0.out.size))
  have hz1 := hb.size
  clear hb BB0
  have Ya2 := Lib.hid (bx7_new w1 0 0 0 0 0 0 0)
  have D2 := Lib.hid (B1.out.alloc B1.out.size (.cells #[.int .i64 0, .int .i64 0, .int .i64 0, .int .i64 0, .int .i64 0, .int .i64 0, .int .i64 0] 23))
  have hs2 := B1.out.size
  have r2_0 := Ya2.out.cells.1
  have g2_0 := Ya2.out.thaw.1
  have Na2_0 := Lib.hid (Ya2.out.set0 1899)
  have E2_0 := Lib.hid (below_set (C := w1.heap.size) (i := 0) D2.out (by omega) (.int .i64 1899))
  obtain ⟨S2_0, hS2_0⟩ : ∃ W, (w1.alloc (.cells #[.int .i64 0, .int .i64 0, .int .i64 0, .int .i64 0, .int .i64 0, .int .i64 0, .int .i64 0] 23)).setCell ⟨w1.heap.size, 0, none⟩ (.int .i64 1899) = W := ⟨_, rfl⟩
  rw [hS2_0] at Na2_0 E2_0
  clear Ya2 D2
  have r2_1 := Na2_0.out.cells.2.1
  have g2_1 := Na2_0.out.thaw.2.1
  have Na2_1 := Lib.hid (Na2_0.out.set1 12)
  have E2_1 := Lib.hid (below_set (C := w1.heap.size) (i := 1) E2_0.out (by omega) (.int .i64 12))
  obtain ⟨S2_1, hS2_1⟩ : ∃ W, S2_0.setCell ⟨w1.heap.size, 1, none⟩ (.int .i64 12) = W := ⟨_, rfl⟩
  rw [hS2_1] at Na2_1 E2_1
  clear Na2_0 E2_0
  have r2_2 := Na2_1.out.cells.2.2.1
  have g2_2 := Na2_1.out.thaw.2.2.1
  have Na2_2 := Lib.hid (Na2_1.out.set2 31)
  have E2_2 := Lib.hid (below_set (C := w1.heap.size) (i := 2) E2_1.out (by omega) (.int .i64 31))
  obtain ⟨S2_2, hS2_2⟩ : ∃ W, S2_1.setCell ⟨w1.heap.size, 2, none⟩ (.int .i64 31) = W := ⟨_, rfl⟩
  rw [hS2_2] at Na2_2 E2_2
  clear Na2_1 E2_1
  have r2_3 := Na2_2.out.cells.2.2.2.1
  have g2_3 := Na2_2.out.thaw.2.2.2.1
  have Na2_3 := Lib.hid (Na2_2.out.set3 23)
  have E2_3 := Lib.hid (below_set (C := w1.heap.size) (i := 3) E2_2.out (by omega) (.int .i64 23))
  obtain ⟨S2_3, hS2_3⟩ : ∃ W, S2_2.setCell ⟨w1.heap.size, 3, none⟩ (.int .i64 23) = W := ⟨_, rfl⟩
  rw [hS2_3] at Na2_3 E2_3
  clear Na2_2 E2_2
  have r2_4 := Na2_3.out.cells.2.2.2.2.1
  have g2_4 := Na2_3.out.thaw.2.2.2.2.1
  have Na2_4 := Lib.hid (Na2_3.out.set4 59)
  have E2_4 := Lib.hid (below_set (C := w1.heap.size) (i := 4) E2_3.out (by omega) (.int .i64 59))
  obtain ⟨S2_4, hS2_4⟩ : ∃ W, S2_3.setCell ⟨w1.heap.size, 4, none⟩ (.int .i64 59) = W := ⟨_, rfl⟩
  rw [hS2_4] at Na2_4 E2_4
  clear Na2_3 E2_3
  have r2_5 := Na2_4.out.cells.2.2.2.2.2.1
  have g2_5 := Na2_4.out.thaw.2.2.2.2.2.1
  have Na2_5 := Lib.hid (Na2_4.out.set5 59)
  have E2_5 := Lib.hid (below_set (C := w1.heap.size) (i := 5) E2_4.out (by omega) (.int .i64 59))
  obtain ⟨S2_5, hS2_5⟩ : ∃ W, S2_4.setCell ⟨w1.heap.size, 5, none⟩ (.int .i64 59) = W := ⟨_, rfl⟩
  rw [hS2_5] at Na2_5 E2_5
  clear Na2_4 E2_4
  have r2_6 := Na2_5.out.cells.2.2.2.2.2.2
  have g2_6 := Na2_5.out.thaw.2.2.2.2.2.2
  have Na2_6 := Lib.hid (Na2_5.out.set6 0)
  have E2_6 := Lib.hid (below_set (C := w1.heap.size) (i := 6) E2_5.out (by omega) (.int .i64 0))
  obtain ⟨S2_6, hS2_6⟩ : ∃ W, S2_5.setCell ⟨w1.heap.size, 6, none⟩ (.int .i64 0) = W := ⟨_, rfl⟩
  rw [hS2_6] at Na2_6 E2_6
  clear Na2_5 E2_5
  clear B1
  go_wp2_with fail
  clear hs2 r2_0 g2_0 hS2_0 r2_1 g2_1 hS2_1 r2_2 g2_2 hS2_2 r2_3 g2_3 hS2_3 r2_4 g2_4 hS2_4 r2_5 g2_5 hS2_5 r2_6 g2_6 hS2_6
  refine (of_1972 _ (HT.out.below E2_6.out)).mono ?_
  rintro e w3 ⟨rfl, hb⟩
  have Xa3 := Lib.hid (Na2_6.out.below hb Na2_6.out.lt)
  have B3 := Lib.hid (E2_6.out.trans (hb.mono E2_6.out.size))
  have hz3 := hb.size
  clear hb Na2_6 E2_6
  have Yb4 := Lib.hid (bx7_new w3 0 0 0 0 0 0 0)
  have la4 := Xa3.out.lt
  have Ya4 := Lib.hid (Xa3.out.alloc (.cells #[.int .i64 0, .int .i64 0, .int .i64 0, .int .i64 0, .int .i64 0, .int .i64 0, .int .i64 0] 23))
  have D4 := Lib.hid (B3.out.alloc B3.out.size (.cells #[.int .i64 0, .int .i64 0, .int .i64 0, .int .i64 0, .int .i64 0, .int .i64 0, .int .i64 0] 23))
  have hs4 := B3.out.size
  have r4_0 := Yb4.out.cells.1
  have g4_0 := Yb4.out.thaw.1
  have Nb4_0 := Lib.hid (Yb4.out.set0 1972)
  have Na4_0 := Lib.hid (Ya4.out.other (C := w3.heap.size) (i := 0) (by omega) (.int .i64 1972))
  have E4_0 := Lib.hid (below_set (C := w3.heap.size) (i := 0) D4.out (by omega) (.int .i64 1972))
  obtain ⟨S4_0, hS4_0⟩ : ∃ W, (w3.alloc (.cells #[.int .i64 0, .int .i64 0, .int .i64 0, .int .i64 0, .int .i64 0, .int .i64 0, .int .i64 0] 23)).setCell ⟨w3.heap.size, 0, none⟩ (.int .i64 1972) = W := ⟨_, rfl⟩
  rw [hS4_0] at Nb4_0 Na4_0 E4_0
  clear Yb4 Ya4 D4
  have r4_1 := Nb4_0.out.cells.2.1
  have g4_1 := Nb4_0.out.thaw.2.1
  have Nb4_1 := Lib.hid (Nb4_0.out.set1 1)
  have Na4_1 := Lib.hid (Na4_0.out.other (C := w3.heap.size) (i := 1) (by omega) (.int .i64 1))
  have E4_1 := Lib.hid (below_set (C := w3.heap.size) (i := 1) E4_0.out (by omega) (.int .i64 1))
  obtain ⟨S4_1, hS4_1⟩ : ∃ W, S4_0.setCell ⟨w3.heap.size, 1, none⟩ (.int .i64 1) = W := ⟨_, rfl⟩
  rw [hS4_1] at Nb4_1 Na4_1 E4_1
  clear Nb4_0 Na4_0 E4_0
  have r4_2 := Nb4_1.out.cells.2.2.1
  have g4_2 := Nb4_1.out.thaw.2.2.1
  have Nb4_2 := Lib.hid (Nb4_1.out.set2 1)
  have Na4_2 := Lib.hid (Na4_1.out.other (C := w3.heap.size) (i := 2) (by omega) (.int .i64 1))
  have E4_2 := Lib.hid (below_set (C := w3.heap.size) (i := 2) E4_1.out (by omega) (.int .i64 1))
  obtain ⟨S4_2, hS4_2⟩ : ∃ W, S4_1.setCell ⟨w3.heap.size, 2, none⟩ (.int .i64 1) = W := ⟨_, rfl⟩
  rw [hS4_2] at Nb4_2 Na4_2 E4_2
  clear Nb4_1 Na4_1 E4_1
  have r4_3 := Nb4_2.out.cells.2.2.2.1
  have g4_3 := Nb4_2.out.thaw.2.2.2.1
  have Nb4_3 := Lib.hid (Nb4_2.out.set3 0)
  have Na4_3 := Lib.hid (Na4_2.out.other (C := w3.heap.size) (i := 3) (by omega) (.int .i64 0))
  have E4_3 := Lib.hid (below_set (C := w3.heap.size) (i := 3) E4_2.out (by omega) (.int .i64 0))
  obtain ⟨S4_3, hS4_3⟩ : ∃ W, S4_2.setCell ⟨w3.heap.size, 3, none⟩ (.int .i64 0) = W := ⟨_, rfl⟩
  rw [hS4_3] at Nb4_3 Na4_3 E4_3
  clear Nb4_2 Na4_2 E4_2
  have r4_4 := Nb4_3.out.cells.2.2.2.2.1
  have g4_4 := Nb4_3.out.thaw.2.2.2.2.1
  have Nb4_4 := Lib.hid (Nb4_3.out.set4 0)
  have Na4_4 := Lib.hid (Na4_3.out.other (C := w3.heap.size) (i := 4) (by omega) (.int .i64 0))
  have E4_4 := Lib.hid (below_set (C := w3.heap.size) (i := 4) E4_3.out (by omega) (.int .i64 0))
  obtain ⟨S4_4, hS4_4⟩ : ∃ W, S4_3.setCell ⟨w3.heap.size, 4, none⟩ (.int .i64 0) = W := ⟨_, rfl⟩
  rw [hS4_4] at Nb4_4 Na4_4 E4_4
  clear Nb4_3 Na4_3 E4_3
  have r4_5 := Nb4_4.out.cells.2.2.2.2.2.1
  have g4_5 := Nb4_4.out.thaw.2.2.2.2.2.1
  have Nb4_5 := Lib.hid (Nb4_4.out.set5 0)
  have Na4_5 := Lib.hid (Na4_4.out.other (C := w3.heap.size) (i := 5) (by omega) (.int .i64 0))
  have E4_5 := Lib.hid (below_set (C := w3.heap.size) (i := 5) E4_4.out (by omega) (.int .i64 0))
  obtain ⟨S4_5, hS4_5⟩ : ∃ W, S4_4.setCell ⟨w3.heap.size, 5, none⟩ (.int .i64 0) = W := ⟨_, rfl⟩
  rw [hS4_5] at Nb4_5 Na4_5 E4_5
  clear Nb4_4 Na4_4 E4_4
  have r4_6 := Nb4_5.out.cells.2.2.2.2.2.2
  have g4_6 := Nb4_5.out.thaw.2.2.2.2.2.2
  have Nb4_6 := Lib.hid (Nb4_5.out.set6 0)
  have Na4_6 := Lib.hid (Na4_5.out.other (C := w3.heap.size) (i := 6) (by omega) (.int .i64 0))
  have E4_6 := Lib.hid (below_set (C := w3.heap.size) (i := 6) E4_5.out (by omega) (.int .i64 0))
  obtain ⟨S4_6, hS4_6⟩ : ∃ W, S4_5.setCell ⟨w3.heap.size, 6, none⟩ (.int .i64 0) = W := ⟨_, rfl⟩
  rw [hS4_6] at Nb4_6 Na4_6 E4_6
  clear Nb4_5 Na4_5 E4_5
  clear Xa3 B3
  go_wp2_with fail
  clear la4 hs4 r4_0 g4_0 hS4_0 r4_1 g4_1 hS4_1 r4_2 g4_2 hS4_2 r4_3 g4_3 hS4_3 r4_4 g4_4 hS4_4 r4_5 g4_5 hS4_5 r4_6 g4_6 hS4_6
  refine (parse_60 _ (HT.out.below E4_6.out)).mono ?_
  rintro e w5 ⟨rfl, hb⟩
  have Xa5 := Lib.hid (Na4_6.out.below hb Na4_6.out.lt)
  have Xb5 := Lib.hid (Nb4_6.out.below hb Nb4_6.out.lt)
  have B5 := Lib.hid (E4_6.out.trans (hb.mono E4_6.out.size))
  have hz5 := hb.size
  clear hb Na4_6 Nb4_6 E4_6
  have Yp6 := Lib.hid (bx7_new w5 0 0 0 0 0 0 0)
  have la6 := Xa5.out.lt
  have Ya6 := Lib.hid (Xa5.out.alloc (.cells #[.int .i64 0, .int .i64 0, .int .i64 0, .int .i64 0, .int .i64 0, .int .i64 0, .int .i64 0] 23))
  have lb6 := Xb5.out.lt
  have Yb6 := Lib.hid (Xb5.out.alloc (.cells #[.int .i64 0, .int .i64 0, .int .i64 0, .int .i64 0, .int .i64 0, .int .i64 0, .int .i64 0] 23))
  have D6 := Lib.hid (B5.out.alloc B5.out.size (.cells #[.int .i64 0, .int .i64 0, .int .i64 0, .int .i64 0, .int .i64 0, .int .i64 0, .int .i64 0] 23))
  have hs6 := B5.out.size
  have r6_0 := Yp6.out.cells.1
  have g6_0 := Yp6.out.thaw.1
  have Np6_0 := Lib.hid (Yp6.out.set0 0)
  have Na6_0 := Lib.hid (Ya6.out.other (C := w5.heap.size) (i := 0) (by omega) (.int .i64 0))
  have Nb6_0 := Lib.hid (Yb6.out.other (C := w5.heap.size) (i := 0) (by omega) (.int .i64 0))
  have E6_0 := Lib.hid (below_set (C := w5.heap.size) (i := 0) D6.out (by omega) (.int .i64 0))
  obtain ⟨S6_0, hS6_0⟩ : ∃ W, (w5.alloc (.cells #[.int .i64 0, .int .i64 0, .int .i64 0, .int .i64 0, .int .i64 0, .int .i64 0, .int .i64 0] 23)).setCell ⟨w5.heap.size, 0, none⟩ (.int .i64 0) = W := ⟨_, rfl⟩
  rw [hS6_0] at Np6_0 Na6_0 Nb6_0 E6_0
  clear Yp6 Ya6 Yb6 D6
  have r6_1 := Np6_0.out.cells.2.1
  have g6_1 := Np6_0.out.thaw.2.1
  have Np6_1 := Lib.hid (Np6_0.out.set1 0)
  have Na6_1 := Lib.hid (Na6_0.out.other (C := w5.heap.size) (i := 1) (by omega) (.int .i64 0))
  have Nb6_1 := Lib.hid (Nb6_0.out.other (C := w5.heap.size) (i := 1) (by omega) (.int .i64 0))
  have E6_1 := Lib.hid (below_set (C := w5.heap.size) (i := 1) E6_0.out (by omega) (.int .i64 0))
  obtain ⟨S6_1, hS6_1⟩ : ∃ W, S6_0.setCell ⟨w5.heap.size, 1, none⟩ (.int .i64 0) = W := ⟨_, rfl⟩
  rw [hS6_1] at Np6_1 Na6_1 Nb6_1 E6_1
  clear Np6_0 Na6_0 Nb6_0 E6_0
  have r6_2 := Np6_1.out.cells.2.2.1
  have g6_2 := Np6_1.out.thaw.2.2.1
  have Np6_2 := Lib.hid (Np6_1.out.set2 0)
  have Na6_2 := Lib.hid (Na6_1.out.other (C := w5.heap.size) (i := 2) (by omega) (.int .i64 0))
  have Nb6_2 := Lib.hid (Nb6_1.out.other (C := w5.heap.size) (i := 2) (by omega) (.int .i64 0))
  have E6_2 := Lib.hid (below_set (C := w5.heap.size) (i := 2) E6_1.out (by omega) (.int .i64 0))
  obtain ⟨S6_2, hS6_2⟩ : ∃ W, S6_1.setCell ⟨w5.heap.size, 2, none⟩ (.int .i64 0) = W := ⟨_, rfl⟩
  rw [hS6_2] at Np6_2 Na6_2 Nb6_2 E6_2
  clear Np6_1 Na6_1 Nb6_1 E6_1
  have r6_3 := Np6_2.out.cells.2.2.2.1
  have g6_3 := Np6_2.out.thaw.2.2.2.1
  have Np6_3 := Lib.hid (Np6_2.out.set3 0)
  have Na6_3 := Lib.hid (Na6_2.out.other (C := w5.heap.size) (i := 3) (by omega) (.int .i64 0))
  have Nb6_3 := Lib.hid (Nb6_2.out.other (C := w5.heap.size) (i := 3) (by omega) (.int .i64 0))
  have E6_3 := Lib.hid (below_set (C := w5.heap.size) (i := 3) E6_2.out (by omega) (.int .i64 0))
  obtain ⟨S6_3, hS6_3⟩ : ∃ W, S6_2.setCell ⟨w5.heap.size, 3, none⟩ (.int .i64 0) = W := ⟨_, rfl⟩
  rw [hS6_3] at Np6_3 Na6_3 Nb6_3 E6_3
  clear Np6_2 Na6_2 Nb6_2 E6_2
  have r6_4 := Np6_3.out.cells.2.2.2.2.1
  have g6_4 := Np6_3.out.thaw.2.2.2.2.1
  have Np6_4 := Lib.hid (Np6_3.out.set4 0)
  have Na6_4 := Lib.hid (Na6_3.out.other (C := w5.heap.size) (i := 4) (by omega) (.int .i64 0))
  have Nb6_4 := Lib.hid (Nb6_3.out.other (C := w5.heap.size) (i := 4) (by omega) (.int .i64 0))
  have E6_4 := Lib.hid (below_set (C := w5.heap.size) (i := 4) E6_3.out (by omega) (.int .i64 0))
  obtain ⟨S6_4, hS6_4⟩ : ∃ W, S6_3.setCell ⟨w5.heap.size, 4, none⟩ (.int .i64 0) = W := ⟨_, rfl⟩
  rw [hS6_4] at Np6_4 Na6_4 Nb6_4 E6_4
  clear Np6_3 Na6_3 Nb6_3 E6_3
  have r6_5 := Np6_4.out.cells.2.2.2.2.2.1
  have g6_5 := Np6_4.out.thaw.2.2.2.2.2.1
  have Np6_5 := Lib.hid (Np6_4.out.set5 0)
  have Na6_5 := Lib.hid (Na6_4.out.other (C := w5.heap.size) (i := 5) (by omega) (.int .i64 0))
  have Nb6_5 := Lib.hid (Nb6_4.out.other (C := w5.heap.size) (i := 5) (by omega) (.int .i64 0))
  have E6_5 := Lib.hid (below_set (C := w5.heap.size) (i := 5) E6_4.out (by omega) (.int .i64 0))
  obtain ⟨S6_5, hS6_5⟩ : ∃ W, S6_4.setCell ⟨w5.heap.size, 5, none⟩ (.int .i64 0) = W := ⟨_, rfl⟩
  rw [hS6_5] at Np6_5 Na6_5 Nb6_5 E6_5
  clear Np6_4 Na6_4 Nb6_4 E6_4
  have r6_6 := Np6_5.out.cells.2.2.2.2.2.2
  have g6_6 := Np6_5.out.thaw.2.2.2.2.2.2
  have Np6_6 := Lib.hid (Np6_5.out.set6 0)
  have Na6_6 := Lib.hid (Na6_5.out.other (C := w5.heap.size) (i := 6) (by omega) (.int .i64 0))
  have Nb6_6 := Lib.hid (Nb6_5.out.other (C := w5.heap.size) (i := 6) (by omega) (.int .i64 0))
  have E6_6 := Lib.hid (below_set (C := w5.heap.size) (i := 6) E6_5.out (by omega) (.int .i64 0))
  obtain ⟨S6_6, hS6_6⟩ : ∃ W, S6_5.setCell ⟨w5.heap.size, 6, none⟩ (.int .i64 0) = W := ⟨_, rfl⟩
  rw [hS6_6] at Np6_6 Na6_6 Nb6_6 E6_6
  clear Np6_5 Na6_5 Nb6_5 E6_5
  clear Xa5 Xb5 B5
  go_wp2_with fail
  clear la6 lb6 hs6 r6_0 g6_0 hS6_0 r6_1 g6_1 hS6_1 r6_2 g6_2 hS6_2 r6_3 g6_3 hS6_3 r6_4 g6_4 hS6_4 r6_5 g6_5 hS6_5 r6_6 g6_6 hS6_6
  refine (of_zero _ (HT.out.below E6_6.out)).mono ?_
  rintro e w7 ⟨rfl, hb⟩
  have Xa7 := Lib.hid (Na6_6.out.below hb Na6_6.out.lt)
  have Xb7 := Lib.hid (Nb6_6.out.below hb Nb6_6.out.lt)
  have Xp7 := Lib.hid (Np6_6.out.below hb Np6_6.out.lt)
  have B7 := Lib.hid (E6_6.out.trans (hb.mono E6_6.out.size))
  have hz7 := hb.size
  clear hb Na6_6 Nb6_6 Np6_6 E6_6
  have Yz8 := Lib.hid (bx7_new w7 0 0 0 0 0 0 0)
  have la8 := Xa7.out.lt
  have Ya8 := Lib.hid (Xa7.out.alloc (.cells #[.int .i64 0, .int .i64 0, .int .i64 0, .int .i64 0, .int .i64 0, .int .i64 0, .int .i64 0] 23))
  have lb8 := Xb7.out.lt
  have Yb8 := Lib.hid (Xb7.out.alloc (.cells #[.int .i64 0, .int .i64 0, .int .i64 0, .int .i64 0, .int .i64 0, .int .i64 0, .int .i64 0] 23))
  have lp8 := Xp7.out.lt
  have Yp8 := Lib.hid (Xp7.out.alloc (.cells #[.int .i64 0, .int .i64 0, .int .i64 0, .int .i64 0, .int .i64 0, .int .i64 0, .int .i64 0] 23))
  have D8 := Lib.hid (B7.out.alloc B7.out.size (.cells #[.int .i64 0, .int .i64 0, .int .i64 0, .int .i64 0, .int .i64 0, .int .i64 0, .int .i64 0] 23))
  have hs8 := B7.out.size
  have r8_0 := Yz8.out.cells.1
  have g8_0 := Yz8.out.thaw.1
  have Nz8_0 := Lib.hid (Yz8.out.set0 1900)
  have Na8_0 := Lib.hid (Ya8.out.other (C := w7.heap.size) (i := 0) (by omega) (.int .i64 1900))
  have Nb8_0 := Lib.hid (Yb8.out.other (C := w7.heap.size) (i := 0) (by omega) (.int .i64 1900))
  have Np8_0 := Lib.hid (Yp8.out.other (C := w7.heap.size) (i := 0) (by omega) (.int .i64 1900))
  have E8_0 := Lib.hid (below_set (C := w7.heap.size) (i := 0) D8.out (by omega) (.int .i64 1900))
  obtain ⟨S8_0, hS8_0⟩ : ∃ W, (w7.alloc (.cells #[.int .i64 0, .int .i64 0, .int .i64 0, .int .i64 0, .int .i64 0, .int .i64 0, .int .i64 0] 23)).setCell ⟨w7.heap.size, 0, none⟩ (.int .i64 1900) = W := ⟨_, rfl⟩
  rw [hS8_0] at Nz8_0 Na8_0 Nb8_0 Np8_0 E8_0
  clear Yz8 Ya8 Yb8 Yp8 D8
  have r8_1 := Nz8_0.out.cells.2.1
  have g8_1 := Nz8_0.out.thaw.2.1
  have Nz8_1 := Lib.hid (Nz8_0.out.set1 1)
  have Na8_1 := Lib.hid (Na8_0.out.other (C := w7.heap.size) (i := 1) (by omega) (.int .i64 1))
  have Nb8_1 := Lib.hid (Nb8_0.out.other (C := w7.heap.size) (i := 1) (by omega) (.int .i64 1))
  have Np8_1 := Lib.hid (Np8_0.out.other (C := w7.heap.size) (i := 1) (by omega) (.int .i64 1))
  have E8_1 := Lib.hid (below_set (C := w7.heap.size) (i := 1) E8_0.out (by omega) (.int .i64 1))
  obtain ⟨S8_1, hS8_1⟩ : ∃ W, S8_0.setCell ⟨w7.heap.size, 1, none⟩ (.int .i64 1) = W := ⟨_, rfl⟩
  rw [hS8_1] at Nz8_1 Na8_1 Nb8_1 Np8_1 E8_1
  clear Nz8_0 Na8_0 Nb8_0 Np8_0 E8_0
  have r8_2 := Nz8_1.out.cells.2.2.1
  have g8_2 := Nz8_1.out.thaw.2.2.1
  have Nz8_2 := Lib.hid (Nz8_1.out.set2 1)
  have Na8_2 := Lib.hid (Na8_1.out.other (C := w7.heap.size) (i := 2) (by omega) (.int .i64 1))
  have Nb8_2 := Lib.hid (Nb8_1.out.other (C := w7.heap.size) (i := 2) (by omega) (.int .i64 1))
  have Np8_2 := Lib.hid (Np8_1.out.other (C := w7.heap.size) (i := 2) (by omega) (.int .i64 1))
  have E8_2 := Lib.hid (below_set (C := w7.heap.size) (i := 2) E8_1.out (by omega) (.int .i64 1))
  obtain ⟨S8_2, hS8_2⟩ : ∃ W, S8_1.setCell ⟨w7.heap.size, 2, none⟩ (.int .i64 1) = W := ⟨_, rfl⟩
  rw [hS8_2] at Nz8_2 Na8_2 Nb8_2 Np8_2 E8_2
  clear Nz8_1 Na8_1 Nb8_1 Np8_1 E8_1
  have r8_3 := Nz8_2.out.cells.2.2.2.1
  have g8_3 := Nz8_2.out.thaw.2.2.2.1
  have Nz8_3 := Lib.hid (Nz8_2.out.set3 0)
  have Na8_3 := Lib.hid (Na8_2.out.other (C := w7.heap.size) (i := 3) (by omega) (.int .i64 0))
  have Nb8_3 := Lib.hid (Nb8_2.out.other (C := w7.heap.size) (i := 3) (by omega) (.int .i64 0))
  have Np8_3 := Lib.hid (Np8_2.out.other (C := w7.heap.size) (i := 3) (by omega) (.int .i64 0))
  have E8_3 := Lib.hid (below_set (C := w7.heap.size) (i := 3) E8_2.out (by omega) (.int .i64 0))
  obtain ⟨S8_3, hS8_3⟩ : ∃ W, S8_2.setCell ⟨w7.heap.size, 3, none⟩ (.int .i64 0) = W := ⟨_, rfl⟩
  rw [hS8_3] at Nz8_3 Na8_3 Nb8_3 Np8_3 E8_3
  clear Nz8_2 Na8_2 Nb8_2 Np8_2 E8_2
  have r8_4 := Nz8_3.out.cells.2.2.2.2.1
  have g8_4 := Nz8_3.out.thaw.2.2.2.2.1
  have Nz8_4 := Lib.hid (Nz8_3.out.set4 0)
  have Na8_4 := Lib.hid (Na8_3.out.other (C := w7.heap.size) (i := 4) (by omega) (.int .i64 0))
  have Nb8_4 := Lib.hid (Nb8_3.out.other (C := w7.heap.size) (i := 4) (by omega) (.int .i64 0))
  have Np8_4 := Lib.hid (Np8_3.out.other (C := w7.heap.size) (i := 4) (by omega) (.int .i64 0))
  have E8_4 := Lib.hid (below_set (C := w7.heap.size) (i := 4) E8_3.out (by omega) (.int .i64 0))
  obtain ⟨S8_4, hS8_4⟩ : ∃ W, S8_3.setCell ⟨w7.heap.size, 4, none⟩ (.int .i64 0) = W := ⟨_, rfl⟩
  rw [hS8_4] at Nz8_4 Na8_4 Nb8_4 Np8_4 E8_4
  clear Nz8_3 Na8_3 Nb8_3 Np8_3 E8_3
  have r8_5 := Nz8_4.out.cells.2.2.2.2.2.1
  have g8_5 := Nz8_4.out.thaw.2.2.2.2.2.1
  have Nz8_5 := Lib.hid (Nz8_4.out.set5 0)
  have Na8_5 := Lib.hid (Na8_4.out.other (C := w7.heap.size) (i := 5) (by omega) (.int .i64 0))
  have Nb8_5 := Lib.hid (Nb8_4.out.other (C := w7.heap.size) (i := 5) (by omega) (.int .i64 0))
  have Np8_5 := Lib.hid (Np8_4.out.other (C := w7.heap.size) (i := 5) (by omega) (.int .i64 0))
  have E8_5 := Lib.hid (below_set (C := w7.heap.size) (i := 5) E8_4.out (by omega) (.int .i64 0))
  obtain ⟨S8_5, hS8_5⟩ : ∃ W, S8_4.setCell ⟨w7.heap.size, 5, none⟩ (.int .i64 0) = W := ⟨_, rfl⟩
  rw [hS8_5] at Nz8_5 Na8_5 Nb8_5 Np8_5 E8_5
  clear Nz8_4 Na8_4 Nb8_4 Np8_4 E8_4
  have r8_6 := Nz8_5.out.cells.2.2.2.2.2.2
  have g8_6 := Nz8_5.out.thaw.2.2.2.2.2.2
  have Nz8_6 := Lib.hid (Nz8_5.out.set6 0)
  have Na8_6 := Lib.hid (Na8_5.out.other (C := w7.heap.size) (i := 6) (by omega) (.int .i64 0))
  have Nb8_6 := Lib.hid (Nb8_5.out.other (C := w7.heap.size) (i := 6) (by omega) (.int .i64 0))
  have Np8_6 := Lib.hid (Np8_5.out.other (C := w7.heap.size) (i := 6) (by omega) (.int .i64 0))
  have E8_6 := Lib.hid (below_set (C := w7.heap.size) (i := 6) E8_5.out (by omega) (.int .i64 0))
  obtain ⟨S8_6, hS8_6⟩ : ∃ W, S8_5.setCell ⟨w7.heap.size, 6, none⟩ (.int .i64 0) = W := ⟨_, rfl⟩
  rw [hS8_6] at Nz8_6 Na8_6 Nb8_6 Np8_6 E8_6
  clear Nz8_5 Na8_5 Nb8_5 Np8_5 E8_5
  clear Xa7 Xb7 Xp7 B7
  obtain ⟨c9_0, c9_1, c9_2, c9_3, c9_4, c9_5, c9_6⟩ := Na8_6.out.cells
  obtain ⟨c10_0, c10_1, c10_2, c10_3, c10_4, c10_5, c10_6⟩ := Nb8_6.out.cells
  obtain ⟨c11_0, c11_1, c11_2, c11_3, c11_4, c11_5, c11_6⟩ := Nz8_6.out.cells
  go_wp2_with fail
  clear la8 lb8 lp8 hs8 r8_0 g8_0 hS8_0 r8_1 g8_1 hS8_1 r8_2 g8_2 hS8_2 r8_3 g8_3 hS8_3 r8_4 g8_4 hS8_4 r8_5 g8_5 hS8_5 r8_6 g8_6 hS8_6 c9_0 c9_1 c9_2 c9_3 c9_4 c9_5 c9_6 c10_0 c10_1 c10_2 c10_3 c10_4 c10_5 c10_6 c11_0 c11_1 c11_2 c11_3 c11_4 c11_5 c11_6
  refine (text_zero _ (HT.out.below E8_6.out) (HP.out.below E8_6.out)).mono ?_
  rintro e w12 ⟨rfl, hb⟩
  have Xa12 := Lib.hid (Na8_6.out.below hb Na8_6.out.lt)
  have Xb12 := Lib.hid (Nb8_6.out.below hb Nb8_6.out.lt)
  have Xp12 := Lib.hid (Np8_6.out.below hb Np8_6.out.lt)
  have Xz12 := Lib.hid (Nz8_6.out.below hb Nz8_6.out.lt)
  have B12 := Lib.hid (E8_6.out.trans (hb.mono E8_6.out.size))
  have hz12 := hb.size
  clear hb Na8_6 Nb8_6 Np8_6 Nz8_6 E8_6
  go_wp2_with fail
  refine (pmjd_any 2208988800 _ (by decide) (by decide)).mono ?_
  rintro e w' ⟨rfl, hw'⟩; subst w'
  rw [HJ.out]
  go_wp2_with fail
  refine (pmd_any 2000 2 _ (HT.out.below B12.out) (by decide) (by decide)).mono ?_
  rintro e w' ⟨rfl, hw'⟩; subst w'
  rw [HD.out]
  go_wp2_with fail
  go_ret
  exact ⟨rfl, B12.out⟩

theorem days_any (t y m : Int) (w : World) (ht : MT w) (hp : Tab w) (t0 : -9223372036854775808 ≤ t) (t1 : t ≤ 9223372036854775807) (y0 : -9223372036854775808 ≤ y) (y1 : y ≤ 9223372036854775807) :
    Calls Tryd.prog 5 #[.int .i64 t, .int .i64 y, .int .i64 m] w fun e w' => e = .returned (.bool true) ∧ Below w.heap.size w w' := by
  have HT := Lib.hid ht
  have HP := Lib.hid hp
  have BB0 := Lib.hid (Below.refl w.heap.size w)
  clear ht hp
  obtain ⟨D, hD⟩ : ∃ D, t / 86400 % 7 = D := ⟨_, rfl⟩
  obtain ⟨J, hJ⟩ : ∃ J, t / 86400 + 15020 = J := ⟨_, rfl⟩
  obtain ⟨M, hM⟩ : ∃ M, md y m = M := ⟨_, rfl⟩
  have HD := Lib.hid hD
  have HJ := Lib.hid hJ
  have HM := Lib.hid hM
  clear hD hJ hM
  go_enter Tryd.func5, Tryd.ntmps5
  go_wp2_with fail
  refine (pwday_any t _ t0 t1).mono ?_
  rintro e w' ⟨rfl, hw'⟩; subst w'
  rw [HD.out]
  go_wp2_with fail
  refine (rwday_any t _ t0 t1).mono ?_
  rintro e w' ⟨rfl, hw'⟩; subst w'
  rw [HD.out]
  go_wp2_with fail
  refine (pmjd_any t _ t0 t1).mono ?_
  rintro e w' ⟨rfl, hw'⟩; subst w'
  rw [HJ.out]
  go_wp2_with fail
  refine (rmjd_any t _ t0 t1).mono ?_
  rintro e w' ⟨rfl, hw'⟩; subst w'
  rw [HJ.out]
  go_wp2_with fail
  refine (pmd_any y m _ HT.out y0 y1).mono ?_
  rintro e w' ⟨rfl, hw'⟩; subst w'
  rw [HM.out]
  go_wp2_with fail
  refine (rmd_any y m _ y0 y1).mono ?_
  rintro e w' ⟨rfl, hw'⟩; subst w'
  rw [HM.out]
  go_wp2_with fail
  refine (awake5_any _ HT.out HP.out).mono ?_
  rintro e w1 ⟨rfl, hb⟩
  have B1 := Lib.hid (BB0.out.trans (hb.mono BB0.out.size))
  have hz1 := hb.size
  clear hb BB0
  go_wp2_with fail
  go_ret
  exact ⟨rfl, B1.out⟩

set_option maxRecDepth 100000 in
set_option maxHeartbeats 1000000 in
theorem of_law (t : Int) (w : World) (ht : MT w) (hp : Tab w) :
    Calls Tryd.prog 4 #[.int .i64 t] w fun e w' => e = .returned (.bool true) ∧ Below w.heap.size w w' := by
  have HT := Lib.hid ht
  have HP := Lib.hid hp
  have BB0 := Lib.hid (Below.refl w.heap.size w)
  clear ht hp
  obtain ⟨Y, hY⟩ : ∃ x, ofP t (oY t) = x := ⟨_, rfl⟩
  obtain ⟨M, hM⟩ : ∃ x, ofP t (oM t) = x := ⟨_, rfl⟩
  obtain ⟨D, hD⟩ : ∃ x, ofP t (oD t) = x := ⟨_, rfl⟩
  obtain ⟨H, hH⟩ : ∃ x, ofP t (oH t) = x := ⟨_, rfl⟩
  obtain ⟨I, hI⟩ : ∃ x, ofP t (oI t) = x := ⟨_, rfl⟩
  obtain ⟨S, hS⟩ : ∃ x, ofP t (oS t) = x := ⟨_, rfl⟩
  obtain ⟨N, hN⟩ : ∃ x, ofP t (0) = x := ⟨_, rfl⟩
  obtain ⟨E, hE⟩ : ∃ x, ofE t = x := ⟨_, rfl⟩
  have HO : Hid (∀ u : World, MT u → Calls Tryd.prog 16 #[.int .i64 t] u fun e w' => e = .returned (.tuple #[.agg #[.int .i64 Y, .int .i64 M, .int .i64 D, .int .i64 H, .int .i64 I, .int .i64 S, .int .i64 N], .int .i64 E]) ∧ Below u.heap.size u w') := Lib.hid (fun u hu => by
    have h := pof_any t u hu
    rw [hY, hM, hD, hH, hI, hS, hN, hE] at h; exact h)
  have HR : Hid (∀ u : World, Calls Tryd.prog 17 #[.int .i64 t] u fun e w' => e = .returned (.tuple #[.agg #[.int .i64 Y, .int .i64 M, .int .i64 D, .int .i64 H, .int .i64 I, .int .i64 S, .int .i64 N], .int .i64 E]) ∧ Below u.heap.size u w') := Lib.hid (fun u => by
    have h := rof_any t u
    rw [hY, hM, hD, hH, hI, hS, hN, hE] at h; exact h)
  clear hY hM hD hH hI hS hN hE
  go_enter Tryd.func4, Tryd.ntmps4
  go_wp2_with fail
  refine (HO.out _ (HT.out.below BB0.out)).mono ?_
  rintro e w1 ⟨rfl, hb⟩
  have B1 := Lib.hid (BB0.out.trans (hb.mono BB0.out.size))
  have hz1 := hb.size
  clear hb BB0
  have Ya2 := Lib.hid (bx7_new w1 0 0 0 0 0 0 0)
  have D2 := Lib.hid (B1.out.alloc B1.out.size (.cells #[.int .i64 0, .int .i64 0, .int .i64 0, .int .i64 0, .int .i64 0, .int .i64 0, .int .i64 0] 23))
  have hs2 := B1.out.size
  have r2_0 := Ya2.out.cells.1
  have g2_0 := Ya2.out.thaw.1
  have Na2_0 := Lib.hid (Ya2.out.set0 Y)
  have E2_0 := Lib.hid (below_set (C := w1.heap.size) (i := 0) D2.out (by omega) (.int .i64 Y))
  obtain ⟨S2_0, hS2_0⟩ : ∃ W, (w1.alloc (.cells #[.int .i64 0, .int .i64 0, .int .i64 0, .int .i64 0, .int .i64 0, .int .i64 0, .int .i64 0] 23)).setCell ⟨w1.heap.size, 0, none⟩ (.int .i64 Y) = W := ⟨_, rfl⟩
  rw [hS2_0] at Na2_0 E2_0
  clear Ya2 D2
  have r2_1 := Na2_0.out.cells.2.1
  have g2_1 := Na2_0.out.thaw.2.1
  have Na2_1 := Lib.hid (Na2_0.out.set1 M)
  have E2_1 := Lib.hid (below_set (C := w1.heap.size) (i := 1) E2_0.out (by omega) (.int .i64 M))
  obtain ⟨S2_1, hS2_1⟩ : ∃ W, S2_0.setCell ⟨w1.heap.size, 1, none⟩ (.int .i64 M) = W := ⟨_, rfl⟩
  rw [hS2_1] at Na2_1 E2_1
  clear Na2_0 E2_0
  have r2_2 := Na2_1.out.cells.2.2.1
  have g2_2 := Na2_1.out.thaw.2.2.1
  have Na2_2 := Lib.hid (Na2_1.out.set2 D)
  have E2_2 := Lib.hid (below_set (C := w1.heap.size) (i := 2) E2_1.out (by omega) (.int .i64 D))
  obtain ⟨S2_2, hS2_2⟩ : ∃ W, S2_1.setCell ⟨w1.heap.size, 2, none⟩ (.int .i64 D) = W := ⟨_, rfl⟩
  rw [hS2_2] at Na2_2 E2_2
  clear Na2_1 E2_1
  have r2_3 := Na2_2.out.cells.2.2.2.1
  have g2_3 := Na2_2.out.thaw.2.2.2.1
  have Na2_3 := Lib.hid (Na2_2.out.set3 H)
  have E2_3 := Lib.hid (below_set (C := w1.heap.size) (i := 3) E2_2.out (by omega) (.int .i64 H))
  obtain ⟨S2_3, hS2_3⟩ : ∃ W, S2_2.setCell ⟨w1.heap.size, 3, none⟩ (.int .i64 H) = W := ⟨_, rfl⟩
  rw [hS2_3] at Na2_3 E2_3
  clear Na2_2 E2_2
  have r2_4 := Na2_3.out.cells.2.2.2.2.1
  have g2_4 := Na2_3.out.thaw.2.2.2.2.1
  have Na2_4 := Lib.hid (Na2_3.out.set4 I)
  have E2_4 := Lib.hid (below_set (C := w1.heap.size) (i := 4) E2_3.out (by omega) (.int .i64 I))
  obtain ⟨S2_4, hS2_4⟩ : ∃ W, S2_3.setCell ⟨w1.heap.size, 4, none⟩ (.int .i64 I) = W := ⟨_, rfl⟩
  rw [hS2_4] at Na2_4 E2_4
  clear Na2_3 E2_3
  have r2_5 := Na2_4.out.cells.2.2.2.2.2.1
  have g2_5 := Na2_4.out.thaw.2.2.2.2.2.1
  have Na2_5 := Lib.hid (Na2_4.out.set5 S)
  have E2_5 := Lib.hid (below_set (C := w1.heap.size) (i := 5) E2_4.out (by omega) (.int .i64 S))
  obtain ⟨S2_5, hS2_5⟩ : ∃ W, S2_4.setCell ⟨w1.heap.size, 5, none⟩ (.int .i64 S) = W := ⟨_, rfl⟩
  rw [hS2_5] at Na2_5 E2_5
  clear Na2_4 E2_4
  have r2_6 := Na2_5.out.cells.2.2.2.2.2.2
  have g2_6 := Na2_5.out.thaw.2.2.2.2.2.2
  have Na2_6 := Lib.hid (Na2_5.out.set6 N)
  have E2_6 := Lib.hid (below_set (C := w1.heap.size) (i := 6) E2_5.out (by omega) (.int .i64 N))
  obtain ⟨S2_6, hS2_6⟩ : ∃ W, S2_5.setCell ⟨w1.heap.size, 6, none⟩ (.int .i64 N) = W := ⟨_, rfl⟩
  rw [hS2_6] at Na2_6 E2_6
  clear Na2_5 E2_5
  clear B1
  go_wp2_with fail
  clear hs2 r2_0 g2_0 hS2_0 r2_1 g2_1 hS2_1 r2_2 g2_2 hS2_2 r2_3 g2_3 hS2_3 r2_4 g2_4 hS2_4 r2_5 g2_5 hS2_5 r2_6 g2_6 hS2_6
  refine (HR.out _).mono ?_
  rintro e w3 ⟨rfl, hb⟩
  have Xa3 := Lib.hid (Na2_6.out.below hb Na2_6.out.lt)
  have B3 := Lib.hid (E2_6.out.trans (hb.mono E2_6.out.size))
  have hz3 := hb.size
  clear hb Na2_6 E2_6
  have Yb4 := Lib.hid (bx7_new w3 0 0 0 0 0 0 0)
  have la4 := Xa3.out.lt
  have Ya4 := Lib.hid (Xa3.out.alloc (.cells #[.int .i64 0, .int .i64 0, .int .i64 0, .int .i64 0, .int .i64 0, .int .i64 0, .int .i64 0] 23))
  have D4 := Lib.hid (B3.out.alloc B3.out.size (.cells #[.int .i64 0, .int .i64 0, .int .i64 0, .int .i64 0, .int .i64 0, .int .i64 0, .int .i64 0] 23))
  have hs4 := B3.out.size
  have r4_0 := Yb4.out.cells.1
  have g4_0 := Yb4.out.thaw.1
  have Nb4_0 := Lib.hid (Yb4.out.set0 Y)
  have Na4_0 := Lib.hid (Ya4.out.other (C := w3.heap.size) (i := 0) (by omega) (.int .i64 Y))
  have E4_0 := Lib.hid (below_set (C := w3.heap.size) (i := 0) D4.out (by omega) (.int .i64 Y))
  obtain ⟨S4_0, hS4_0⟩ : ∃ W, (w3.alloc (.cells #[.int .i64 0, .int .i64 0, .int .i64 0, .int .i64 0, .int .i64 0, .int .i64 0, .int .i64 0] 23)).setCell ⟨w3.heap.size, 0, none⟩ (.int .i64 Y) = W := ⟨_, rfl⟩
  rw [hS4_0] at Nb4_0 Na4_0 E4_0
  clear Yb4 Ya4 D4
  have r4_1 := Nb4_0.out.cells.2.1
  have g4_1 := Nb4_0.out.thaw.2.1
  have Nb4_1 := Lib.hid (Nb4_0.out.set1 M)
  have Na4_1 := Lib.hid (Na4_0.out.other (C := w3.heap.size) (i := 1) (by omega) (.int .i64 M))
  have E4_1 := Lib.hid (below_set (C := w3.heap.size) (i := 1) E4_0.out (by omega) (.int .i64 M))
  obtain ⟨S4_1, hS4_1⟩ : ∃ W, S4_0.setCell ⟨w3.heap.size, 1, none⟩ (.int .i64 M) = W := ⟨_, rfl⟩
  rw [hS4_1] at Nb4_1 Na4_1 E4_1
  clear Nb4_0 Na4_0 E4_0
  have r4_2 := Nb4_1.out.cells.2.2.1
  have g4_2 := Nb4_1.out.thaw.2.2.1
  have Nb4_2 := Lib.hid (Nb4_1.out.set2 D)
  have Na4_2 := Lib.hid (Na4_1.out.other (C := w3.heap.size) (i := 2) (by omega) (.int .i64 D))
  have E4_2 := Lib.hid (below_set (C := w3.heap.size) (i := 2) E4_1.out (by omega) (.int .i64 D))
  obtain ⟨S4_2, hS4_2⟩ : ∃ W, S4_1.setCell ⟨w3.heap.size, 2, none⟩ (.int .i64 D) = W := ⟨_, rfl⟩
  rw [hS4_2] at Nb4_2 Na4_2 E4_2
  clear Nb4_1 Na4_1 E4_1
  have r4_3 := Nb4_2.out.cells.2.2.2.1
  have g4_3 := Nb4_2.out.thaw.2.2.2.1
  have Nb4_3 := Lib.hid (Nb4_2.out.set3 H)
  have Na4_3 := Lib.hid (Na4_2.out.other (C := w3.heap.size) (i := 3) (by omega) (.int .i64 H))
  have E4_3 := Lib.hid (below_set (C := w3.heap.size) (i := 3) E4_2.out (by omega) (.int .i64 H))
  obtain ⟨S4_3, hS4_3⟩ : ∃ W, S4_2.setCell ⟨w3.heap.size, 3, none⟩ (.int .i64 H) = W := ⟨_, rfl⟩
  rw [hS4_3] at Nb4_3 Na4_3 E4_3
  clear Nb4_2 Na4_2 E4_2
  have r4_4 := Nb4_3.out.cells.2.2.2.2.1
  have g4_4 := Nb4_3.out.thaw.2.2.2.2.1
  have Nb4_4 := Lib.hid (Nb4_3.out.set4 I)
  have Na4_4 := Lib.hid (Na4_3.out.other (C := w3.heap.size) (i := 4) (by omega) (.int .i64 I))
  have E4_4 := Lib.hid (below_set (C := w3.heap.size) (i := 4) E4_3.out (by omega) (.int .i64 I))
  obtain ⟨S4_4, hS4_4⟩ : ∃ W, S4_3.setCell ⟨w3.heap.size, 4, none⟩ (.int .i64 I) = W := ⟨_, rfl⟩
  rw [hS4_4] at Nb4_4 Na4_4 E4_4
  clear Nb4_3 Na4_3 E4_3
  have r4_5 := Nb4_4.out.cells.2.2.2.2.2.1
  have g4_5 := Nb4_4.out.thaw.2.2.2.2.2.1
  have Nb4_5 := Lib.hid (Nb4_4.out.set5 S)
  have Na4_5 := Lib.hid (Na4_4.out.other (C := w3.heap.size) (i := 5) (by omega) (.int .i64 S))
  have E4_5 := Lib.hid (below_set (C := w3.heap.size) (i := 5) E4_4.out (by omega) (.int .i64 S))
  obtain ⟨S4_5, hS4_5⟩ : ∃ W, S4_4.setCell ⟨w3.heap.size, 5, none⟩ (.int .i64 S) = W := ⟨_, rfl⟩
  rw [hS4_5] at Nb4_5 Na4_5 E4_5
  clear Nb4_4 Na4_4 E4_4
  have r4_6 := Nb4_5.out.cells.2.2.2.2.2.2
  have g4_6 := Nb4_5.out.thaw.2.2.2.2.2.2
  have Nb4_6 := Lib.hid (Nb4_5.out.set6 N)
  have Na4_6 := Lib.hid (Na4_5.out.other (C := w3.heap.size) (i := 6) (by omega) (.int .i64 N))
  have E4_6 := Lib.hid (below_set (C := w3.heap.size) (i := 6) E4_5.out (by omega) (.int .i64 N))
  obtain ⟨S4_6, hS4_6⟩ : ∃ W, S4_5.setCell ⟨w3.heap.size, 6, none⟩ (.int .i64 N) = W := ⟨_, rfl⟩
  rw [hS4_6] at Nb4_6 Na4_6 E4_6
  clear Nb4_5 Na4_5 E4_5
  clear Xa3 B3
  obtain ⟨c5_0, c5_1, c5_2, c5_3, c5_4, c5_5, c5_6⟩ := Na4_6.out.cells
  obtain ⟨c6_0, c6_1, c6_2, c6_3, c6_4, c6_5, c6_6⟩ := Nb4_6.out.cells
  go_wp2_with fail
  clear la4 hs4 r4_0 g4_0 hS4_0 r4_1 g4_1 hS4_1 r4_2 g4_2 hS4_2 r4_3 g4_3 hS4_3 r4_4 g4_4 hS4_4 r4_5 g4_5 hS4_5 r4_6 g4_6 hS4_6 c5_0 c5_1 c5_2 c5_3 c5_4 c5_5 c5_6 c6_0 c6_1 c6_2 c6_3 c6_4 c6_5 c6_6
  refine (awake5_any _ (HT.out.below E4_6.out) (HP.out.below E4_6.out)).mono ?_
  rintro e w7 ⟨rfl, hb⟩
  have Xa7 := Lib.hid (Na4_6.out.below hb Na4_6.out.lt)
  have Xb7 := Lib.hid (Nb4_6.out.below hb Nb4_6.out.lt)
  have B7 := Lib.hid (E4_6.out.trans (hb.mono E4_6.out.size))
  have hz7 := hb.size
  clear hb Na4_6 Nb4_6 E4_6
  go_wp2_with fail
  go_ret
  exact ⟨rfl, B7.out⟩
end Go.Proofs.YtnhaflnlhcabpaaDoor
