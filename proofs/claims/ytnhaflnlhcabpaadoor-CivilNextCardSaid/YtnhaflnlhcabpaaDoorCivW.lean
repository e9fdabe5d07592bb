/- Layer 5: CivilNext. -/
import Derived.Test.YtnhaflnlhcabpaaDoorCivV
import Derived.Deep.RegionHeld3
namespace Go.Proofs.YtnhaflnlhcabpaaDoor
open Go.RowKit Fx Cv Pt

set_option maxRecDepth 100000 in
set_option maxHeartbeats 1000000 in
theorem after_0 (y m d hh mi s n : Int) (w : World) (ht : MT w) (s0 : 0 ≤ s) (s1 : s ≤ 59) (i0 : 0 ≤ mi) (i1 : mi ≤ 59) (h0 : 0 ≤ hh) (h1 : hh ≤ 23) (m0 : 1 ≤ m) (m1 : m ≤ 12) (_d0 : 1 ≤ d) (d1 : d ≤ md y m) (y0 : 1600 ≤ y) (y1 : y ≤ 2200) (a : s ≤ 58) :
    Calls Tryd.prog 28 #[.agg #[.int .i64 y, .int .i64 m, .int .i64 d, .int .i64 hh, .int .i64 mi, .int .i64 s, .int .i64 n]] w fun e w' => e = .returned (.agg #[.int .i64 y, .int .i64 m, .int .i64 d, .int .i64 hh, .int .i64 mi, .int .i64 (s + 1), .int .i64 n]) ∧ Below w.heap.size w w' := by
  have hmd := (md_bound (y := y) m0 m1).2
  obtain ⟨M, hM⟩ : ∃ M, md y m = M := ⟨_, rfl⟩
  rw [hM] at hmd d1
  have HM := Lib.hid hM
  have HT := Lib.hid ht
  have X0 := Lib.hid (bx7_new w y m d hh mi s n)
  have B0 := Lib.hid ((Below.refl w.heap.size w).alloc (Nat.le_refl _) (.cells #[.int .i64 y, .int .i64 m, .int .i64 d, .int .i64 hh, .int .i64 mi, .int .i64 s, .int .i64 n] 23))
  obtain ⟨W0, hW0⟩ : ∃ W, w.alloc (.cells #[.int .i64 y, .int .i64 m, .int .i64 d, .int .i64 hh, .int .i64 mi, .int .i64 s, .int .i64 n] 23) = W := ⟨_, rfl⟩
  rw [hW0] at X0 B0
  have Y0 := Lib.hid (bx7_new W0 0 0 0 0 0 0 0)
  have X1 := Lib.hid (X0.out.alloc (.cells #[.int .i64 0, .int .i64 0, .int .i64 0, .int .i64 0, .int .i64 0, .int .i64 0, .int .i64 0] 23))
  have lt0 := X0.out.lt
  have sz0 := B0.out.size
  have BB1 := Lib.hid (B0.out.alloc sz0 (.cells #[.int .i64 0, .int .i64 0, .int .i64 0, .int .i64 0, .int .i64 0, .int .i64 0, .int .i64 0] 23))
  obtain ⟨W1, hW1⟩ : ∃ W, W0.alloc (.cells #[.int .i64 0, .int .i64 0, .int .i64 0, .int .i64 0, .int .i64 0, .int .i64 0, .int .i64 0] 23) = W := ⟨_, rfl⟩
  rw [hW1] at Y0 X1 BB1
  clear hM ht X0 B0
  obtain ⟨c1_0, c1_1, c1_2, c1_3, c1_4, c1_5, c1_6⟩ := X1.out.cells
  have r2 := X1.out.cells.2.2.2.2.2.1
  have g2 := X1.out.thaw.2.2.2.2.2.1
  have Nc2 := Lib.hid (X1.out.set5 (s + 1))
  have Nr2 := Lib.hid (Y0.out.other (C := w.heap.size) (i := 5) (by omega) (.int .i64 (s + 1)))
  have E2 := Lib.hid (below_set (C := w.heap.size) (i := 5) BB1.out (by omega) (.int .i64 (s + 1)))
  obtain ⟨S2, hS2⟩ : ∃ W, W1.setCell ⟨w.heap.size, 5, none⟩ (.int .i64 (s + 1)) = W := ⟨_, rfl⟩
  rw [hS2] at Nc2 Nr2 E2
  clear X1 Y0 BB1
  obtain ⟨c3_0, c3_1, c3_2, c3_3, c3_4, c3_5, c3_6⟩ := Nc2.out.cells
  go_enter Tryd.func28, Tryd.ntmps28
  go_wp2_with fail
  go_quiet ((go_at_call 22; exact Calls.quiet_of_same ((pmd_any y m _ (MT.drewN (show MT S2 from HT.out.below E2.out) _) (by omega) (by omega)).mono (by rintro e w' ⟨rfl, rfl⟩; rw [HM.out]; exact ⟨rfl, rfl⟩))))
  clear hW0 hW1 c1_0 c1_1 c1_2 c1_3 c1_4 c1_5 c1_6 r2 g2 hS2 c3_0 c3_1 c3_2 c3_3 c3_4 c3_5 c3_6
  have Qc4 := Lib.hid (Nc2.out.drewN nq)
  have Qr4 := Lib.hid (Nr2.out.drewN nq)
  have QB4 := Lib.hid (blwn E2.out nq)
  obtain ⟨Q4, hQ⟩ : ∃ W, S2.drewN nq = W := ⟨_, rfl⟩
  rw [hQ] at Qc4 Qr4 QB4 ⊢
  clear hQ Nc2 Nr2 E2
  obtain ⟨c5_0, c5_1, c5_2, c5_3, c5_4, c5_5, c5_6⟩ := Qc4.out.cells
  have r6 := Qr4.out.cells.1
  have g6 := Qr4.out.thaw.1
  have Nr6 := Lib.hid (Qr4.out.set0 y)
  have Nc6 := Lib.hid (Qc4.out.other (C := W0.heap.size) (i := 0) (by omega) (.int .i64 y))
  have E6 := Lib.hid (below_set (C := W0.heap.size) (i := 0) QB4.out (by omega) (.int .i64 y))
  obtain ⟨S6, hS6⟩ : ∃ W, Q4.setCell ⟨W0.heap.size, 0, none⟩ (.int .i64 y) = W := ⟨_, rfl⟩
  rw [hS6] at Nr6 Nc6 E6
  clear Qc4 Qr4 QB4
  have r7 := Nr6.out.cells.2.1
  have g7 := Nr6.out.thaw.2.1
  have Nr7 := Lib.hid (Nr6.out.set1 m)
  have Nc7 := Lib.hid (Nc6.out.other (C := W0.heap.size) (i := 1) (by omega) (.int .i64 m))
  have E7 := Lib.hid (below_set (C := W0.heap.size) (i := 1) E6.out (by omega) (.int .i64 m))
  obtain ⟨S7, hS7⟩ : ∃ W, S6.setCell ⟨W0.heap.size, 1, none⟩ (.int .i64 m) = W := ⟨_, rfl⟩
  rw [hS7] at Nr7 Nc7 E7
  clear Nc6 Nr6 E6
  have r8 := Nr7.out.cells.2.2.1
  have g8 := Nr7.out.thaw.2.2.1
  have Nr8 := Lib.hid (Nr7.out.set2 d)
  have Nc8 := Lib.hid (Nc7.out.other (C := W0.heap.size) (i := 2) (by omega) (.int .i64 d))
  have E8 := Lib.hid (below_set (C := W0.heap.size) (i := 2) E7.out (by omega) (.int .i64 d))
  obtain ⟨S8, hS8⟩ : ∃ W, S7.setCell ⟨W0.heap.size, 2, none⟩ (.int .i64 d) = W := ⟨_, rfl⟩
  rw [hS8] at Nr8 Nc8 E8
  clear Nc7 Nr7 E7
  have r9 := Nr8.out.cells.2.2.2.1
  have g9 := Nr8.out.thaw.2.2.2.1
  have Nr9 := Lib.hid (Nr8.out.set3 hh)
  have Nc9 := Lib.hid (Nc8.out.other (C := W0.heap.size) (i := 3) (by omega) (.int .i64 hh))
  have E9 := Lib.hid (below_set (C := W0.heap.size) (i := 3) E8.out (by omega) (.int .i64 hh))
  obtain ⟨S9, hS9⟩ : ∃ W, S8.setCell ⟨W0.heap.size, 3, none⟩ (.int .i64 hh) = W := ⟨_, rfl⟩
  rw [hS9] at Nr9 Nc9 E9
  clear Nc8 Nr8 E8
  have r10 := Nr9.out.cells.2.2.2.2.1
  have g10 := Nr9.out.thaw.2.2.2.2.1
  have Nr10 := Lib.hid (Nr9.out.set4 mi)
  have Nc10 := Lib.hid (Nc9.out.other (C := W0.heap.size) (i := 4) (by omega) (.int .i64 mi))
  have E10 := Lib.hid (below_set (C := W0.heap.size) (i := 4) E9.out (by omega) (.int .i64 mi))
  obtain ⟨S10, hS10⟩ : ∃ W, S9.setCell ⟨W0.heap.size, 4, none⟩ (.int .i64 mi) = W := ⟨_, rfl⟩
  rw [hS10] at Nr10 Nc10 E10
  clear Nc9 Nr9 E9
  have r11 := Nr10.out.cells.2.2.2.2.2.1
  have g11 := Nr10.out.thaw.2.2.2.2.2.1
  have Nr11 := Lib.hid (Nr10.out.set5 (s + 1))
  have Nc11 := Lib.hid (Nc10.out.other (C := W0.heap.size) (i := 5) (by omega) (.int .i64 (s + 1)))
  have E11 := Lib.hid (below_set (C := W0.heap.size) (i := 5) E10.out (by omega) (.int .i64 (s + 1)))
  obtain ⟨S11, hS11⟩ : ∃ W, S10.setCell ⟨W0.heap.size, 5, none⟩ (.int .i64 (s + 1)) = W := ⟨_, rfl⟩
  rw [hS11] at Nr11 Nc11 E11
  clear Nc10 Nr10 E10
  have r12 := Nr11.out.cells.2.2.2.2.2.2
  have g12 := Nr11.out.thaw.2.2.2.2.2.2
  have Nr12 := Lib.hid (Nr11.out.set6 n)
  have Nc12 := Lib.hid (Nc11.out.other (C := W0.heap.size) (i := 6) (by omega) (.int .i64 n))
  have E12 := Lib.hid (below_set (C := W0.heap.size) (i := 6) E11.out (by omega) (.int .i64 n))
  obtain ⟨S12, hS12⟩ : ∃ W, S11.setCell ⟨W0.heap.size, 6, none⟩ (.int .i64 n) = W := ⟨_, rfl⟩
  rw [hS12] at Nr12 Nc12 E12
  clear Nc11 Nr11 E11
  go_wp2_with fail
  clear c5_0 c5_1 c5_2 c5_3 c5_4 c5_5 c5_6 r6 g6 hS6 r7 g7 hS7 r8 g8 hS8 r9 g9 hS9 r10 g10 hS10 r11 g11 hS11 r12 g12 hS12
  obtain ⟨k0, k1, k2, k3, k4, k5, k6⟩ := Nr12.out.cells
  exact bodyPost_ret (v := .agg #[.int .i64 y, .int .i64 m, .int .i64 d, .int .i64 hh, .int .i64 mi, .int .i64 (s + 1), .int .i64 n]) (by simp [results, Tryd.results28, go_sem, k0, k1, k2, k3, k4, k5, k6]) rfl ⟨rfl, E12.out⟩

set_option maxRecDepth 100000 in
set_option maxHeartbeats 1000000 in
theorem after_1 (y m d hh mi s n : Int) (w : World) (ht : MT w) (s0 : 0 ≤ s) (s1 : s ≤ 59) (i0 : 0 ≤ mi) (i1 : mi ≤ 59) (h0 : 0 ≤ hh) (h1 : hh ≤ 23) (m0 : 1 ≤ m) (m1 : m ≤ 12) (_d0 : 1 ≤ d) (d1 : d ≤ md y m) (y0 : 1600 ≤ y) (y1 : y ≤ 2200) (a : 59 ≤ s) (b : mi ≤ 58) :
    Calls Tryd.prog 28 #[.agg #[.int .i64 y, .int .i64 m, .int .i64 d, .int .i64 hh, .int .i64 mi, .int .i64 s, .int .i64 n]] w fun e w' => e = .returned (.agg #[.int .i64 y, .int .i64 m, .int .i64 d, .int .i64 hh, .int .i64 (mi + 1), .int .i64 0, .int .i64 n]) ∧ Below w.heap.size w w' := by
  have hmd := (md_bound (y := y) m0 m1).2
  obtain ⟨M, hM⟩ : ∃ M, md y m = M := ⟨_, rfl⟩
  rw [hM] at hmd d1
  have HM := Lib.hid hM
  have HT := Lib.hid ht
  have X0 := Lib.hid (bx7_new w y m d hh mi s n)
  have B0 := Lib.hid ((Below.refl w.heap.size w).alloc (Nat.le_refl _) (.cells #[.int .i64 y, .int .i64 m, .int .i64 d, .int .i64 hh, .int .i64 mi, .int .i64 s, .int .i64 n] 23))
  obtain ⟨W0, hW0⟩ : ∃ W, w.alloc (.cells #[.int .i64 y, .int .i64 m, .int .i64 d, .int .i64 hh, .int .i64 mi, .int .i64 s, .int .i64 n] 23) = W := ⟨_, rfl⟩
  rw [hW0] at X0 B0
  have Y0 := Lib.hid (bx7_new W0 0 0 0 0 0 0 0)
  have X1 := Lib.hid (X0.out.alloc (.cells #[.int .i64 0, .int .i64 0, .int .i64 0, .int .i64 0, .int .i64 0, .int .i64 0, .int .i64 0] 23))
  have lt0 := X0.out.lt
  have sz0 := B0.out.size
  have BB1 := Lib.hid (B0.out.alloc sz0 (.cells #[.int .i64 0, .int .i64 0, .int .i64 0, .int .i64 0, .int .i64 0, .int .i64 0, .int .i64 0] 23))
  obtain ⟨W1, hW1⟩ : ∃ W, W0.alloc (.cells #[.int .i64 0, .int .i64 0, .int .i64 0, .int .i64 0, .int .i64 0, .int .i64 0, .int .i64 0] 23) = W := ⟨_, rfl⟩
  rw [hW1] at Y0 X1 BB1
  clear hM ht X0 B0
  obtain ⟨c1_0, c1_1, c1_2, c1_3, c1_4, c1_5, c1_6⟩ := X1.out.cells
  have r2 := X1.out.cells.2.2.2.2.2.1
  have g2 := X1.out.thaw.2.2.2.2.2.1
  have Nc2 := Lib.hid (X1.out.set5 (s + 1))
  have Nr2 := Lib.hid (Y0.out.other (C := w.heap.size) (i := 5) (by omega) (.int .i64 (s + 1)))
  have E2 := Lib.hid (below_set (C := w.heap.size) (i := 5) BB1.out (by omega) (.int .i64 (s + 1)))
  obtain ⟨S2, hS2⟩ : ∃ W, W1.setCell ⟨w.heap.size, 5, none⟩ (.int .i64 (s + 1)) = W := ⟨_, rfl⟩
  rw [hS2] at Nc2 Nr2 E2
  clear X1 Y0 BB1
  obtain ⟨c3_0, c3_1, c3_2, c3_3, c3_4, c3_5, c3_6⟩ := Nc2.out.cells
  have r4 := Nc2.out.cells.2.2.2.2.2.1
  have g4 := Nc2.out.thaw.2.2.2.2.2.1
  have Nc4 := Lib.hid (Nc2.out.set5 0)
  have Nr4 := Lib.hid (Nr2.out.other (C := w.heap.size) (i := 5) (by omega) (.int .i64 0))
  have E4 := Lib.hid (below_set (C := w.heap.size) (i := 5) E2.out (by omega) (.int .i64 0))
  obtain ⟨S4, hS4⟩ : ∃ W, S2.setCell ⟨w.heap.size, 5, none⟩ (.int .i64 0) = W := ⟨_, rfl⟩
  rw [hS4] at Nc4 Nr4 E4
  clear Nc2 Nr2 E2
  obtain ⟨c5_0, c5_1, c5_2, c5_3, c5_4, c5_5, c5_6⟩ := Nc4.out.cells
  have r6 := Nc4.out.cells.2.2.2.2.1
  have g6 := Nc4.out.thaw.2.2.2.2.1
  have Nc6 := Lib.hid (Nc4.out.set4 (mi + 1))
  have Nr6 := Lib.hid (Nr4.out.other (C := w.heap.size) (i := 4) (by omega) (.int .i64 (mi + 1)))
  have E6 := Lib.hid (below_set (C := w.heap.size) (i := 4) E4.out (by omega) (.int .i64 (mi + 1)))
  obtain ⟨S6, hS6⟩ : ∃ W, S4.setCell ⟨w.heap.size, 4, none⟩ (.int .i64 (mi + 1)) = W := ⟨_, rfl⟩
  rw [hS6] at Nc6 Nr6 E6
  clear Nc4 Nr4 E4
  obtain ⟨c7_0, c7_1, c7_2, c7_3, c7_4, c7_5, c7_6⟩ := Nc6.out.cells
  go_enter Tryd.func28, Tryd.ntmps28
  go_wp2_with fail
  go_quiet ((go_at_call 22; exact Calls.quiet_of_same ((pmd_any y m _ (MT.drewN (show MT S6 from HT.out.below E6.out) _) (by omega) (by omega)).mono (by rintro e w' ⟨rfl, rfl⟩; rw [HM.out]; exact ⟨rfl, rfl⟩))))
  clear hW0 hW1 c1_0 c1_1 c1_2 c1_3 c1_4 c1_5 c1_6 r2 g2 hS2 c3_0 c3_1 c3_2 c3_3 c3_4 c3_5 c3_6 r4 g4 hS4 c5_0 c5_1 c5_2 c5_3 c5_4 c5_5 c5_6 r6 g6 hS6 c7_0 c7_1 c7_2 c7_3 c7_4 c7_5 c7_6
  have Qc8 := Lib.hid (Nc6.out.drewN nq)
  have Qr8 := Lib.hid (Nr6.out.drewN nq)
  have QB8 := Lib.hid (blwn E6.out nq)
  obtain ⟨Q8, hQ⟩ : ∃ W, S6.drewN nq = W := ⟨_, rfl⟩
  rw [hQ] at Qc8 Qr8 QB8 ⊢
  clear hQ Nc6 Nr6 E6
  obtain ⟨c9_0, c9_1, c9_2, c9_3, c9_4, c9_5, c9_6⟩ := Qc8.out.cells
  have r10 := Qr8.out.cells.1
  have g10 := Qr8.out.thaw.1
  have Nr10 := Lib.hid (Qr8.out.set0 y)
  have Nc10 := Lib.hid (Qc8.out.other (C := W0.heap.size) (i := 0) (by omega) (.int .i64 y))
  have E10 := Lib.hid (below_set (C := W0.heap.size) (i := 0) QB8.out (by omega) (.int .i64 y))
  obtain ⟨S10, hS10⟩ : ∃ W, Q8.setCell ⟨W0.heap.size, 0, none⟩ (.int .i64 y) = W := ⟨_, rfl⟩
  rw [hS10] at Nr10 Nc10 E10
  clear Qc8 Qr8 QB8
  have r11 := Nr10.out.cells.2.1
  have g11 := Nr10.out.thaw.2.1
  have Nr11 := Lib.hid (Nr10.out.set1 m)
  have Nc11 := Lib.hid (Nc10.out.other (C := W0.heap.size) (i := 1) (by omega) (.int .i64 m))
  have E11 := Lib.hid (below_set (C := W0.heap.size) (i := 1) E10.out (by omega) (.int .i64 m))
  obtain ⟨S11, hS11⟩ : ∃ W, S10.setCell ⟨W0.heap.size, 1, none⟩ (.int .i64 m) = W := ⟨_, rfl⟩
  rw [hS11] at Nr11 Nc11 E11
  clear Nc10 Nr10 E10
  have r12 := Nr11.out.cells.2.2.1
  have g12 := Nr11.out.thaw.2.2.1
  have Nr12 := Lib.hid (Nr11.out.set2 d)
  have Nc12 := Lib.hid (Nc11.out.other (C := W0.heap.size) (i := 2) (by omega) (.int .i64 d))
  have E12 := Lib.hid (below_set (C := W0.heap.size) (i := 2) E11.out (by omega) (.int .i64 d))
  obtain ⟨S12, hS12⟩ : ∃ W, S11.setCell ⟨W0.heap.size, 2, none⟩ (.int .i64 d) = W := ⟨_, rfl⟩
  rw [hS12] at Nr12 Nc12 E12
  clear Nc11 Nr11 E11
  have r13 := Nr12.out.cells.2.2.2.1
  have g13 := Nr12.out.thaw.2.2.2.1
  have Nr13 := Lib.hid (Nr12.out.set3 hh)
  have Nc13 := Lib.hid (Nc12.out.other (C := W0.heap.size) (i := 3) (by omega) (.int .i64 hh))
  have E13 := Lib.hid (below_set (C := W0.heap.size) (i := 3) E12.out (by omega) (.int .i64 hh))
  obtain ⟨S13, hS13⟩ : ∃ W, S12.setCell ⟨W0.heap.size, 3, none⟩ (.int .i64 hh) = W := ⟨_, rfl⟩
  rw [hS13] at Nr13 Nc13 E13
  clear Nc12 Nr12 E12
  have r14 := Nr13.out.cells.2.2.2.2.1
  have g14 := Nr13.out.thaw.2.2.2.2.1
  have Nr14 := Lib.hid (Nr13.out.set4 (mi + 1))
  have Nc14 := Lib.hid (Nc13.out.other (C := W0.heap.size) (i := 4) (by omega) (.int .i64 (mi + 1)))
  have E14 := Lib.hid (below_set (C := W0.heap.size) (i := 4) E13.out (by omega) (.int .i64 (mi + 1)))
  obtain ⟨S14, hS14⟩ : ∃ W, S13.setCell ⟨W0.heap.size, 4, none⟩ (.int .i64 (mi + 1)) = W := ⟨_, rfl⟩
  rw [hS14] at Nr14 Nc14 E14
  clear Nc13 Nr13 E13
  have r15 := Nr14.out.cells.2.2.2.2.2.1
  have g15 := Nr14.out.thaw.2.2.2.2.2.1
  have Nr15 := Lib.hid (Nr14.out.set5 0)
  have Nc15 := Lib.hid (Nc14.out.other (C := W0.heap.size) (i := 5) (by omega) (.int .i64 0))
  have E15 := Lib.hid (below_set (C := W0.heap.size) (i := 5) E14.out (by omega) (.int .i64 0))
  obtain ⟨S15, hS15⟩ : ∃ W, S14.setCell ⟨W0.heap.size, 5, none⟩ (.int .i64 0) = W := ⟨_, rfl⟩
  rw [hS15] at Nr15 Nc15 E15
  clear Nc14 Nr14 E14
  have r16 := Nr15.out.cells.2.2.2.2.2.2
  have g16 := Nr15.out.thaw.2.2.2.2.2.2
  have Nr16 := Lib.hid (Nr15.out.set6 n)
  have Nc16 := Lib.hid (Nc15.out.other (C := W0.heap.size) (i := 6) (by omega) (.int .i64 n))
  have E16 := Lib.hid (below_set (C := W0.heap.size) (i := 6) E15.out (by omega) (.int .i64 n))
  obtain ⟨S16, hS16⟩ : ∃ W, S15.setCell ⟨W0.heap.size, 6, none⟩ (.int .i64 n) = W := ⟨_, rfl⟩
  rw [hS16] at Nr16 Nc16 E16
  clear Nc15 Nr15 E15
  go_wp2_with fail
  clear c9_0 c9_1 c9_2 c9_3 c9_4 c9_5 c9_6 r10 g10 hS10 r11 g11 hS11 r12 g12 hS12 r13 g13 hS13 r14 g14 hS14 r15 g15 hS15 r16 g16 hS16
  obtain ⟨k0, k1, k2, k3, k4, k5, k6⟩ := Nr16.out.cells
  exact bodyPost_ret (v := .agg #[.int .i64 y, .int .i64 m, .int .i64 d, .int .i64 hh, .int .i64 (mi + 1), .int .i64 0, .int .i64 n]) (by simp [results, Tryd.results28, go_sem, k0, k1, k2, k3, k4, k5, k6]) rfl ⟨rfl, E16.out⟩

set_option maxRecDepth 100000 in
set_option maxHeartbeats 1000000 in
theorem after_2 (y m d hh mi s n : Int) (w : World) (ht : MT w) (s0 : 0 ≤ s) (s1 : s ≤ 59) (i0 : 0 ≤ mi) (i1 : mi ≤ 59) (h0 : 0 ≤ hh) (h1 : hh ≤ 23) (m0 : 1 ≤ m) (m1 : m ≤ 12) (_d0 : 1 ≤ d) (d1 : d ≤ md y m) (y0 : 1600 ≤ y) (y1 : y ≤ 2200) (a : 59 ≤ s) (b : 59 ≤ mi) (c : hh ≤ 22) :
    Calls Tryd.prog 28 #[.agg #[.int .i64 y, .int .i64 m, .int .i64 d, .int .i64 hh, .int .i64 mi, .int .i64 s, .int .i64 n]] w fun e w' => e = .returned (.agg #[.int .i64 y, .int .i64 m, .int .i64 d, .int .i64 (hh + 1), .int .i64 0, .int .i64 0, .int .i64 n]) ∧ Below w.heap.size w w' := by
  have hmd := (md_bound (y := y) m0 m1).2
  obtain ⟨M, hM⟩ : ∃ M, md y m = M := ⟨_, rfl⟩
  rw [hM] at hmd d1
  have HM := Lib.hid hM
  have HT := Lib.hid ht
  have X0 := Lib.hid (bx7_new w y m d hh mi s n)
  have B0 := Lib.hid ((Below.refl w.heap.size w).alloc (Nat.le_refl _) (.cells #[.int .i64 y, .int .i64 m, .int .i64 d, .int .i64 hh, .int .i64 mi, .int .i64 s, .int .i64 n] 23))
  obtain ⟨W0, hW0⟩ : ∃ W, w.alloc (.cells #[.int .i64 y, .int .i64 m, .int .i64 d, .int .i64 hh, .int .i64 mi, .int .i64 s, .int .i64 n] 23) = W := ⟨_, rfl⟩
  rw [hW0] at X0 B0
  have Y0 := Lib.hid (bx7_new W0 0 0 0 0 0 0 0)
  have X1 := Lib.hid (X0.out.alloc (.cells #[.int .i64 0, .int .i64 0, .int .i64 0, .int .i64 0, .int .i64 0, .int .i64 0, .int .i64 0] 23))
  have lt0 := X0.out.lt
  have sz0 := B0.out.size
  have BB1 := Lib.hid (B0.out.alloc sz0 (.cells #[.int .i64 0, .int .i64 0, .int .i64 0, .int .i64 0, .int .i64 0, .int .i64 0, .int .i64 0] 23))
  obtain ⟨W1, hW1⟩ : ∃ W, W0.alloc (.cells #[.int .i64 0, .int .i64 0, .int .i64 0, .int .i64 0, .int .i64 0, .int .i64 0, .int .i64 0] 23) = W := ⟨_, rfl⟩
  rw [hW1] at Y0 X1 BB1
  clear hM ht X0 B0
  obtain ⟨c1_0, c1_1, c1_2, c1_3, c1_4, c1_5, c1_6⟩ := X1.out.cells
  have r2 := X1.out.cells.2.2.2.2.2.1
  have g2 := X1.out.thaw.2.2.2.2.2.1
  have Nc2 := Lib.hid (X1.out.set5 (s + 1))
  have Nr2 := Lib.hid (Y0.out.other (C := w.heap.size) (i := 5) (by omega) (.int .i64 (s + 1)))
  have E2 := Lib.hid (below_set (C := w.heap.size) (i := 5) BB1.out (by omega) (.int .i64 (s + 1)))
  obtain ⟨S2, hS2⟩ : ∃ W, W1.setCell ⟨w.heap.size, 5, none⟩ (.int .i64 (s + 1)) = W := ⟨_, rfl⟩
  rw [hS2] at Nc2 Nr2 E2
  clear X1 Y0 BB1
  obtain ⟨c3_0, c3_1, c3_2, c3_3, c3_4, c3_5, c3_6⟩ := Nc2.out.cells
  have r4 := Nc2.out.cells.2.2.2.2.2.1
  have g4 := Nc2.out.thaw.2.2.2.2.2.1
  have Nc4 := Lib.hid (Nc2.out.set5 0)
  have Nr4 := Lib.hid (Nr2.out.other (C := w.heap.size) (i := 5) (by omega) (.int .i64 0))
  have E4 := Lib.hid (below_set (C := w.heap.size) (i := 5) E2.out (by omega) (.int .i64 0))
  obtain ⟨S4, hS4⟩ : ∃ W, S2.setCell ⟨w.heap.size, 5, none⟩ (.int .i64 0) = W := ⟨_, rfl⟩
  rw [hS4] at Nc4 Nr4 E4
  clear Nc2 Nr2 E2
  obtain ⟨c5_0, c5_1, c5_2, c5_3, c5_4, c5_5, c5_6⟩ := Nc4.out.cells
  have r6 := Nc4.out.cells.2.2.2.2.1
  have g6 := Nc4.out.thaw.2.2.2.2.1
  have Nc6 := Lib.hid (Nc4.out.set4 (mi + 1))
  have Nr6 := Lib.hid (Nr4.out.other (C := w.heap.size) (i := 4) (by omega) (.int .i64 (mi + 1)))
  have E6 := Lib.hid (below_set (C := w.heap.size) (i := 4) E4.out (by omega) (.int .i64 (mi + 1)))
  obtain ⟨S6, hS6⟩ : ∃ W, S4.setCell ⟨w.heap.size, 4, none⟩ (.int .i64 (mi + 1)) = W := ⟨_, rfl⟩
  rw [hS6] at Nc6 Nr6 E6
  clear Nc4 Nr4 E4
  obtain ⟨c7_0, c7_1, c7_2, c7_3, c7_4, c7_5, c7_6⟩ := Nc6.out.cells
  have r8 := Nc6.out.cells.2.2.2.2.1
  have g8 := Nc6.out.thaw.2.2.2.2.1
  have Nc8 := Lib.hid (Nc6.out.set4 0)
  have Nr8 := Lib.hid (Nr6.out.other (C := w.heap.size) (i := 4) (by omega) (.int .i64 0))
  have E8 := Lib.hid (below_set (C := w.heap.size) (i := 4) E6.out (by omega) (.int .i64 0))
  obtain ⟨S8, hS8⟩ : ∃ W, S6.setCell ⟨w.heap.size, 4, none⟩ (.int .i64 0) = W := ⟨_, rfl⟩
  rw [hS8] at Nc8 Nr8 E8
  clear Nc6 Nr6 E6
  obtain ⟨c9_0, c9_1, c9_2, c9_3, c9_4, c9_5, c9_6⟩ := Nc8.out.cells
  have r10 := Nc8.out.cells.2.2.2.1
  have g10 := Nc8.out.thaw.2.2.2.1
  have Nc10 := Lib.hid (Nc8.out.set3 (hh + 1))
  have Nr10 := Lib.hid (Nr8.out.other (C := w.heap.size) (i := 3) (by omega) (.int .i64 (hh + 1)))
  have E10 := Lib.hid (below_set (C := w.heap.size) (i := 3) E8.out (by omega) (.int .i64 (hh + 1)))
  obtain ⟨S10, hS10⟩ : ∃ W, S8.setCell ⟨w.heap.size, 3, none⟩ (.int .i64 (hh + 1)) = W := ⟨_, rfl⟩
  rw [hS10] at Nc10 Nr10 E10
  clear Nc8 Nr8 E8
  obtain ⟨c11_0, c11_1, c11_2, c11_3, c11_4, c11_5, c11_6⟩ := Nc10.out.cells
  go_enter Tryd.func28, Tryd.ntmps28
  go_wp2_with fail
  go_quiet ((go_at_call 22; exact Calls.quiet_of_same ((pmd_any y m _ (MT.drewN (show MT S10 from HT.out.below E10.out) _) (by omega) (by omega)).mono (by rintro e w' ⟨rfl, rfl⟩; rw [HM.out]; exact ⟨rfl, rfl⟩))))
  clear hW0 hW1 c1_0 c1_1 c1_2 c1_3 c1_4 c1_5 c1_6 r2 g2 hS2 c3_0 c3_1 c3_2 c3_3 c3_4 c3_5 c3_6 r4 g4 hS4 c5_0 c5_1 c5_2 c5_3 c5_4 c5_5 c5_6 r6 g6 hS6 c7_0 c7_1 c7_2 c7_3 c7_4 c7_5 c7_6 r8 g8 hS8 c9_0 c9_1 c9_2 c9_3 c9_4 c9_5 c9_6 r10 g10 hS10 c11_0 c11_1 c11_2 c11_3 c11_4 c11_5 c11_6
  have Qc12 := Lib.hid (Nc10.out.drewN nq)
  have Qr12 := Lib.hid (Nr10.out.drewN nq)
  have QB12 := Lib.hid (blwn E10.out nq)
  obtain ⟨Q12, hQ⟩ : ∃ W, S10.drewN nq = W := ⟨_, rfl⟩
  rw [hQ] at Qc12 Qr12 QB12 ⊢
  clear hQ Nc10 Nr10 E10
  obtain ⟨c13_0, c13_1, c13_2, c13_3, c13_4, c13_5, c13_6⟩ := Qc12.out.cells
  have r14 := Qr12.out.cells.1
  have g14 := Qr12.out.thaw.1
  have Nr14 := Lib.hid (Qr12.out.set0 y)
  have Nc14 := Lib.hid (Qc12.out.other (C := W0.heap.size) (i := 0) (by omega) (.int .i64 y))
  have E14 := Lib.hid (below_set (C := W0.heap.size) (i := 0) QB12.out (by omega) (.int .i64 y))
  obtain ⟨S14, hS14⟩ : ∃ W, Q12.setCell ⟨W0.heap.size, 0, none⟩ (.int .i64 y) = W := ⟨_, rfl⟩
  rw [hS14] at Nr14 Nc14 E14
  clear Qc12 Qr12 QB12
  have r15 := Nr14.out.cells.2.1
  have g15 := Nr14.out.thaw.2.1
  have Nr15 := Lib.hid (Nr14.out.set1 m)
  have Nc15 := Lib.hid (Nc14.out.other (C := W0.heap.size) (i := 1) (by omega) (.int .i64 m))
  have E15 := Lib.hid (below_set (C := W0.heap.size) (i := 1) E14.out (by omega) (.int .i64 m))
  obtain ⟨S15, hS15⟩ : ∃ W, S14.setCell ⟨W0.heap.size, 1, none⟩ (.int .i64 m) = W := ⟨_, rfl⟩
  rw [hS15] at Nr15 Nc15 E15
  clear Nc14 Nr14 E14
  have r16 := Nr15.out.cells.2.2.1
  have g16 := Nr15.out.thaw.2.2.1
  have Nr16 := Lib.hid (Nr15.out.set2 d)
  have Nc16 := Lib.hid (Nc15.out.other (C := W0.heap.size) (i := 2) (by omega) (.int .i64 d))
  have E16 := Lib.hid (below_set (C := W0.heap.size) (i := 2) E15.out (by omega) (.int .i64 d))
  obtain ⟨S16, hS16⟩ : ∃ W, S15.setCell ⟨W0.heap.size, 2, none⟩ (.int .i64 d) = W := ⟨_, rfl⟩
  rw [hS16] at Nr16 Nc16 E16
  clear Nc15 Nr15 E15
  have r17 := Nr16.out.cells.2.2.2.1
  have g17 := Nr16.out.thaw.2.2.2.1
  have Nr17 := Lib.hid (Nr16.out.set3 (hh + 1))
  have Nc17 := Lib.hid (Nc16.out.other (C := W0.heap.size) (i := 3) (by omega) (.int .i64 (hh + 1)))
  have E17 := Lib.hid (below_set (C := W0.heap.size) (i := 3) E16.out (by omega) (.int .i64 (hh + 1)))
  obtain ⟨S17, hS17⟩ : ∃ W, S16.setCell ⟨W0.heap.size, 3, none⟩ (.int .i64 (hh + 1)) = W := ⟨_, rfl⟩
  rw [hS17] at Nr17 Nc17 E17
  clear Nc16 Nr16 E16
  have r18 := Nr17.out.cells.2.2.2.2.1
  have g18 := Nr17.out.thaw.2.2.2.2.1
  have Nr18 := Lib.hid (Nr17.out.set4 0)
  have Nc18 := Lib.hid (Nc17.out.other (C := W0.heap.size) (i := 4) (by omega) (.int .i64 0))
  have E18 := Lib.hid (below_set (C := W0.heap.size) (i := 4) E17.out (by omega) (.int .i64 0))
  obtain ⟨S18, hS18⟩ : ∃ W, S17.setCell ⟨W0.heap.size, 4, none⟩ (.int .i64 0) = W := ⟨_, rfl⟩
  rw [hS18] at Nr18 Nc18 E18
  clear Nc17 Nr17 E17
  have r19 := Nr18.out.cells.2.2.2.2.2.1
  have g19 := Nr18.out.thaw.2.2.2.2.2.1
  have Nr19 := Lib.hid (Nr18.out.set5 0)
  have Nc19 := Lib.hid (Nc18.out.other (C := W0.heap.size) (i := 5) (by omega) (.int .i64 0))
  have E19 := Lib.hid (below_set (C := W0.heap.size) (i := 5) E18.out (by omega) (.int .i64 0))
  obtain ⟨S19, hS19⟩ : ∃ W, S18.setCell ⟨W0.heap.size, 5, none⟩ (.int .i64 0) = W := ⟨_, rfl⟩
  rw [hS19] at Nr19 Nc19 E19
  clear Nc18 Nr18 E18
  have r20 := Nr19.out.cells.2.2.2.2.2.2
  have g20 := Nr19.out.thaw.2.2.2.2.2.2
  have Nr20 := Lib.hid (Nr19.out.set6 n)
  have Nc20 := Lib.hid (Nc19.out.other (C := W0.heap.size) (i := 6) (by omega) (.int .i64 n))
  have E20 := Lib.hid (below_set (C := W0.heap.size) (i := 6) E19.out (by omega) (.int .i64 n))
  obtain ⟨S20, hS20⟩ : ∃ W, S19.setCell ⟨W0.heap.size, 6, none⟩ (.int .i64 n) = W := ⟨_, rfl⟩
  rw [hS20] at Nr20 Nc20 E20
  clear Nc19 Nr19 E19
  go_wp2_with fail
  clear c13_0 c13_1 c13_2 c13_3 c13_4 c13_5 c13_6 r14 g14 hS14 r15 g15 hS15 r16 g16 hS16 r17 g17 hS17 r18 g18 hS18 r19 g19 hS19 r20 g20 hS20
  obtain ⟨k0, k1, k2, k3, k4, k5, k6⟩ := Nr20.out.cells
  exact bodyPost_ret (v := .agg #[.int .i64 y, .int .i64 m, .int .i64 d, .int .i64 (hh + 1), .int .i64 0, .int .i64 0, .int .i64 n]) (by simp [results, Tryd.results28, go_sem, k0, k1, k2, k3, k4, k5, k6]) rfl ⟨rfl, E20.out⟩

set_option maxRecDepth 100000 in
set_option maxHeartbeats 1000000 in
theorem after_3 (y m d hh mi s n : Int) (w : World) (ht : MT w) (s0 : 0 ≤ s) (s1 : s ≤ 59) (i0 : 0 ≤ mi) (i1 : mi ≤ 59) (h0 : 0 ≤ hh) (h1 : hh ≤ 23) (m0 : 1 ≤ m) (m1 : m ≤ 12) (d0 : 1 ≤ d) (_d1 : d ≤ md y m) (y0 : 1600 ≤ y) (y1 : y ≤ 2200) (a : 59 ≤ s) (b : 59 ≤ mi) (c : 23 ≤ hh) (e : d + 1 ≤ md y m) :
    Calls Tryd.prog 28 #[.agg #[.int .i64 y, .int .i64 m, .int .i64 d, .int .i64 hh, .int .i64 mi, .int .i64 s, .int .i64 n]] w fun e w' => e = .returned (.agg #[.int .i64 y, .int .i64 m, .int .i64 (d + 1), .int .i64 0, .int .i64 0, .int .i64 0, .int .i64 n]) ∧ Below w.heap.size w w' := by
  have hmd := (md_bound (y := y) m0 m1).2
  obtain ⟨M, hM⟩ : ∃ M, md y m = M := ⟨_, rfl⟩
  rw [hM] at hmd e
  have HM := Lib.hid hM
  have HT := Lib.hid ht
  have X0 := Lib.hid (bx7_new w y m d hh mi s n)
  have B0 := Lib.hid ((Below.refl w.heap.size w).alloc (Nat.le_refl _) (.cells #[.int .i64 y, .int .i64 m, .int .i64 d, .int .i64 hh, .int .i64 mi, .int .i64 s, .int .i64 n] 23))
  obtain ⟨W0, hW0⟩ : ∃ W, w.alloc (.cells #[.int .i64 y, .int .i64 m, .int .i64 d, .int .i64 hh, .int .i64 mi, .int .i64 s, .int .i64 n] 23) = W := ⟨_, rfl⟩
  rw [hW0] at X0 B0
  have Y0 := Lib.hid (bx7_new W0 0 0 0 0 0 0 0)
  have X1 := Lib.hid (X0.out.alloc (.cells #[.int .i64 0, .int .i64 0, .int .i64 0, .int .i64 0, .int .i64 0, .int .i64 0, .int .i64 0] 23))
  have lt0 := X0.out.lt
  have sz0 := B0.out.size
  have BB1 := Lib.hid (B0.out.alloc sz0 (.cells #[.int .i64 0, .int .i64 0, .int .i64 0, .int .i64 0, .int .i64 0, .int .i64 0, .int .i64 0] 23))
  obtain ⟨W1, hW1⟩ : ∃ W, W0.alloc (.cells #[.int .i64 0, .int .i64 0, .int .i64 0, .int .i64 0, .int .i64 0, .int .i64 0, .int .i64 0] 23) = W := ⟨_, rfl⟩
  rw [hW1] at Y0 X1 BB1
  clear hM ht X0 B0
  obtain ⟨c1_0, c1_1, c1_2, c1_3, c1_4, c1_5, c1_6⟩ := X1.out.cells
  have r2 := X1.out.cells.2.2.2.2.2.1
  have g2 := X1.out.thaw.2.2.2.2.2.1
  have Nc2 := Lib.hid (X1.out.set5 (s + 1))
  have Nr2 := Lib.hid (Y0.out.other (C := w.heap.size) (i := 5) (by omega) (.int .i64 (s + 1)))
  have E2 := Lib.hid (below_set (C := w.heap.size) (i := 5) BB1.out (by omega) (.int .i64 (s + 1)))
  obtain ⟨S2, hS2⟩ : ∃ W, W1.setCell ⟨w.heap.size, 5, none⟩ (.int .i64 (s + 1)) = W := ⟨_, rfl⟩
  rw [hS2] at Nc2 Nr2 E2
  clear X1 Y0 BB1
  obtain ⟨c3_0, c3_1, c3_2, c3_3, c3_4, c3_5, c3_6⟩ := Nc2.out.cells
  have r4 := Nc2.out.cells.2.2.2.2.2.1
  have g4 := Nc2.out.thaw.2.2.2.2.2.1
  have Nc4 := Lib.hid (Nc2.out.set5 0)
  have Nr4 := Lib.hid (Nr2.out.other (C := w.heap.size) (i := 5) (by omega) (.int .i64 0))
  have E4 := Lib.hid (below_set (C := w.heap.size) (i := 5) E2.out (by omega) (.int .i64 0))
  obtain ⟨S4, hS4⟩ : ∃ W, S2.setCell ⟨w.heap.size, 5, none⟩ (.int .i64 0) = W := ⟨_, rfl⟩
  rw [hS4] at Nc4 Nr4 E4
  clear Nc2 Nr2 E2
  obtain ⟨c5_0, c5_1, c5_2, c5_3, c5_4, c5_5, c5_6⟩ := Nc4.out.cells
  have r6 := Nc4.out.cells.2.2.2.2.1
  have g6 := Nc4.out.thaw.2.2.2.2.1
  have Nc6 := Lib.hid (Nc4.out.set4 (mi + 1))
  have Nr6 := Lib.hid (Nr4.out.other (C := w.heap.size) (i := 4) (by omega) (.int .i64 (mi + 1)))
  have E6 := Lib.hid (below_set (C := w.heap.size) (i := 4) E4.out (by omega) (.int .i64 (mi + 1)))
  obtain ⟨S6, hS6⟩ : ∃ W, S4.setCell ⟨w.heap.size, 4, none⟩ (.int .i64 (mi + 1)) = W := ⟨_, rfl⟩
  rw [hS6] at Nc6 Nr6 E6
  clear Nc4 Nr4 E4
  obtain ⟨c7_0, c7_1, c7_2, c7_3, c7_4, c7_5, c7_6⟩ := Nc6.out.cells
  have r8 := Nc6.out.cells.2.2.2.2.1
  have g8 := Nc6.out.thaw.2.2.2.2.1
  have Nc8 := Lib.hid (Nc6.out.set4 0)
  have Nr8 := Lib.hid (Nr6.out.other (C := w.heap.size) (i := 4) (by omega) (.int .i64 0))
  have E8 := Lib.hid (below_set (C := w.heap.size) (i := 4) E6.out (by omega) (.int .i64 0))
  obtain ⟨S8, hS8⟩ : ∃ W, S6.setCell ⟨w.heap.size, 4, none⟩ (.int .i64 0) = W := ⟨_, rfl⟩
  rw [hS8] at Nc8 Nr8 E8
  clear Nc6 Nr6 E6
  obtain ⟨c9_0, c9_1, c9_2, c9_3, c9_4, c9_5, c9_6⟩ := Nc8.out.cells
  have r10 := Nc8.out.cells.2.2.2.1
  have g10 := Nc8.out.thaw.2.2.2.1
  have Nc10 := Lib.hid (Nc8.out.set3 (hh + 1))
  have Nr10 := Lib.hid (Nr8.out.other (C := w.heap.size) (i := 3) (by omega) (.int .i64 (hh + 1)))
  have E10 := Lib.hid (below_set (C := w.heap.size) (i := 3) E8.out (by omega) (.int .i64 (hh + 1)))
  obtain ⟨S10, hS10⟩ : ∃ W, S8.setCell ⟨w.heap.size, 3, none⟩ (.int .i64 (hh + 1)) = W := ⟨_, rfl⟩
  rw [hS10] at Nc10 Nr10 E10
  clear Nc8 Nr8 E8
  obtain ⟨c11_0, c11_1, c11_2, c11_3, c11_4, c11_5, c11_6⟩ := Nc10.out.cells
  have r12 := Nc10.out.cells.2.2.2.1
  have g12 := Nc10.out.thaw.2.2.2.1
  have Nc12 := Lib.hid (Nc10.out.set3 0)
  have Nr12 := Lib.hid (Nr10.out.other (C := w.heap.size) (i := 3) (by omega) (.int .i64 0))
  have E12 := Lib.hid (below_set (C := w.heap.size) (i := 3) E10.out (by omega) (.int .i64 0))
  obtain ⟨S12, hS12⟩ : ∃ W, S10.setCell ⟨w.heap.size, 3, none⟩ (.int .i64 0) = W := ⟨_, rfl⟩
  rw [hS12] at Nc12 Nr12 E12
  clear Nc10 Nr10 E10
  obtain ⟨c13_0, c13_1, c13_2, c13_3, c13_4, c13_5, c13_6⟩ := Nc12.out.cells
  have r14 := Nc12.out.cells.2.2.1
  have g14 := Nc12.out.thaw.2.2.1
  have Nc14 := Lib.hid (Nc12.out.set2 (d + 1))
  have Nr14 := Lib.hid (Nr12.out.other (C := w.heap.size) (i := 2) (by omega) (.int .i64 (d + 1)))
  have E14 := Lib.hid (below_set (C := w.heap.size) (i := 2) E12.out (by omega) (.int .i64 (d + 1)))
  obtain ⟨S14, hS14⟩ : ∃ W, S12.setCell ⟨w.heap.size, 2, none⟩ (.int .i64 (d + 1)) = W := ⟨_, rfl⟩
  rw [hS14] at Nc14 Nr14 E14
  clear Nc12 Nr12 E12
  obtain ⟨c15_0, c15_1, c15_2, c15_3, c15_4, c15_5, c15_6⟩ := Nc14.out.cells
  go_enter Tryd.func28, Tryd.ntmps28
  go_wp2_with fail
  go_quiet ((go_at_call 22; exact Calls.quiet_of_same ((pmd_any y m _ (MT.drewN (show MT S14 from HT.out.below E14.out) _) (by omega) (by omega)).mono (by rintro e w' ⟨rfl, rfl⟩; rw [HM.out]; exact ⟨rfl, rfl⟩))))
  clear hW0 hW1 c1_0 c1_1 c1_2 c1_3 c1_4 c1_5 c1_6 r2 g2 hS2 c3_0 c3_1 c3_2 c3_3 c3_4 c3_5 c3_6 r4 g4 hS4 c5_0 c5_1 c5_2 c5_3 c5_4 c5_5 c5_6 r6 g6 hS6 c7_0 c7_1 c7_2 c7_3 c7_4 c7_5 c7_6 r8 g8 hS8 c9_0 c9_1 c9_2 c9_3 c9_4 c9_5 c9_6 r10 g10 hS10 c11_0 c11_1 c11_2 c11_3 c11_4 c11_5 c11_6 r12 g12 hS12 c13_0 c13_1 c13_2 c13_3 c13_4 c13_5 c13_6 r14 g14 hS14 c15_0 c15_1 c15_2 c15_3 c15_4 c15_5 c15_6
  have Qc16 := Lib.hid (Nc14.out.drewN nq)
  have Qr16 := Lib.hid (Nr14.out.drewN nq)
  have QB16 := Lib.hid (blwn E14.out nq)
  obtain ⟨Q16, hQ⟩ : ∃ W, S14.drewN nq = W := ⟨_, rfl⟩
  rw [hQ] at Qc16 Qr16 QB16 ⊢
  clear hQ Nc14 Nr14 E14
  obtain ⟨c17_0, c17_1, c17_2, c17_3, c17_4, c17_5, c17_6⟩ := Qc16.out.cells
  have r18 := Qr16.out.cells.1
  have g18 := Qr16.out.thaw.1
  have Nr18 := Lib.hid (Qr16.out.set0 y)
  have Nc18 := Lib.hid (Qc16.out.other (C := W0.heap.size) (i := 0) (by omega) (.int .i64 y))
  have E18 := Lib.hid (below_set (C := W0.heap.size) (i := 0) QB16.out (by omega) (.int .i64 y))
  obtain ⟨S18, hS18⟩ : ∃ W, Q16.setCell ⟨W0.heap.size, 0, none⟩ (.int .i64 y) = W := ⟨_, rfl⟩
  rw [hS18] at Nr18 Nc18 E18
  clear Qc16 Qr16 QB16
  have r19 := Nr18.out.cells.2.1
  have g19 := Nr18.out.thaw.2.1
  have Nr19 := Lib.hid (Nr18.out.set1 m)
  have Nc19 := Lib.hid (Nc18.out.other (C := W0.heap.size) (i := 1) (by omega) (.int .i64 m))
  have E19 := Lib.hid (below_set (C := W0.heap.size) (i := 1) E18.out (by omega) (.int .i64 m))
  obtain ⟨S19, hS19⟩ : ∃ W, S18.setCell ⟨W0.heap.size, 1, none⟩ (.int .i64 m) = W := ⟨_, rfl⟩
  rw [hS19] at Nr19 Nc19 E19
  clear Nc18 Nr18 E18
  have r20 := Nr19.out.cells.2.2.1
  have g20 := Nr19.out.thaw.2.2.1
  have Nr20 := Lib.hid (Nr19.out.set2 (d + 1))
  have Nc20 := Lib.hid (Nc19.out.other (C := W0.heap.size) (i := 2) (by omega) (.int .i64 (d + 1)))
  have E20 := Lib.hid (below_set (C := W0.heap.size) (i := 2) E19.out (by omega) (.int .i64 (d + 1)))
  obtain ⟨S20, hS20⟩ : ∃ W, S19.setCell ⟨W0.heap.size, 2, none⟩ (.int .i64 (d + 1)) = W := ⟨_, rfl⟩
  rw [hS20] at Nr20 Nc20 E20
  clear Nc19 Nr19 E19
  have r21 := Nr20.out.cells.2.2.2.1
  have g21 := Nr20.out.thaw.2.2.2.1
  have Nr21 := Lib.hid (Nr20.out.set3 0)
  have Nc21 := Lib.hid (Nc20.out.other (C := W0.heap.size) (i := 3) (by omega) (.int .i64 0))
  have E21 := Lib.hid (below_set (C := W0.heap.size) (i := 3) E20.out (by omega) (.int .i64 0))
  obtain ⟨S21, hS21⟩ : ∃ W, S20.setCell ⟨W0.heap.size, 3, none⟩ (.int .i64 0) = W := ⟨_, rfl⟩
  rw [hS21] at Nr21 Nc21 E21
  clear Nc20 Nr20 E20
  have r22 := Nr21.out.cells.2.2.2.2.1
  have g22 := Nr21.out.thaw.2.2.2.2.1
  have Nr22 := Lib.hid (Nr21.out.set4 0)
  have Nc22 := Lib.hid (Nc21.out.other (C := W0.heap.size) (i := 4) (by omega) (.int .i64 0))
  have E22 := Lib.hid (below_set (C := W0.heap.size) (i := 4) E21.out (by omega) (.int .i64 0))
  obtain ⟨S22, hS22⟩ : ∃ W, S21.setCell ⟨W0.heap.size, 4, none⟩ (.int .i64 0) = W := ⟨_, rfl⟩
  rw [hS22] at Nr22 Nc22 E22
  clear Nc21 Nr21 E21
  have r23 := Nr22.out.cells.2.2.2.2.2.1
  have g23 := Nr22.out.thaw.2.2.2.2.2.1
  have Nr23 := Lib.hid (Nr22.out.set5 0)
  have Nc23 := Lib.hid (Nc22.out.other (C := W0.heap.size) (i := 5) (by omega) (.int .i64 0))
  have E23 := Lib.hid (below_set (C := W0.heap.size) (i := 5) E22.out (by omega) (.int .i64 0))
  obtain ⟨S23, hS23⟩ : ∃ W, S22.setCell ⟨W0.heap.size, 5, none⟩ (.int .i64 0) = W := ⟨_, rfl⟩
  rw [hS23] at Nr23 Nc23 E23
  clear Nc22 Nr22 E22
  have r24 := Nr23.out.cells.2.2.2.2.2.2
  have g24 := Nr23.out.thaw.2.2.2.2.2.2
  have Nr24 := Lib.hid (Nr23.out.set6 n)
  have Nc24 := Lib.hid (Nc23.out.other (C := W0.heap.size) (i := 6) (by omega) (.int .i64 n))
  have E24 := Lib.hid (below_set (C := W0.heap.size) (i := 6) E23.out (by omega) (.int .i64 n))
  obtain ⟨S24, hS24⟩ : ∃ W, S23.setCell ⟨W0.heap.size, 6, none⟩ (.int .i64 n) = W := ⟨_, rfl⟩
  rw [hS24] at Nr24 Nc24 E24
  clear Nc23 Nr23 E23
  go_wp2_with fail
  clear c17_0 c17_1 c17_2 c17_3 c17_4 c17_5 c17_6 r18 g18 hS18 r19 g19 hS19 r20 g20 hS20 r21 g21 hS21 r22 g22 hS22 r23 g23 hS23 r24 g24 hS24
  obtain ⟨k0, k1, k2, k3, k4, k5, k6⟩ := Nr24.out.cells
  exact bodyPost_ret (v := .agg #[.int .i64 y, .int .i64 m, .int .i64 (d + 1), .int .i64 0, .int .i64 0, .int .i64 0, .int .i64 n]) (by simp [results, Tryd.results28, go_sem, k0, k1, k2, k3, k4, k5, k6]) rfl ⟨rfl, E24.out⟩

set_option maxRecDepth 100000 in
set_option maxHeartbeats 1000000 in
theorem after_4 (y m d hh mi s n : Int) (w : World) (ht : MT w) (s0 : 0 ≤ s) (s1 : s ≤ 59) (i0 : 0 ≤ mi) (i1 : mi ≤ 59) (h0 : 0 ≤ hh) (h1 : hh ≤ 23) (m0 : 1 ≤ m) (m1 : m ≤ 12) (d0 : 1 ≤ d) (d1 : d ≤ md y m) (y0 : 1600 ≤ y) (y1 : y ≤ 2200) (a : 59 ≤ s) (b : 59 ≤ mi) (c : 23 ≤ hh) (e : md y m ≤ d) (f : m ≤ 11) :
    Calls Tryd.prog 28 #[.agg #[.int .i64 y, .int .i64 m, .int .i64 d, .int .i64 hh, .int .i64 mi, .int .i64 s, .int .i64 n]] w fun e w' => e = .returned (.agg #[.int .i64 y, .int .i64 (m + 1), .int .i64 1, .int .i64 0, .int .i64 0, .int .i64 0, .int .i64 n]) ∧ Below w.heap.size w w' := by
  have hmd := (md_bound (y := y) m0 m1).2
  obtain ⟨M, hM⟩ : ∃ M, md y m = M := ⟨_, rfl⟩
  rw [hM] at hmd d1 e
  have HM := Lib.hid hM
  have HT := Lib.hid ht
  have X0 := Lib.hid (bx7_new w y m d hh mi s n)
  have B0 := Lib.hid ((Below.refl w.heap.size w).alloc (Nat.le_refl _) (.cells #[.int .i64 y, .int .i64 m, .int .i64 d, .int .i64 hh, .int .i64 mi, .int .i64 s, .int .i64 n] 23))
  obtain ⟨W0, hW0⟩ : ∃ W, w.alloc (.cells #[.int .i64 y, .int .i64 m, .int .i64 d, .int .i64 hh, .int .i64 mi, .int .i64 s, .int .i64 n] 23) = W := ⟨_, rfl⟩
  rw [hW0] at X0 B0
  have Y0 := Lib.hid (bx7_new W0 0 0 0 0 0 0 0)
  have X1 := Lib.hid (X0.out.alloc (.cells #[.int .i64 0, .int .i64 0, .int .i64 0, .int .i64 0, .int .i64 0, .int .i64 0, .int .i64 0] 23))
  have lt0 := X0.out.lt
  have sz0 := B0.out.size
  have BB1 := Lib.hid (B0.out.alloc sz0 (.cells #[.int .i64 0, .int .i64 0, .int .i64 0, .int .i64 0, .int .i64 0, .int .i64 0, .int .i64 0] 23))
  obtain ⟨W1, hW1⟩ : ∃ W, W0.alloc (.cells #[.int .i64 0, .int .i64 0, .int .i64 0, .int .i64 0, .int .i64 0, .int .i64 0, .int .i64 0] 23) = W := ⟨_, rfl⟩
  rw [hW1] at Y0 X1 BB1
  clear hM ht X0 B0
  obtain ⟨c1_0, c1_1, c1_2, c1_3, c1_4, c1_5, c1_6⟩ := X1.out.cells
  have r2 := X1.out.cells.2.2.2.2.2.1
  have g2 := X1.out.thaw.2.2.2.2.2.1
  have Nc2 := Lib.hid (X1.out.set5 (s + 1))
  have Nr2 := Lib.hid (Y0.out.other (C := w.heap.size) (i := 5) (by omega) (.int .i64 (s + 1)))
  have E2 := Lib.hid (below_set (C := w.heap.size) (i := 5) BB1.out (by omega) (.int .i64 (s + 1)))
  obtain ⟨S2, hS2⟩ : ∃ W, W1.setCell ⟨w.heap.size, 5, none⟩ (.int .i64 (s + 1)) = W := ⟨_, rfl⟩
  rw [hS2] at Nc2 Nr2 E2
  clear X1 Y0 BB1
  obtain ⟨c3_0, c3_1, c3_2, c3_3, c3_4, c3_5, c3_6⟩ := Nc2.out.cells
  have r4 := Nc2.out.cells.2.2.2.2.2.1
  have g4 := Nc2.out.thaw.2.2.2.2.2.1
  have Nc4 := Lib.hid (Nc2.out.set5 0)
  have Nr4 := Lib.hid (Nr2.out.other (C := w.heap.size) (i := 5) (by omega) (.int .i64 0))
  have E4 := Lib.hid (below_set (C := w.heap.size) (i := 5) E2.out (by omega) (.int .i64 0))
  obtain ⟨S4, hS4⟩ : ∃ W, S2.setCell ⟨w.heap.size, 5, none⟩ (.int .i64 0) = W := ⟨_, rfl⟩
  rw [hS4] at Nc4 Nr4 E4
  clear Nc2 Nr2 E2
  obtain ⟨c5_0, c5_1, c5_2, c5_3, c5_4, c5_5, c5_6⟩ := Nc4.out.cells
  have r6 := Nc4.out.cells.2.2.2.2.1
  have g6 := Nc4.out.thaw.2.2.2.2.1
  have Nc6 := Lib.hid (Nc4.out.set4 (mi + 1))
  have Nr6 := Lib.hid (Nr4.out.other (C := w.heap.size) (i := 4) (by omega) (.int .i64 (mi + 1)))
  have E6 := Lib.hid (below_set (C := w.heap.size) (i := 4) E4.out (by omega) (.int .i64 (mi + 1)))
  obtain ⟨S6, hS6⟩ : ∃ W, S4.setCell ⟨w.heap.size, 4, none⟩ (.int .i64 (mi + 1)) = W := ⟨_, rfl⟩
  rw [hS6] at Nc6 Nr6 E6
  clear Nc4 Nr4 E4
  obtain ⟨c7_0, c7_1, c7_2, c7_3, c7_4, c7_5, c7_6⟩ := Nc6.out.cells
  have r8 := Nc6.out.cells.2.2.2.2.1
  have g8 := Nc6.out.thaw.2.2.2.2.1
  have Nc8 := Lib.hid (Nc6.out.set4 0)
  have Nr8 := Lib.hid (Nr6.out.other (C := w.heap.size) (i := 4) (by omega) (.int .i64 0))
  have E8 := Lib.hid (below_set (C := w.heap.size) (i := 4) E6.out (by omega) (.int .i64 0))
  obtain ⟨S8, hS8⟩ : ∃ W, S6.setCell ⟨w.heap.size, 4, none⟩ (.int .i64 0) = W := ⟨_, rfl⟩
  rw [hS8] at Nc8 Nr8 E8
  clear Nc6 Nr6 E6
  obtain ⟨c9_0, c9_1, c9_2, c9_3, c9_4, c9_5, c9_6⟩ := Nc8.out.cells
  have r10 := Nc8.out.cells.2.2.2.1
  have g10 := Nc8.out.thaw.2.2.2.1
  have Nc10 := Lib.hid (Nc8.out.set3 (hh + 1))
  have Nr10 := Lib.hid (Nr8.out.other (C := w.heap.size) (i := 3) (by omega) (.int .i64 (hh + 1)))
  have E10 := Lib.hid (below_set (C := w.heap.size) (i := 3) E8.out (by omega) (.int .i64 (hh + 1)))
  obtain ⟨S10, hS10⟩ : ∃ W, S8.setCell ⟨w.heap.size, 3, none⟩ (.int .i64 (hh + 1)) = W := ⟨_, rfl⟩
  rw [hS10] at Nc10 Nr10 E10
  clear Nc8 Nr8 E8
  obtain ⟨c11_0, c11_1, c11_2, c11_3, c11_4, c11_5, c11_6⟩ := Nc10.out.cells
  have r12 := Nc10.out.cells.2.2.2.1
  have g12 := Nc10.out.thaw.2.2.2.1
  have Nc12 := Lib.hid (Nc10.out.set3 0)
  have Nr12 := Lib.hid (Nr10.out.other (C := w.heap.size) (i := 3) (by omega) (.int .i64 0))
  have E12 := Lib.hid (below_set (C := w.heap.size) (i := 3) E10.out (by omega) (.int .i64 0))
  obtain ⟨S12, hS12⟩ : ∃ W, S10.setCell ⟨w.heap.size, 3, none⟩ (.int .i64 0) = W := ⟨_, rfl⟩
  rw [hS12] at Nc12 Nr12 E12
  clear Nc10 Nr10 E10
  obtain ⟨c13_0, c13_1, c13_2, c13_3, c13_4, c13_5, c13_6⟩ := Nc12.out.cells
  have r14 := Nc12.out.cells.2.2.1
  have g14 := Nc12.out.thaw.2.2.1
  have Nc14 := Lib.hid (Nc12.out.set2 (d + 1))
  have Nr14 := Lib.hid (Nr12.out.other (C := w.heap.size) (i := 2) (by omega) (.int .i64 (d + 1)))
  have E14 := Lib.hid (below_set (C := w.heap.size) (i := 2) E12.out (by omega) (.int .i64 (d + 1)))
  obtain ⟨S14, hS14⟩ : ∃ W, S12.setCell ⟨w.heap.size, 2, none⟩ (.int .i64 (d + 1)) = W := ⟨_, rfl⟩
  rw [hS14] at Nc14 Nr14 E14
  clear Nc12 Nr12 E12
  obtain ⟨c15_0, c15_1, c15_2, c15_3, c15_4, c15_5, c15_6⟩ := Nc14.out.cells
  go_enter Tryd.func28, Tryd.ntmps28
  go_wp2_with fail
  go_quiet ((go_at_call 22; exact Calls.quiet_of_same ((pmd_any y m _ (MT.drewN (show MT S14 from HT.out.below E14.out) _) (by omega) (by omega)).mono (by rintro e w' ⟨rfl, rfl⟩; rw [HM.out]; exact ⟨rfl, rfl⟩))))
  clear hW0 hW1 c1_0 c1_1 c1_2 c1_3 c1_4 c1_5 c1_6 r2 g2 hS2 c3_0 c3_1 c3_2 c3_3 c3_4 c3_5 c3_6 r4 g4 hS4 c5_0 c5_1 c5_2 c5_3 c5_4 c5_5 c5_6 r6 g6 hS6 c7_0 c7_1 c7_2 c7_3 c7_4 c7_5 c7_6 r8 g8 hS8 c9_0 c9_1 c9_2 c9_3 c9_4 c9_5 c9_6 r10 g10 hS10 c11_0 c11_1 c11_2 c11_3 c11_4 c11_5 c11_6 r12 g12 hS12 c13_0 c13_1 c13_2 c13_3 c13_4 c13_5 c13_6 r14 g14 hS14 c15_0 c15_1 c15_2 c15_3 c15_4 c15_5 c15_6
  have Qc16 := Lib.hid (Nc14.out.drewN nq)
  have Qr16 := Lib.hid (Nr14.out.drewN nq)
  have QB16 := Lib.hid (blwn E14.out nq)
  obtain ⟨Q16, hQ⟩ : ∃ W, S14.drewN nq = W := ⟨_, rfl⟩
  rw [hQ] at Qc16 Qr16 QB16 ⊢
  clear hQ Nc14 Nr14 E14
  obtain ⟨c17_0, c17_1, c17_2, c17_3, c17_4, c17_5, c17_6⟩ := Qc16.out.cells
  have r18 := Qc16.out.cells.2.2.1
  have g18 := Qc16.out.thaw.2.2.1
  have Nc18 := Lib.hid (Qc16.out.set2 1)
  have Nr18 := Lib.hid (Qr16.out.other (C := w.heap.size) (i := 2) (by omega) (.int .i64 1))
  have E18 := Lib.hid (below_set (C := w.heap.size) (i := 2) QB16.out (by omega) (.int .i64 1))
  obtain ⟨S18, hS18⟩ : ∃ W, Q16.setCell ⟨w.heap.size, 2, none⟩ (.int .i64 1) = W := ⟨_, rfl⟩
  rw [hS18] at Nc18 Nr18 E18
  clear Qc16 Qr16 QB16
  obtain ⟨c19_0, c19_1, c19_2, c19_3, c19_4, c19_5, c19_6⟩ := Nc18.out.cells
  have r20 := Nc18.out.cells.2.1
  have g20 := Nc18.out.thaw.2.1
  have Nc20 := Lib.hid (Nc18.out.set1 (m + 1))
  have Nr20 := Lib.hid (Nr18.out.other (C := w.heap.size) (i := 1) (by omega) (.int .i64 (m + 1)))
  have E20 := Lib.hid (below_set (C := w.heap.size) (i := 1) E18.out (by omega) (.int .i64 (m + 1)))
  obtain ⟨S20, hS20⟩ : ∃ W, S18.setCell ⟨w.heap.size, 1, none⟩ (.int .i64 (m + 1)) = W := ⟨_, rfl⟩
  rw [hS20] at Nc20 Nr20 E20
  clear Nc18 Nr18 E18
  obtain ⟨c21_0, c21_1, c21_2, c21_3, c21_4, c21_5, c21_6⟩ := Nc20.out.cells
  have r22 := Nr20.out.cells.1
  have g22 := Nr20.out.thaw.1
  have Nr22 := Lib.hid (Nr20.out.set0 y)
  have Nc22 := Lib.hid (Nc20.out.other (C := W0.heap.size) (i := 0) (by omega) (.int .i64 y))
  have E22 := Lib.hid (below_set (C := W0.heap.size) (i := 0) E20.out (by omega) (.int .i64 y))
  obtain ⟨S22, hS22⟩ : ∃ W, S20.setCell ⟨W0.heap.size, 0, none⟩ (.int .i64 y) = W := ⟨_, rfl⟩
  rw [hS22] at Nr22 Nc22 E22
  clear Nc20 Nr20 E20
  have r23 := Nr22.out.cells.2.1
  have g23 := Nr22.out.thaw.2.1
  have Nr23 := Lib.hid (Nr22.out.set1 (m + 1))
  have Nc23 := Lib.hid (Nc22.out.other (C := W0.heap.size) (i := 1) (by omega) (.int .i64 (m + 1)))
  have E23 := Lib.hid (below_set (C := W0.heap.size) (i := 1) E22.out (by omega) (.int .i64 (m + 1)))
  obtain ⟨S23, hS23⟩ : ∃ W, S22.setCell ⟨W0.heap.size, 1, none⟩ (.int .i64 (m + 1)) = W := ⟨_, rfl⟩
  rw [hS23] at Nr23 Nc23 E23
  clear Nc22 Nr22 E22
  have r24 := Nr23.out.cells.2.2.1
  have g24 := Nr23.out.thaw.2.2.1
  have Nr24 := Lib.hid (Nr23.out.set2 1)
  have Nc24 := Lib.hid (Nc23.out.other (C := W0.heap.size) (i := 2) (by omega) (.int .i64 1))
  have E24 := Lib.hid (below_set (C := W0.heap.size) (i := 2) E23.out (by omega) (.int .i64 1))
  obtain ⟨S24, hS24⟩ : ∃ W, S23.setCell ⟨W0.heap.size, 2, none⟩ (.int .i64 1) = W := ⟨_, rfl⟩
  rw [hS24] at Nr24 Nc24 E24
  clear Nc23 Nr23 E23
  have r25 := Nr24.out.cells.2.2.2.1
  have g25 := Nr24.out.thaw.2.2.2.1
  have Nr25 := Lib.hid (Nr24.out.set3 0)
  have Nc25 := Lib.hid (Nc24.out.other (C := W0.heap.size) (i := 3) (by omega) (.int .i64 0))
  have E25 := Lib.hid (below_set (C := W0.heap.size) (i := 3) E24.out (by omega) (.int .i64 0))
  obtain ⟨S25, hS25⟩ : ∃ W, S24.setCell ⟨W0.heap.size, 3, none⟩ (.int .i64 0) = W := ⟨_, rfl⟩
  rw [hS25] at Nr25 Nc25 E25
  clear Nc24 Nr24 E24
  have r26 := Nr25.out.cells.2.2.2.2.1
  have g26 := Nr25.out.thaw.2.2.2.2.1
  have Nr26 := Lib.hid (Nr25.out.set4 0)
  have Nc26 := Lib.hid (Nc25.out.other (C := W0.heap.size) (i := 4) (by omega) (.int .i64 0))
  have E26 := Lib.hid (below_set (C := W0.heap.size) (i := 4) E25.out (by omega) (.int .i64 0))
  obtain ⟨S26, hS26⟩ : ∃ W, S25.setCell ⟨W0.heap.size, 4, none⟩ (.int .i64 0) = W := ⟨_, rfl⟩
  rw [hS26] at Nr26 Nc26 E26
  clear Nc25 Nr25 E25
  have r27 := Nr26.out.cells.2.2.2.2.2.1
  have g27 := Nr26.out.thaw.2.2.2.2.2.1
  have Nr27 := Lib.hid (Nr26.out.set5 0)
  have Nc27 := Lib.hid (Nc26.out.other (C := W0.heap.size) (i := 5) (by omega) (.int .i64 0))
  have E27 := Lib.hid (below_set (C := W0.heap.size) (i := 5) E26.out (by omega) (.int .i64 0))
  obtain ⟨S27, hS27⟩ : ∃ W, S26.setCell ⟨W0.heap.size, 5, none⟩ (.int .i64 0) = W := ⟨_, rfl⟩
  rw [hS27] at Nr27 Nc27 E27
  clear Nc26 Nr26 E26
  have r28 := Nr27.out.cells.2.2.2.2.2.2
  have g28 := Nr27.out.thaw.2.2.2.2.2.2
  have Nr28 := Lib.hid (Nr27.out.set6 n)
  have Nc28 := Lib.hid (Nc27.out.other (C := W0.heap.size) (i := 6) (by omega) (.int .i64 n))
  have E28 := Lib.hid (below_set (C := W0.heap.size) (i := 6) E27.out (by omega) (.int .i64 n))
  obtain ⟨S28, hS28⟩ : ∃ W, S27.setCell ⟨W0.heap.size, 6, none⟩ (.int .i64 n) = W := ⟨_, rfl⟩
  rw [hS28] at Nr28 Nc28 E28
  clear Nc27 Nr27 E27
  go_wp2_with fail
  clear c17_0 c17_1 c17_2 c17_3 c17_4 c17_5 c17_6 r18 g18 hS18 c19_0 c19_1 c19_2 c19_3 c19_4 c19_5 c19_6 r20 g20 hS20 c21_0 c21_1 c21_2 c21_3 c21_4 c21_5 c21_6 r22 g22 hS22 r23 g23 hS23 r24 g24 hS24 r25 g25 hS25 r26 g26 hS26 r27 g27 hS27 r28 g28 hS28
  obtain ⟨k0, k1, k2, k3, k4, k5, k6⟩ := Nr28.out.cells
  exact bodyPost_ret (v := .agg #[.int .i64 y, .int .i64 (m + 1), .int .i64 1, .int .i64 0, .int .i64 0, .int .i64 0, .int .i64 n]) (by simp [results, Tryd.results28, go_sem, k0, k1, k2, k3, k4, k5, k6]) rfl ⟨rfl, E28.out⟩

set_option maxRecDepth 100000 in
set_option maxHeartbeats 1000000 in
theorem after_5 (y m d hh mi s n : Int) (w : World) (ht : MT w) (s0 : 0 ≤ s) (s1 : s ≤ 59) (i0 : 0 ≤ mi) (i1 : mi ≤ 59) (h0 : 0 ≤ hh) (h1 : hh ≤ 23) (m0 : 1 ≤ m) (m1 : m ≤ 12) (d0 : 1 ≤ d) (d1 : d ≤ md y m) (y0 : 1600 ≤ y) (y1 : y ≤ 2200) (a : 59 ≤ s) (b : 59 ≤ mi) (c : 23 ≤ hh) (e : md y m ≤ d) (f : 12 ≤ m) :
    Calls Tryd.prog 28 #[.agg #[.int .i64 y, .int .i64 m, .int .i64 d, .int .i64 hh, .int .i64 mi, .int .i64 s, .int .i64 n]] w fun e w' => e = .returned (.agg #[.int .i64 (y + 1), .int .i64 1, .int .i64 1, .int .i64 0, .int .i64 0, .int .i64 0, .int .i64 n]) ∧ Below w.heap.size w w' := by
  have hmd := (md_bound (y := y) m0 m1).2
  obtain ⟨M, hM⟩ : ∃ M, md y m = M := ⟨_, rfl⟩
  rw [hM] at hmd d1 e
  have HM := Lib.hid hM
  have HT := Lib.hid ht
  have X0 := Lib.hid (bx7_new w y m d hh mi s n)
  have B0 := Lib.hid ((Below.refl w.heap.size w).alloc (Nat.le_refl _) (.cells #[.int .i64 y, .int .i64 m, .int .i64 d, .int .i64 hh, .int .i64 mi, .int .i64 s, .int .i64 n] 23))
  obtain ⟨W0, hW0⟩ : ∃ W, w.alloc (.cells #[.int .i64 y, .int .i64 m, .int .i64 d, .int .i64 hh, .int .i64 mi, .int .i64 s, .int .i64 n] 23) = W := ⟨_, rfl⟩
  rw [hW0] at X0 B0
  have Y0 := Lib.hid (bx7_new W0 0 0 0 0 0 0 0)
  have X1 := Lib.hid (X0.out.alloc (.cells #[.int .i64 0, .int .i64 0, .int .i64 0, .int .i64 0, .int .i64 0, .int .i64 0, .int .i64 0] 23))
  have lt0 := X0.out.lt
  have sz0 := B0.out.size
  have BB1 := Lib.hid (B0.out.alloc sz0 (.cells #[.int .i64 0, .int .i64 0, .int .i64 0, .int .i64 0, .int .i64 0, .int .i64 0, .int .i64 0] 23))
  obtain ⟨W1, hW1⟩ : ∃ W, W0.alloc (.cells #[.int .i64 0, .int .i64 0, .int .i64 0, .int .i64 0, .int .i64 0, .int .i64 0, .int .i64 0] 23) = W := ⟨_, rfl⟩
  rw [hW1] at Y0 X1 BB1
  clear hM ht X0 B0
  obtain ⟨c1_0, c1_1, c1_2, c1_3, c1_4, c1_5, c1_6⟩ := X1.out.cells
  have r2 := X1.out.cells.2.2.2.2.2.1
  have g2 := X1.out.thaw.2.2.2.2.2.1
  have Nc2 := Lib.hid (X1.out.set5 (s + 1))
  have Nr2 := Lib.hid (Y0.out.other (C := w.heap.size) (i := 5) (by omega) (.int .i64 (s + 1)))
  have E2 := Lib.hid (below_set (C := w.heap.size) (i := 5) BB1.out (by omega) (.int .i64 (s + 1)))
  obtain ⟨S2, hS2⟩ : ∃ W, W1.setCell ⟨w.heap.size, 5, none⟩ (.int .i64 (s + 1)) = W := ⟨_, rfl⟩
  rw [hS2] at Nc2 Nr2 E2
  clear X1 Y0 BB1
  obtain ⟨c3_0, c3_1, c3_2, c3_3, c3_4, c3_5, c3_6⟩ := Nc2.out.cells
  have r4 := Nc2.out.cells.2.2.2.2.2.1
  have g4 := Nc2.out.thaw.2.2.2.2.2.1
  have Nc4 := Lib.hid (Nc2.out.set5 0)
  have Nr4 := Lib.hid (Nr2.out.other (C := w.heap.size) (i := 5) (by omega) (.int .i64 0))
  have E4 := Lib.hid (below_set (C := w.heap.size) (i := 5) E2.out (by omega) (.int .i64 0))
  obtain ⟨S4, hS4⟩ : ∃ W, S2.setCell ⟨w.heap.size, 5, none⟩ (.int .i64 0) = W := ⟨_, rfl⟩
  rw [hS4] at Nc4 Nr4 E4
  clear Nc2 Nr2 E2
  obtain ⟨c5_0, c5_1, c5_2, c5_3, c5_4, c5_5, c5_6⟩ := Nc4.out.cells
  have r6 := Nc4.out.cells.2.2.2.2.1
  have g6 := Nc4.out.thaw.2.2.2.2.1
  have Nc6 := Lib.hid (Nc4.out.set4 (mi + 1))
  have Nr6 := Lib.hid (Nr4.out.other (C := w.heap.size) (i := 4) (by omega) (.int .i64 (mi + 1)))
  have E6 := Lib.hid (below_set (C := w.heap.size) (i := 4) E4.out (by omega) (.int .i64 (mi + 1)))
  obtain ⟨S6, hS6⟩ : ∃ W, S4.setCell ⟨w.heap.size, 4, none⟩ (.int .i64 (mi + 1)) = W := ⟨_, rfl⟩
  rw [hS6] at Nc6 Nr6 E6
  clear Nc4 Nr4 E4
  obtain ⟨c7_0, c7_1, c7_2, c7_3, c7_4, c7_5, c7_6⟩ := Nc6.out.cells
  have r8 := Nc6.out.cells.2.2.2.2.1
  have g8 := Nc6.out.thaw.2.2.2.2.1
  have Nc8 := Lib.hid (Nc6.out.set4 0)
  have Nr8 := Lib.hid (Nr6.out.other (C := w.heap.size) (i := 4) (by omega) (.int .i64 0))
  have E8 := Lib.hid (below_set (C := w.heap.size) (i := 4) E6.out (by omega) (.int .i64 0))
  obtain ⟨S8, hS8⟩ : ∃ W, S6.setCell ⟨w.heap.size, 4, none⟩ (.int .i64 0) = W := ⟨_, rfl⟩
  rw [hS8] at Nc8 Nr8 E8
  clear Nc6 Nr6 E6
  obtain ⟨c9_0, c9_1, c9_2, c9_3, c9_4, c9_5, c9_6⟩ := Nc8.out.cells
  have r10 := Nc8.out.cells.2.2.2.1
  have g10 := Nc8.out.thaw.2.2.2.1
  have Nc10 := Lib.hid (Nc8.out.set3 (hh + 1))
  have Nr10 := Lib.hid (Nr8.out.other (C := w.heap.size) (i := 3) (by omega) (.int .i64 (hh + 1)))
  have E10 := Lib.hid (below_set (C := w.heap.size) (i := 3) E8.out (by omega) (.int .i64 (hh + 1)))
  obtain ⟨S10, hS10⟩ : ∃ W, S8.setCell ⟨w.heap.size, 3, none⟩ (.int .i64 (hh + 1)) = W := ⟨_, rfl⟩
  rw [hS10] at Nc10 Nr10 E10
  clear Nc8 Nr8 E8
  obtain ⟨c11_0, c11_1, c11_2, c11_3, c11_4, c11_5, c11_6⟩ := Nc10.out.cells
  have r12 := Nc10.out.cells.2.2.2.1
  have g12 := Nc10.out.thaw.2.2.2.1
  have Nc12 := Lib.hid (Nc10.out.set3 0)
  have Nr12 := Lib.hid (Nr10.out.other (C := w.heap.size) (i := 3) (by omega) (.int .i64 0))
  have E12 := Lib.hid (below_set (C := w.heap.size) (i := 3) E10.out (by omega) (.int .i64 0))
  obtain ⟨S12, hS12⟩ : ∃ W, S10.setCell ⟨w.heap.size, 3, none⟩ (.int .i64 0) = W := ⟨_, rfl⟩
  rw [hS12] at Nc12 Nr12 E12
  clear Nc10 Nr10 E10
  obtain ⟨c13_0, c13_1, c13_2, c13_3, c13_4, c13_5, c13_6⟩ := Nc12.out.cells
  have r14 := Nc12.out.cells.2.2.1
  have g14 := Nc12.out.thaw.2.2.1
  have Nc14 := Lib.hid (Nc12.out.set2 (d + 1))
  have Nr14 := Lib.hid (Nr12.out.other (C := w.heap.size) (i := 2) (by omega) (.int .i64 (d + 1)))
  have E14 := Lib.hid (below_set (C := w.heap.size) (i := 2) E12.out (by omega) (.int .i64 (d + 1)))
  obtain ⟨S14, hS14⟩ : ∃ W, S12.setCell ⟨w.heap.size, 2, none⟩ (.int .i64 (d + 1)) = W := ⟨_, rfl⟩
  rw [hS14] at Nc14 Nr14 E14
  clear Nc12 Nr12 E12
  obtain ⟨c15_0, c15_1, c15_2, c15_3, c15_4, c15_5, c15_6⟩ := Nc14.out.cells
  go_enter Tryd.func28, Tryd.ntmps28
  go_wp2_with fail
  go_quiet ((go_at_call 22; exact Calls.quiet_of_same ((pmd_any y m _ (MT.drewN (show MT S14 from HT.out.below E14.out) _) (by omega) (by omega)).mono (by rintro e w' ⟨rfl, rfl⟩; rw [HM.out]; exact ⟨rfl, rfl⟩))))
  clear hW0 hW1 c1_0 c1_1 c1_2 c1_3 c1_4 c1_5 c1_6 r2 g2 hS2 c3_0 c3_1 c3_2 c3_3 c3_4 c3_5 c3_6 r4 g4 hS4 c5_0 c5_1 c5_2 c5_3 c5_4 c5_5 c5_6 r6 g6 hS6 c7_0 c7_1 c7_2 c7_3 c7_4 c7_5 c7_6 r8 g8 hS8 c9_0 c9_1 c9_2 c9_3 c9_4 c9_5 c9_6 r10 g10 hS10 c11_0 c11_1 c11_2 c11_3 c11_4 c11_5 c11_6 r12 g12 hS12 c13_0 c13_1 c13_2 c13_3 c13_4 c13_5 c13_6 r14 g14 hS14 c15_0 c15_1 c15_2 c15_3 c15_4 c15_5 c15_6
  have Qc16 := Lib.hid (Nc14.out.drewN nq)
  have Qr16 := Lib.hid (Nr14.out.drewN nq)
  have QB16 := Lib.hid (blwn E14.out nq)
  obtain ⟨Q16, hQ⟩ : ∃ W, S14.drewN nq = W := ⟨_, rfl⟩
  rw [hQ] at Qc16 Qr16 QB16 ⊢
  clear hQ Nc14 Nr14 E14
  obtain ⟨c17_0, c17_1, c17_2, c17_3, c17_4, c17_5, c17_6⟩ := Qc16.out.cells
  have r18 := Qc16.out.cells.2.2.1
  have g18 := Qc16.out.thaw.2.2.1
  have Nc18 := Lib.hid (Qc16.out.set2 1)
  have Nr18 := Lib.hid (Qr16.out.other (C := w.heap.size) (i := 2) (by omega) (.int .i64 1))
  have E18 := Lib.hid (below_set (C := w.heap.size) (i := 2) QB16.out (by omega) (.int .i64 1))
  obtain ⟨S18, hS18⟩ : ∃ W, Q16.setCell ⟨w.heap.size, 2, none⟩ (.int .i64 1) = W := ⟨_, rfl⟩
  rw [hS18] at Nc18 Nr18 E18
  clear Qc16 Qr16 QB16
  obtain ⟨c19_0, c19_1, c19_2, c19_3, c19_4, c19_5, c19_6⟩ := Nc18.out.cells
  have r20 := Nc18.out.cells.2.1
  have g20 := Nc18.out.thaw.2.1
  have Nc20 := Lib.hid (Nc18.out.set1 (m + 1))
  have Nr20 := Lib.hid (Nr18.out.other (C := w.heap.size) (i := 1) (by omega) (.int .i64 (m + 1)))
  have E20 := Lib.hid (below_set (C := w.heap.size) (i := 1) E18.out (by omega) (.int .i64 (m + 1)))
  obtain ⟨S20, hS20⟩ : ∃ W, S18.setCell ⟨w.heap.size, 1, none⟩ (.int .i64 (m + 1)) = W := ⟨_, rfl⟩
  rw [hS20] at Nc20 Nr20 E20
  clear Nc18 Nr18 E18
  obtain ⟨c21_0, c21_1, c21_2, c21_3, c21_4, c21_5, c21_6⟩ := Nc20.out.cells
  have r22 := Nc20.out.cells.2.1
  have g22 := Nc20.out.thaw.2.1
  have Nc22 := Lib.hid (Nc20.out.set1 1)
  have Nr22 := Lib.hid (Nr20.out.other (C := w.heap.size) (i := 1) (by omega) (.int .i64 1))
  have E22 := Lib.hid (below_set (C := w.heap.size) (i := 1) E20.out (by omega) (.int .i64 1))
  obtain ⟨S22, hS22⟩ : ∃ W, S20.setCell ⟨w.heap.size, 1, none⟩ (.int .i64 1) = W := ⟨_, rfl⟩
  rw [hS22] at Nc22 Nr22 E22
  clear Nc20 Nr20 E20
  obtain ⟨c23_0, c23_1, c23_2, c23_3, c23_4, c23_5, c23_6⟩ := Nc22.out.cells
  have r24 := Nc22.out.cells.1
  have g24 := Nc22.out.thaw.1
  have Nc24 := Lib.hid (Nc22.out.set0 (y + 1))
  have Nr24 := Lib.hid (Nr22.out.other (C := w.heap.size) (i := 0) (by omega) (.int .i64 (y + 1)))
  have E24 := Lib.hid (below_set (C := w.heap.size) (i := 0) E22.out (by omega) (.int .i64 (y + 1)))
  obtain ⟨S24, hS24⟩ : ∃ W, S22.setCell ⟨w.heap.size, 0, none⟩ (.int .i64 (y + 1)) = W := ⟨_, rfl⟩
  rw [hS24] at Nc24 Nr24 E24
  clear Nc22 Nr22 E22
  obtain ⟨c25_0, c25_1, c25_2, c25_3, c25_4, c25_5, c25_6⟩ := Nc24.out.cells
  have r26 := Nr24.out.cells.1
  have g26 := Nr24.out.thaw.1
  have Nr26 := Lib.hid (Nr24.out.set0 (y + 1))
  have Nc26 := Lib.hid (Nc24.out.other (C := W0.heap.size) (i := 0) (by omega) (.int .i64 (y + 1)))
  have E26 := Lib.hid (below_set (C := W0.heap.size) (i := 0) E24.out (by omega) (.int .i64 (y + 1)))
  obtain ⟨S26, hS26⟩ : ∃ W, S24.setCell ⟨W0.heap.size, 0, none⟩ (.int .i64 (y + 1)) = W := ⟨_, rfl⟩
  rw [hS26] at Nr26 Nc26 E26
  clear Nc24 Nr24 E24
  have r27 := Nr26.out.cells.2.1
  have g27 := Nr26.out.thaw.2.1
  have Nr27 := Lib.hid (Nr26.out.set1 1)
  have Nc27 := Lib.hid (Nc26.out.other (C := W0.heap.size) (i := 1) (by omega) (.int .i64 1))
  have E27 := Lib.hid (below_set (C := W0.heap.size) (i := 1) E26.out (by omega) (.int .i64 1))
  obtain ⟨S27, hS27⟩ : ∃ W, S26.setCell ⟨W0.heap.size, 1, none⟩ (.int .i64 1) = W := ⟨_, rfl⟩
  rw [hS27] at Nr27 Nc27 E27
  clear Nc26 Nr26 E26
  have r28 := Nr27.out.cells.2.2.1
  have g28 := Nr27.out.thaw.2.2.1
  have Nr28 := Lib.hid (Nr27.out.set2 1)
  have Nc28 := Lib.hid (Nc27.out.other (C := W0.heap.size) (i := 2) (by omega) (.int .i64 1))
  have E28 := Lib.hid (below_set (C := W0.heap.size) (i := 2) E27.out (by omega) (.int .i64 1))
  obtain ⟨S28, hS28⟩ : ∃ W, S27.setCell ⟨W0.heap.size, 2, none⟩ (.int .i64 1) = W := ⟨_, rfl⟩
  rw [hS28] at Nr28 Nc28 E28
  clear Nc27 Nr27 E27
  have r29 := Nr28.out.cells.2.2.2.1
  have g29 := Nr28.out.thaw.2.2.2.1
  have Nr29 := Lib.hid (Nr28.out.set3 0)
  have Nc29 := Lib.hid (Nc28.out.other (C := W0.heap.size) (i := 3) (by omega) (.int .i64 0))
  have E29 := Lib.hid (below_set (C := W0.heap.size) (i := 3) E28.out (by omega) (.int .i64 0))
  obtain ⟨S29, hS29⟩ : ∃ W, S28.setCell ⟨W0.heap.size, 3, none⟩ (.int .i64 0) = W := ⟨_, rfl⟩
  rw [hS29] at Nr29 Nc29 E29
  clear Nc28 Nr28 E28
  have r30 := Nr29.out.cells.2.2.2.2.1
  have g30 := Nr29.out.thaw.2.2.2.2.1
  have Nr30 := Lib.hid (Nr29.out.set4 0)
  have Nc30 := Lib.hid (Nc29.out.other (C := W0.heap.size) (i := 4) (by omega) (.int .i64 0))
  have E30 := Lib.hid (below_set (C := W0.heap.size) (i := 4) E29.out (by omega) (.int .i64 0))
  obtain ⟨S30, hS30⟩ : ∃ W, S29.setCell ⟨W0.heap.size, 4, none⟩ (.int .i64 0) = W := ⟨_, rfl⟩
  rw [hS30] at Nr30 Nc30 E30
  clear Nc29 Nr29 E29
  have r31 := Nr30.out.cells.2.2.2.2.2.1
  have g31 := Nr30.out.thaw.2.2.2.2.2.1
  have Nr31 := Lib.hid (Nr30.out.set5 0)
  have Nc31 := Lib.hid (Nc30.out.other (C := W0.heap.size) (i := 5) (by omega) (.int .i64 0))
  have E31 := Lib.hid (below_set (C := W0.heap.size) (i := 5) E30.out (by omega) (.int .i64 0))
  obtain ⟨S31, hS31⟩ : ∃ W, S30.setCell ⟨W0.heap.size, 5, none⟩ (.int .i64 0) = W := ⟨_, rfl⟩
  rw [hS31] at Nr31 Nc31 E31
  clear Nc30 Nr30 E30
  have r32 := Nr31.out.cells.2.2.2.2.2.2
  have g32 := Nr31.out.thaw.2.2.2.2.2.2
  have Nr32 := Lib.hid (Nr31.out.set6 n)
  have Nc32 := Lib.hid (Nc31.out.other (C := W0.heap.size) (i := 6) (by omega) (.int .i64 n))
  have E32 := Lib.hid (below_set (C := W0.heap.size) (i := 6) E31.out (by omega) (.int .i64 n))
  obtain ⟨S32, hS32⟩ : ∃ W, S31.setCell ⟨W0.heap.size, 6, none⟩ (.int .i64 n) = W := ⟨_, rfl⟩
  rw [hS32] at Nr32 Nc32 E32
  clear Nc31 Nr31 E31
  go_wp2_with fail
  clear c17_0 c17_1 c17_2 c17_3 c17_4 c17_5 c17_6 r18 g18 hS18 c19_0 c19_1 c19_2 c19_3 c19_4 c19_5 c19_6 r20 g20 hS20 c21_0 c21_1 c21_2 c21_3 c21_4 c21_5 c21_6 r22 g22 hS22 c23_0 c23_1 c23_2 c23_3 c23_4 c23_5 c23_6 r24 g24 hS24 c25_0 c25_1 c25_2 c25_3 c25_4 c25_5 c25_6 r26 g26 hS26 r27 g27 hS27 r28 g28 hS28 r29 g29 hS29 r30 g30 hS30 r31 g31 hS31 r32 g32 hS32
  obtain ⟨k0, k1, k2, k3, k4, k5, k6⟩ := Nr32.out.cells
  exact bodyPost_ret (v := .agg #[.int .i64 (y + 1), .int .i64 1, .int .i64 1, .int .i64 0, .int .i64 0, .int .i64 0, .int .i64 n]) (by simp [results, Tryd.results28, go_sem, k0, k1, k2, k3, k4, k5, k6]) rfl ⟨rfl, E32.out⟩

/-- The next second, case by case. -/
theorem after_next (t : Int) (w : World) (ht : MT w) (h : inS t = true) :
    Calls Tryd.prog 28 #[.agg #[.int .i64 (oY t), .int .i64 (oM t), .int .i64 (oD t), .int .i64 (oH t), .int .i64 (oI t), .int .i64 (oS t), .int .i64 0]] w fun e w' => e = .returned (.agg #[.int .i64 (oY (t + 1)), .int .i64 (oM (t + 1)), .int .i64 (oD (t + 1)), .int .i64 (oH (t + 1)), .int .i64 (oI (t + 1)), .int .i64 (oS (t + 1)), .int .i64 0]) ∧ Below w.heap.size w w' := by
  obtain ⟨y0, y1, m0, m1, d0, d1, h0, h1, i0, i1, s0, s1, -, -⟩ := okC_iff.1 (of_ok h)
  have hd : Dat (oY t) (oM t) (oD t) := ⟨m0, m1, d0, d1⟩
  have hs := sec_of_of t
  obtain ⟨y, hy⟩ : ∃ x, oY t = x := ⟨_, rfl⟩
  obtain ⟨m, hm⟩ : ∃ x, oM t = x := ⟨_, rfl⟩
  obtain ⟨d, hdd⟩ : ∃ x, oD t = x := ⟨_, rfl⟩
  obtain ⟨hh, hhh⟩ : ∃ x, oH t = x := ⟨_, rfl⟩
  obtain ⟨mi, hmi⟩ : ∃ x, oI t = x := ⟨_, rfl⟩
  obtain ⟨s, hss⟩ : ∃ x, oS t = x := ⟨_, rfl⟩
  simp only [hy, hm, hdd, hhh, hmi, hss] at y0 y1 m0 m1 d0 d1 h0 h1 i0 i1 s0 s1 hd hs ⊢
  have go : ∀ {y' m' d' hh' mi' s' : Int}, (oY (t + 1) = y' ∧ oM (t + 1) = m' ∧ oD (t + 1) = d' ∧ oH (t + 1) = hh' ∧ oI (t + 1) = mi' ∧ oS (t + 1) = s') → Calls Tryd.prog 28 #[.agg #[.int .i64 y, .int .i64 m, .int .i64 d, .int .i64 hh, .int .i64 mi, .int .i64 s, .int .i64 0]] w (fun e w' => e = .returned (.agg #[.int .i64 y', .int .i64 m', .int .i64 d', .int .i64 hh', .int .i64 mi', .int .i64 s', .int .i64 0]) ∧ Below w.heap.size w w') → Calls Tryd.prog 28 #[.agg #[.int .i64 y, .int .i64 m, .int .i64 d, .int .i64 hh, .int .i64 mi, .int .i64 s, .int .i64 0]] w fun e w' => e = .returned (.agg #[.int .i64 (oY (t + 1)), .int .i64 (oM (t + 1)), .int .i64 (oD (t + 1)), .int .i64 (oH (t + 1)), .int .i64 (oI (t + 1)), .int .i64 (oS (t + 1)), .int .i64 0]) ∧ Below w.heap.size w w' := by
    rintro y' m' d' hh' mi' s' ⟨rfl, rfl, rfl, rfl, rfl, rfl⟩ h; exact h
  simp only [secN] at hs
  by_cases a : s ≤ 58
  · exact go (of_sec (y := y) (m := m) (d := d) (hh := hh) (mi := mi) (s := s + 1) hd h0 h1 i0 i1 (by omega) (by omega) (by simp only [secN]; omega)) (after_0 y m d hh mi s 0 w ht s0 s1 i0 i1 h0 h1 m0 m1 d0 d1 y0 y1 a)
  by_cases b : mi ≤ 58
  · exact go (of_sec (y := y) (m := m) (d := d) (hh := hh) (mi := mi + 1) (s := 0) hd h0 h1 (by omega) (by omega) (by decide) (by decide) (by simp only [secN]; omega)) (after_1 y m d hh mi s 0 w ht s0 s1 i0 i1 h0 h1 m0 m1 d0 d1 y0 y1 (by omega) b)
  by_cases c : hh ≤ 22
  · exact go (of_sec (y := y) (m := m) (d := d) (hh := hh + 1) (mi := 0) (s := 0) hd (by omega) (by omega) (by decide) (by decide) (by decide) (by decide) (by simp only [secN]; omega)) (after_2 y m d hh mi s 0 w ht s0 s1 i0 i1 h0 h1 m0 m1 d0 d1 y0 y1 (by omega) (by omega) c)
  by_cases e : d + 1 ≤ md y m
  · have hn := day_next hd
    exact go (of_sec (y := y) (m := m) (d := d + 1) (hh := 0) (mi := 0) (s := 0) ⟨m0, m1, by omega, e⟩ (by decide) (by decide) (by decide) (by decide) (by decide) (by decide) (by simp only [secN]; omega)) (after_3 y m d hh mi s 0 w ht s0 s1 i0 i1 h0 h1 m0 m1 d0 d1 y0 y1 (by omega) (by omega) (by omega) e)
  by_cases f : m ≤ 11
  · have hn := month_next hd (by omega)
    exact go (of_sec (y := y) (m := m + 1) (d := 1) (hh := 0) (mi := 0) (s := 0) (dat_first (by omega) (by omega)) (by decide) (by decide) (by decide) (by decide) (by decide) (by decide) (by simp only [secN]; omega)) (after_4 y m d hh mi s 0 w ht s0 s1 i0 i1 h0 h1 m0 m1 d0 d1 y0 y1 (by omega) (by omega) (by omega) (by omega) f)
  · have hm12 : m = 12 := by omega
    rw [hm12] at hs e d1
    have hn := year_next (y := y) (d := d) (by omega)
    refine go (of_sec (y := y + 1) (m := 1) (d := 1) (hh := 0) (mi := 0) (s := 0) (dat_first (by decide) (by decide)) (by decide) (by decide) (by decide) (by decide) (by decide) (by decide) (by simp only [secN]; omega)) (after_5 y m d hh mi s 0 w ht s0 s1 i0 i1 h0 h1 m0 m1 d0 (by rw [hm12]; omega) y0 y1 (by omega) (by omega) (by omega) (by rw [hm12]; omega) (by omega))
/-- The day of the month changes with the day. -/
theorem Cv.day_step (t : Int) : (oD (t + 1) = oD t ∧ (t + 1) / 86400 = t / 86400) ∨ (oD (t + 1) ≠ oD t ∧ (t + 1) / 86400 = t / 86400 + 1) := by
  by_cases h : (t + 1) / 86400 = t / 86400
  · left; exact ⟨by simp only [oD, h], h⟩
  · have h2 : (t + 1) / 86400 = t / 86400 + 1 := by omega
    refine .inr ⟨?_, h2⟩
    obtain ⟨q, hq⟩ : ∃ q, t / 86400 = q := ⟨_, rfl⟩
    have a := civ_dat q
    have b := civ_dat (q + 1)
    simp only [oD, h2, hq]
    intro he
    have hd := a.1
    by_cases e : cd q + 1 ≤ md (cy q) (cm q)
    · have c := civ_num (y := cy q) (m := cm q) (d := cd q + 1) ⟨hd.1, hd.2.1, by have := hd.2.2.1; omega, e⟩
      rw [day_next hd, a.2] at c
      omega
    · have h1 : cd (q + 1) = 1 := by
        by_cases f : cm q ≤ 11
        · have c := civ_num (dat_first (y := cy q) (m := cm q + 1) (by have := hd.1; omega) (by omega))
          rw [month_next hd (by have := hd.2.2.2; omega), a.2] at c
          exact c.2.2
        · have hm12 : cm q = 12 := by have := hd.2.1; omega
          have c := civ_num (dat_first (y := cy q + 1) (m := 1) (by decide) (by decide))
          have hn := a.2
          rw [hm12] at hn e hd
          rw [year_next (y := cy q) (d := cd q) (by have := hd.2.2.2; omega), hn] at c
          exact c.2.2
      have := md_bound (y := cy q) hd.1 hd.2.1
      omega

set_option maxRecDepth 100000 in
set_option maxHeartbeats 4000000 in
theorem next_law (t : Int) (w : World) (ht : MT w) (hp : Tab w) (t0 : -9223372036854775808 ≤ t) (t1 : t ≤ 9223372036854775807) :
    Calls Tryd.prog 8 #[.int .i64 t] w fun e w' => e = .returned (.bool true) ∧ Below w.heap.size w w' := by
  have HT := Lib.hid ht
  have HP := Lib.hid hp
  have BB0 := Lib.hid (Below.refl w.heap.size w)
  clear ht hp
  by_cases lo : t < -8000000000
  · go_enter Tryd.func8, Tryd.ntmps8
    go_wp2_with fail
    refine (awake5_any w HT.out HP.out).mono ?_
    rintro e w1 ⟨rfl, hb⟩
    go_wp2_with fail
    go_ret
    exact ⟨rfl, hb⟩
  by_cases hi : 8000000000 ≤ t
  · have d1 : decide (t < -8000000000) = false := decide_eq_false lo
    go_enter Tryd.func8, Tryd.ntmps8
    go_wp2_with fail
    refine (awake5_any w HT.out HP.out).mono ?_
    rintro e w1 ⟨rfl, hb⟩
    go_wp2_with fail
    go_ret
    exact ⟨rfl, hb⟩
  have d1 : decide (t < -8000000000) = false := decide_eq_false lo
  have d2 : decide (8000000000 ≤ t) = false := decide_eq_false hi
  have HI := Lib.hid (inS_iff.2 (⟨by omega, by omega⟩ : -8000000000 ≤ t ∧ t ≤ 8000000000))
  have HI2 := Lib.hid (inS_iff.2 (⟨by omega, by omega⟩ : -8000000000 ≤ t + 1 ∧ t + 1 ≤ 8000000000))
  have hstep := day_step t
  have tl : -8000000000 ≤ t := by omega
  have th : t < 8000000000 := by omega
  clear lo hi t0 t1
  obtain ⟨Y, hY⟩ : ∃ z, oY t = z := ⟨_, rfl⟩
  obtain ⟨M, hM⟩ : ∃ z, oM t = z := ⟨_, rfl⟩
  obtain ⟨D, hD⟩ : ∃ z, oD t = z := ⟨_, rfl⟩
  obtain ⟨H, hH⟩ : ∃ z, oH t = z := ⟨_, rfl⟩
  obtain ⟨I, hI⟩ : ∃ z, oI t = z := ⟨_, rfl⟩
  obtain ⟨S, hS⟩ : ∃ z, oS t = z := ⟨_, rfl⟩
  obtain ⟨Y2, hY2⟩ : ∃ z, oY (t + 1) = z := ⟨_, rfl⟩
  obtain ⟨M2, hM2⟩ : ∃ z, oM (t + 1) = z := ⟨_, rfl⟩
  obtain ⟨D2, hD2⟩ : ∃ z, oD (t + 1) = z := ⟨_, rfl⟩
  obtain ⟨H2, hH2⟩ : ∃ z, oH (t + 1) = z := ⟨_, rfl⟩
  obtain ⟨I2, hI2⟩ : ∃ z, oI (t + 1) = z := ⟨_, rfl⟩
  obtain ⟨S2, hS2⟩ : ∃ z, oS (t + 1) = z := ⟨_, rfl⟩
  have HO1 : Hid (∀ u : World, MT u → Calls Tryd.prog 16 #[.int .i64 t] u fun e w' => e = .returned (.tuple #[.agg #[.int .i64 Y, .int .i64 M, .int .i64 D, .int .i64 H, .int .i64 I, .int .i64 S, .int .i64 0], .int .i64 0]) ∧ Below u.heap.size u w') := Lib.hid (fun u hu => by
    have h := of_in t u hu HI.out
    rw [hY, hM, hD, hH, hI, hS] at h; exact h)
  have HO2 : Hid (∀ u : World, MT u → Calls Tryd.prog 16 #[.int .i64 (t + 1)] u fun e w' => e = .returned (.tuple #[.agg #[.int .i64 Y2, .int .i64 M2, .int .i64 D2, .int .i64 H2, .int .i64 I2, .int .i64 S2, .int .i64 0], .int .i64 0]) ∧ Below u.heap.size u w') := Lib.hid (fun u hu => by
    have h := of_in (t + 1) u hu HI2.out
    rw [hY2, hM2, hD2, hH2, hI2, hS2] at h; exact h)
  have HA : Hid (∀ u : World, MT u → Calls Tryd.prog 28 #[.agg #[.int .i64 Y, .int .i64 M, .int .i64 D, .int .i64 H, .int .i64 I, .int .i64 S, .int .i64 0]] u fun e w' => e = .returned (.agg #[.int .i64 Y2, .int .i64 M2, .int .i64 D2, .int .i64 H2, .int .i64 I2, .int .i64 S2, .int .i64 0]) ∧ Below u.heap.size u w') := Lib.hid (fun u hu => by
    have h := after_next t u hu HI.out
    rw [hY, hM, hD, hH, hI, hS, hY2, hM2, hD2, hH2, hI2, hS2] at h; exact h)
  obtain ⟨R, hR⟩ : ∃ z, t / 86400 % 7 = z := ⟨_, rfl⟩
  obtain ⟨R2, hR2⟩ : ∃ z, (t + 1) / 86400 % 7 = z := ⟨_, rfl⟩
  obtain ⟨J, hJ⟩ : ∃ z, t / 86400 + 15020 = z := ⟨_, rfl⟩
  obtain ⟨J2, hJ2⟩ : ∃ z, (t + 1) / 86400 + 15020 = z := ⟨_, rfl⟩
  have HR := Lib.hid hR
  have HR2 := Lib.hid hR2
  have HJ := Lib.hid hJ
  have HJ2 := Lib.hid hJ2
  have r0 : 0 ≤ R := by omega
  have r6 : R ≤ 6 := by omega
  have jb : -200000 ≤ J ∧ J ≤ 200000 := by omega
  have jb2 : -200000 ≤ J2 ∧ J2 ≤ 200000 := by omega
  have hs2 : (D2 = D ∧ J2 - J = 0 ∧ R2 = R) ∨ (D2 ≠ D ∧ J2 - J = 1 ∧ (R + 1) % 7 = R2) := by
    rw [hD, hD2] at hstep
    rcases hstep with ⟨a, b⟩ | ⟨a, b⟩
    · exact .inl ⟨a, by omega, by rw [← hR, ← hR2, b]⟩
    · exact .inr ⟨a, by omega, by omega⟩
  have HS2 := Lib.hid hs2
  clear hY hM hD hH hI hS hY2 hM2 hD2 hH2 hI2 hS2 hR hR2 hJ hJ2 hstep hs2
  go_enter Tryd.func8, Tryd.ntmps8
  go_wp2_with fail
  refine (HO1.out _ (show MT w from HT.out.below BB0.out)).mono ?_
  rintro e w1 ⟨rfl, hb⟩
  have B1 := Lib.hid (BB0.out.trans (hb.mono BB0.out.size))
  have hz1 := hb.size
  clear hb BB0
  have Ya2 := Lib.hid (bx7_new w1 0 0 0 0 0 0 0)
  have D2 := Lib.hid (B1.out.alloc B1.out.size (.cells #[.int .i64 0, .int .i64 0, .int .i64 0, .int .i64 0, .int .i64 0, .int .i64 0, .int .i64 0] 23))
  have hs2 := B1.out.size
  have r2_0 := Ya2.out.cells.1
  have g2_0 := Ya2.out.thaw.1
  have Na2_0 := Lib.hid (Ya2.out.set0 Y)
  have E2_0 := Lib.hid (below_set (C := w1.heap.size) (i := 0) D2.out (by omega) (.int .i64 Y))
  obtain ⟨S2_0, hS2_0⟩ : ∃ W, (w1.alloc (.cells #[.int .i64 0, .int .i64 0, .int .i64 0, .int .i64 0, .int .i64 0, .int .i64 0, .int .i64 0] 23)).setCell ⟨w1.heap.size, 0, none⟩ (.int .i64 Y) = W := ⟨_, rfl⟩
  rw [hS2_0] at Na2_0 E2_0
  clear Ya2 D2
  have r2_1 := Na2_0.out.cells.2.1
  have g2_1 := Na2_0.out.thaw.2.1
  have Na2_1 := Lib.hid (Na2_0.out.set1 M)
  have E2_1 := Lib.hid (below_set (C := w1.heap.size) (i := 1) E2_0.out (by omega) (.int .i64 M))
  obtain ⟨S2_1, hS2_1⟩ : ∃ W, S2_0.setCell ⟨w1.heap.size, 1, none⟩ (.int .i64 M) = W := ⟨_, rfl⟩
  rw [hS2_1] at Na2_1 E2_1
  clear Na2_0 E2_0
  have r2_2 := Na2_1.out.cells.2.2.1
  have g2_2 := Na2_1.out.thaw.2.2.1
  have Na2_2 := Lib.hid (Na2_1.out.set2 D)
  have E2_2 := Lib.hid (below_set (C := w1.heap.size) (i := 2) E2_1.out (by omega) (.int .i64 D))
  obtain ⟨S2_2, hS2_2⟩ : ∃ W, S2_1.setCell ⟨w1.heap.size, 2, none⟩ (.int .i64 D) = W := ⟨_, rfl⟩
  rw [hS2_2] at Na2_2 E2_2
  clear Na2_1 E2_1
  have r2_3 := Na2_2.out.cells.2.2.2.1
  have g2_3 := Na2_2.out.thaw.2.2.2.1
  have Na2_3 := Lib.hid (Na2_2.out.set3 H)
  have E2_3 := Lib.hid (below_set (C := w1.heap.size) (i := 3) E2_2.out (by omega) (.int .i64 H))
  obtain ⟨S2_3, hS2_3⟩ : ∃ W, S2_2.setCell ⟨w1.heap.size, 3, none⟩ (.int .i64 H) = W := ⟨_, rfl⟩
  rw [hS2_3] at Na2_3 E2_3
  clear Na2_2 E2_2
  have r2_4 := Na2_3.out.cells.2.2.2.2.1
  have g2_4 := Na2_3.out.thaw.2.2.2.2.1
  have Na2_4 := Lib.hid (Na2_3.out.set4 I)
  have E2_4 := Lib.hid (below_set (C := w1.heap.size) (i := 4) E2_3.out (by omega) (.int .i64 I))
  obtain ⟨S2_4, hS2_4⟩ : ∃ W, S2_3.setCell ⟨w1.heap.size, 4, none⟩ (.int .i64 I) = W := ⟨_, rfl⟩
  rw [hS2_4] at Na2_4 E2_4
  clear Na2_3 E2_3
  have r2_5 := Na2_4.out.cells.2.2.2.2.2.1
  have g2_5 := Na2_4.out.thaw.2.2.2.2.2.1
  have Na2_5 := Lib.hid (Na2_4.out.set5 S)
  have E2_5 := Lib.hid (below_set (C := w1.heap.size) (i := 5) E2_4.out (by omega) (.int .i64 S))
  obtain ⟨S2_5, hS2_5⟩ : ∃ W, S2_4.setCell ⟨w1.heap.size, 5, none⟩ (.int .i64 S) = W := ⟨_, rfl⟩
  rw [hS2_5] at Na2_5 E2_5
  clear Na2_4 E2_4
  have r2_6 := Na2_5.out.cells.2.2.2.2.2.2
  have g2_6 := Na2_5.out.thaw.2.2.2.2.2.2
  have Na2_6 := Lib.hid (Na2_5.out.set6 0)
  have E2_6 := Lib.hid (below_set (C := w1.heap.size) (i := 6) E2_5.out (by omega) (.int .i64 0))
  obtain ⟨S2_6, hS2_6⟩ : ∃ W, S2_5.setCell ⟨w1.heap.size, 6, none⟩ (.int .i64 0) = W := ⟨_, rfl⟩
  rw [hS2_6] at Na2_6 E2_6
  clear Na2_5 E2_5
  clear B1
  go_wp2_with fail
  clear hs2 r2_0 g2_0 hS2_0 r2_1 g2_1 hS2_1 r2_2 g2_2 hS2_2 r2_3 g2_3 hS2_3 r2_4 g2_4 hS2_4 r2_5 g2_5 hS2_5 r2_6 g2_6 hS2_6
  refine (HO2.out _ (show MT S2_6 from HT.out.below E2_6.out)).mono ?_
  rintro e w3 ⟨rfl, hb⟩
  have Xa3 := Lib.hid (Na2_6.out.below hb Na2_6.out.lt)
  have B3 := Lib.hid (E2_6.out.trans (hb.mono E2_6.out.size))
  have hz3 := hb.size
  clear hb Na2_6 E2_6
  have Yb4 := Lib.hid (bx7_new w3 0 0 0 0 0 0 0)
  have la4 := Xa3.out.lt
  have Ya4 := Lib.hid (Xa3.out.alloc (.cells #[.int .i64 0, .int .i64 0, .int .i64 0, .int .i64 0, .int .i64 0, .int .i64 0, .int .i64 0] 23))
  have D4 := Lib.hid (B3.out.alloc B3.out.size (.cells #[.int .i64 0, .int .i64 0, .int .i64 0, .int .i64 0, .int .i64 0, .int .i64 0, .int .i64 0] 23))
  have hs4 := B3.out.size
  have r4_0 := Yb4.out.cells.1
  have g4_0 := Yb4.out.thaw.1
  have Nb4_0 := Lib.hid (Yb4.out.set0 Y2)
  have Na4_0 := Lib.hid (Ya4.out.other (C := w3.heap.size) (i := 0) (by omega) (.int .i64 Y2))
  have E4_0 := Lib.hid (below_set (C := w3.heap.size) (i := 0) D4.out (by omega) (.int .i64 Y2))
  obtain ⟨S4_0, hS4_0⟩ : ∃ W, (w3.alloc (.cells #[.int .i64 0, .int .i64 0, .int .i64 0, .int .i64 0, .int .i64 0, .int .i64 0, .int .i64 0] 23)).setCell ⟨w3.heap.size, 0, none⟩ (.int .i64 Y2) = W := ⟨_, rfl⟩
  rw [hS4_0] at Nb4_0 Na4_0 E4_0
  clear Yb4 Ya4 D4
  have r4_1 := Nb4_0.out.cells.2.1
  have g4_1 := Nb4_0.out.thaw.2.1
  have Nb4_1 := Lib.hid (Nb4_0.out.set1 M2)
  have Na4_1 := Lib.hid (Na4_0.out.other (C := w3.heap.size) (i := 1) (by omega) (.int .i64 M2))
  have E4_1 := Lib.hid (below_set (C := w3.heap.size) (i := 1) E4_0.out (by omega) (.int .i64 M2))
  obtain ⟨S4_1, hS4_1⟩ : ∃ W, S4_0.setCell ⟨w3.heap.size, 1, none⟩ (.int .i64 M2) = W := ⟨_, rfl⟩
  rw [hS4_1] at Nb4_1 Na4_1 E4_1
  clear Nb4_0 Na4_0 E4_0
  have r4_2 := Nb4_1.out.cells.2.2.1
  have g4_2 := Nb4_1.out.thaw.2.2.1
  have Nb4_2 := Lib.hid (Nb4_1.out.set2 D2)
  have Na4_2 := Lib.hid (Na4_1.out.other (C := w3.heap.size) (i := 2) (by omega) (.int .i64 D2))
  have E4_2 := Lib.hid (below_set (C := w3.heap.size) (i := 2) E4_1.out (by omega) (.int .i64 D2))
  obtain ⟨S4_2, hS4_2⟩ : ∃ W, S4_1.setCell ⟨w3.heap.size, 2, none⟩ (.int .i64 D2) = W := ⟨_, rfl⟩
  rw [hS4_2] at Nb4_2 Na4_2 E4_2
  clear Nb4_1 Na4_1 E4_1
  have r4_3 := Nb4_2.out.cells.2.2.2.1
  have g4_3 := Nb4_2.out.thaw.2.2.2.1
  have Nb4_3 := Lib.hid (Nb4_2.out.set3 H2)
  have Na4_3 := Lib.hid (Na4_2.out.other (C := w3.heap.size) (i := 3) (by omega) (.int .i64 H2))
  have E4_3 := Lib.hid (below_set (C := w3.heap.size) (i := 3) E4_2.out (by omega) (.int .i64 H2))
  obtain ⟨S4_3, hS4_3⟩ : ∃ W, S4_2.setCell ⟨w3.heap.size, 3, none⟩ (.int .i64 H2) = W := ⟨_, rfl⟩
  rw [hS4_3] at Nb4_3 Na4_3 E4_3
  clear Nb4_2 Na4_2 E4_2
  have r4_4 := Nb4_3.out.cells.2.2.2.2.1
  have g4_4 := Nb4_3.out.thaw.2.2.2.2.1
  have Nb4_4 := Lib.hid (Nb4_3.out.set4 I2)
  have Na4_4 := Lib.hid (Na4_3.out.other (C := w3.heap.size) (i := 4) (by omega) (.int .i64 I2))
  have E4_4 := Lib.hid (below_set (C := w3.heap.size) (i := 4) E4_3.out (by omega) (.int .i64 I2))
  obtain ⟨S4_4, hS4_4⟩ : ∃ W, S4_3.setCell ⟨w3.heap.size, 4, none⟩ (.int .i64 I2) = W := ⟨_, rfl⟩
  rw [hS4_4] at Nb4_4 Na4_4 E4_4
  clear Nb4_3 Na4_3 E4_3
  have r4_5 := Nb4_4.out.cells.2.2.2.2.2.1
  have g4_5 := Nb4_4.out.thaw.2.2.2.2.2.1
  have Nb4_5 := Lib.hid (Nb4_4.out.set5 S2)
  have Na4_5 := Lib.hid (Na4_4.out.other (C := w3.heap.size) (i := 5) (by omega) (.int .i64 S2))
  have E4_5 := Lib.hid (below_set (C := w3.heap.size) (i := 5) E4_4.out (by omega) (.int .i64 S2))
  obtain ⟨S4_5, hS4_5⟩ : ∃ W, S4_4.setCell ⟨w3.heap.size, 5, none⟩ (.int .i64 S2) = W := ⟨_, rfl⟩
  rw [hS4_5] at Nb4_5 Na4_5 E4_5
  clear Nb4_4 Na4_4 E4_4
  have r4_6 := Nb4_5.out.cells.2.2.2.2.2.2
  have g4_6 := Nb4_5.out.thaw.2.2.2.2.2.2
  have Nb4_6 := Lib.hid (Nb4_5.out.set6 0)
  have Na4_6 := Lib.hid (Na4_5.out.other (C := w3.heap.size) (i := 6) (by omega) (.int .i64 0))
  have E4_6 := Lib.hid (below_set (C := w3.heap.size) (i := 6) E4_5.out (by omega) (.int .i64 0))
  obtain ⟨S4_6, hS4_6⟩ : ∃ W, S4_5.setCell ⟨w3.heap.size, 6, none⟩ (.int .i64 0) = W := ⟨_, rfl⟩
  rw [hS4_6] at Nb4_6 Na4_6 E4_6
  clear Nb4_5 Na4_5 E4_5
  clear Xa3 B3
  obtain ⟨c5_0, c5_1, c5_2, c5_3, c5_4, c5_5, c5_6⟩ := Na4_6.out.cells
  obtain ⟨c6_0, c6_1, c6_2, c6_3, c6_4, c6_5, c6_6⟩ := Nb4_6.out.cells
  go_wp2_with fail
  clear hs4 r4_0 g4_0 hS4_0 r4_1 g4_1 hS4_1 r4_2 g4_2 hS4_2 r4_3 g4_3 hS4_3 r4_4 g4_4 hS4_4 r4_5 g4_5 hS4_5 r4_6 g4_6 hS4_6
  go_region_held3 (fun w' => w'.cell? ⟨w1.heap.size, 0, none⟩ = some (.int .i64 Y) ∧ w'.cell? ⟨w1.heap.size, 1, none⟩ = some (.int .i64 M) ∧ w'.cell? ⟨w1.heap.size, 2, none⟩ = some (.int .i64 D) ∧ w'.cell? ⟨w1.heap.size, 3, none⟩ = some (.int .i64 H) ∧ w'.cell? ⟨w1.heap.size, 4, none⟩ = some (.int .i64 I) ∧ w'.cell? ⟨w1.heap.size, 5, none⟩ = some (.int .i64 S) ∧ w'.cell? ⟨w1.heap.size, 6, none⟩ = some (.int .i64 0) ∧ w'.cell? ⟨w3.heap.size, 0, none⟩ = some (.int .i64 Y2) ∧ w'.cell? ⟨w3.heap.size, 1, none⟩ = some (.int .i64 M2) ∧ w'.cell? ⟨w3.heap.size, 2, none⟩ = some (.int .i64 D2) ∧ w'.cell? ⟨w3.heap.size, 3, none⟩ = some (.int .i64 H2) ∧ w'.cell? ⟨w3.heap.size, 4, none⟩ = some (.int .i64 I2) ∧ w'.cell? ⟨w3.heap.size, 5, none⟩ = some (.int .i64 S2) ∧ w'.cell? ⟨w3.heap.size, 6, none⟩ = some (.int .i64 0)) (go_keep)
      (first
        | (go_at_call 28; refine (HA.out _ ?_).mono ?_; exact (show MT S4_6 from HT.out.below E4_6.out); rintro e w7 ⟨rfl, hw⟩; have hw' : Below S4_6.heap.size S4_6 w7 := ⟨hw.os, hw.tape, hw.output, hw.size, hw.block⟩; have Xa7 := Lib.hid (Na4_6.out.below hw' Na4_6.out.lt); obtain ⟨aa70, aa71, aa72, aa73, aa74, aa75, aa76⟩ := Xa7.out.cells; have Xb7 := Lib.hid (Nb4_6.out.below hw' Nb4_6.out.lt); obtain ⟨ab70, ab71, ab72, ab73, ab74, ab75, ab76⟩ := Xb7.out.cells; have B7 := Lib.hid (E4_6.out.trans (hw'.mono E4_6.out.size)); clear hw hw' E4_6))
  rcases HS2.out with ⟨e1, e2, e3⟩ | ⟨e1, e2, e3⟩
  · subst e1
    subst e3
    have e5 : R2 % 7 = R2 := by omega
    obtain ⟨c8_0, c8_1, c8_2, c8_3, c8_4, c8_5, c8_6⟩ := Xa7.out.cells
    obtain ⟨c9_0, c9_1, c9_2, c9_3, c9_4, c9_5, c9_6⟩ := Xb7.out.cells
    go_wp2_with fail
    clear c8_0 c8_1 c8_2 c8_3 c8_4 c8_5 c8_6 c9_0 c9_1 c9_2 c9_3 c9_4 c9_5 c9_6
    refine (pmjd_any (t + 1) _ (by omega) (by omega)).mono ?_
    rintro e w' ⟨rfl, hw'⟩; subst w'
    rw [HJ2.out]
    go_wp2_with fail
    refine (pmjd_any t _ (by omega) (by omega)).mono ?_
    rintro e w' ⟨rfl, hw'⟩; subst w'
    rw [HJ.out]
    go_wp2_with fail
    refine (pwday_any (t + 1) _ (by omega) (by omega)).mono ?_
    rintro e w' ⟨rfl, hw'⟩; subst w'
    rw [HR2.out]
    go_wp2_with fail
    refine (pwday_any t _ (by omega) (by omega)).mono ?_
    rintro e w' ⟨rfl, hw'⟩; subst w'
    rw [HR.out]
    go_wp2_with fail
    refine (pwday_any t _ (by omega) (by omega)).mono ?_
    rintro e w' ⟨rfl, hw'⟩; subst w'
    rw [HR.out]
    go_wp2_with fail
    refine (awake5_any _ (show MT w7 from HT.out.below B7.out) (show Tab w7 from HP.out.below B7.out)).mono ?_
    rintro e w10 ⟨rfl, hb⟩
    have Xa10 := Lib.hid (Xa7.out.below hb Xa7.out.lt)
    have Xb10 := Lib.hid (Xb7.out.below hb Xb7.out.lt)
    have B10 := Lib.hid (B7.out.trans (hb.mono B7.out.size))
    have hz10 := hb.size
    clear hb Xa7 Xb7 B7
    go_wp2_with fail
    go_ret
    exact ⟨rfl, B10.out⟩
  · have g1 : decide (D2 = D) = false := decide_eq_false e1
    have g2 : (D2 == D) = false := by simpa using e1
    have g3 : (D2 != D) = true := by simp [bne, g2]
    obtain ⟨c8_0, c8_1, c8_2, c8_3, c8_4, c8_5, c8_6⟩ := Xa7.out.cells
    obtain ⟨c9_0, c9_1, c9_2, c9_3, c9_4, c9_5, c9_6⟩ := Xb7.out.cells
    go_wp2_with fail
    clear c8_0 c8_1 c8_2 c8_3 c8_4 c8_5 c8_6 c9_0 c9_1 c9_2 c9_3 c9_4 c9_5 c9_6
    refine (pmjd_any (t + 1) _ (by omega) (by omega)).mono ?_
    rintro e w' ⟨rfl, hw'⟩; subst w'
    rw [HJ2.out]
    go_wp2_with fail
    refine (pmjd_any t _ (by omega) (by omega)).mono ?_
    rintro e w' ⟨rfl, hw'⟩; subst w'
    rw [HJ.out]
    go_wp2_with fail
    refine (pwday_any (t + 1) _ (by omega) (by omega)).mono ?_
    rintro e w' ⟨rfl, hw'⟩; subst w'
    rw [HR2.out]
    go_wp2_with fail
    refine (pwday_any t _ (by omega) (by omega)).mono ?_
    rintro e w' ⟨rfl, hw'⟩; subst w'
    rw [HR.out]
    go_wp2_with fail
    refine (pwday_any t _ (by omega) (by omega)).mono ?_
    rintro e w' ⟨rfl, hw'⟩; subst w'
    rw [HR.out]
    go_wp2_with fail
    refine (awake5_any _ (show MT w7 from HT.out.below B7.out) (show Tab w7 from HP.out.below B7.out)).mono ?_
    rintro e w10 ⟨rfl, hb⟩
    have Xa10 := Lib.hid (Xa7.out.below hb Xa7.out.lt)
    have Xb10 := Lib.hid (Xb7.out.below hb Xb7.out.lt)
    have B10 := Lib.hid (B7.out.trans (hb.mono B7.out.size))
    have hz10 := hb.size
    clear hb Xa7 Xb7 B7
    go_wp2_with fail
    go_ret
    exact ⟨rfl, B10.out⟩
end Go.Proofs.YtnhaflnlhcabpaaDoor
