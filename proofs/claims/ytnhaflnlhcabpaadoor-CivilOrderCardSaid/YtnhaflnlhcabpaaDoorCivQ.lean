/- Contracts of layer 5: the program's Parse. -/
import Derived.Test.YtnhaflnlhcabpaaDoorCivP
namespace Go.Proofs.YtnhaflnlhcabpaaDoor
open Go.RowKit Fx Cv Pt

theorem Cv.sbox_new (w : World) (x : ByteArray) : SBox (w.alloc (.cells #[.string x] 9)) w.heap.size x := heap_alloc_new w _
set_option maxRecDepth 100000 in
theorem pparse_no (x : ByteArray) (w : World) (h : formB x = false) :
    Calls Tryd.prog 24 #[.string x] w fun e w' => e = .returned (.tuple #[.agg #[.int .i64 0, .int .i64 0, .int .i64 0, .int .i64 0, .int .i64 0, .int .i64 0, .int .i64 0], .int .i64 19]) ∧ Below w.heap.size w w' := by
  have X0 := Lib.hid (bx7_new w 0 0 0 0 0 0 0)
  have B0 := Lib.hid ((Below.refl w.heap.size w).alloc (Nat.le_refl _) (.cells #[.int .i64 0, .int .i64 0, .int .i64 0, .int .i64 0, .int .i64 0, .int .i64 0, .int .i64 0] 23))
  obtain ⟨W0, hW0⟩ : ∃ W, w.alloc (.cells #[.int .i64 0, .int .i64 0, .int .i64 0, .int .i64 0, .int .i64 0, .int .i64 0, .int .i64 0] 23) = W := ⟨_, rfl⟩
  rw [hW0] at X0 B0
  have HW0 := Lib.hid hW0
  have HF := Lib.hid h
  clear hW0 h
  go_enter Tryd.func24, Tryd.ntmps24
  go_wp2_with fail
  rw [HW0.out]
  refine (hasform_any x _).mono ?_
  rintro e w1 ⟨rfl, n, hw1⟩
  have X1 : Hid (Bx7 w1 w.heap.size 0 0 0 0 0 0 0) := Lib.hid (by rw [hw1]; exact X0.out.drewN n)
  have B1 : Hid (Below w.heap.size w w1) := Lib.hid (by rw [hw1]; exact blwn B0.out n)
  rw [HF.out]
  clear hw1 X0 B0
  have r0 := X1.out.cells.1
  have g0 := X1.out.thaw.1
  have XS0 := Lib.hid (X1.out.set0 0)
  have HB1 := Lib.hid (below_set (C := w.heap.size) (i := 0) B1.out (by omega) (.int .i64 0))
  obtain ⟨S0, hS0⟩ : ∃ W, w1.setCell ⟨w.heap.size, 0, none⟩ (.int .i64 0) = W := ⟨_, rfl⟩
  rw [hS0] at XS0 HB1
  have r1 := XS0.out.cells.2.1
  have g1 := XS0.out.thaw.2.1
  have XS1 := Lib.hid (XS0.out.set1 0)
  have HB2 := Lib.hid (below_set (C := w.heap.size) (i := 1) HB1.out (by omega) (.int .i64 0))
  obtain ⟨S1, hS1⟩ : ∃ W, S0.setCell ⟨w.heap.size, 1, none⟩ (.int .i64 0) = W := ⟨_, rfl⟩
  rw [hS1] at XS1 HB2
  have r2 := XS1.out.cells.2.2.1
  have g2 := XS1.out.thaw.2.2.1
  have XS2 := Lib.hid (XS1.out.set2 0)
  have HB3 := Lib.hid (below_set (C := w.heap.size) (i := 2) HB2.out (by omega) (.int .i64 0))
  obtain ⟨S2, hS2⟩ : ∃ W, S1.setCell ⟨w.heap.size, 2, none⟩ (.int .i64 0) = W := ⟨_, rfl⟩
  rw [hS2] at XS2 HB3
  have r3 := XS2.out.cells.2.2.2.1
  have g3 := XS2.out.thaw.2.2.2.1
  have XS3 := Lib.hid (XS2.out.set3 0)
  have HB4 := Lib.hid (below_set (C := w.heap.size) (i := 3) HB3.out (by omega) (.int .i64 0))
  obtain ⟨S3, hS3⟩ : ∃ W, S2.setCell ⟨w.heap.size, 3, none⟩ (.int .i64 0) = W := ⟨_, rfl⟩
  rw [hS3] at XS3 HB4
  have r4 := XS3.out.cells.2.2.2.2.1
  have g4 := XS3.out.thaw.2.2.2.2.1
  have XS4 := Lib.hid (XS3.out.set4 0)
  have HB5 := Lib.hid (below_set (C := w.heap.size) (i := 4) HB4.out (by omega) (.int .i64 0))
  obtain ⟨S4, hS4⟩ : ∃ W, S3.setCell ⟨w.heap.size, 4, none⟩ (.int .i64 0) = W := ⟨_, rfl⟩
  rw [hS4] at XS4 HB5
  have r5 := XS4.out.cells.2.2.2.2.2.1
  have g5 := XS4.out.thaw.2.2.2.2.2.1
  have XS5 := Lib.hid (XS4.out.set5 0)
  have HB6 := Lib.hid (below_set (C := w.heap.size) (i := 5) HB5.out (by omega) (.int .i64 0))
  obtain ⟨S5, hS5⟩ : ∃ W, S4.setCell ⟨w.heap.size, 5, none⟩ (.int .i64 0) = W := ⟨_, rfl⟩
  rw [hS5] at XS5 HB6
  have r6 := XS5.out.cells.2.2.2.2.2.2
  have g6 := XS5.out.thaw.2.2.2.2.2.2
  have XS6 := Lib.hid (XS5.out.set6 0)
  have HB7 := Lib.hid (below_set (C := w.heap.size) (i := 6) HB6.out (by omega) (.int .i64 0))
  obtain ⟨S6, hS6⟩ : ∃ W, S5.setCell ⟨w.heap.size, 6, none⟩ (.int .i64 0) = W := ⟨_, rfl⟩
  rw [hS6] at XS6 HB7
  obtain ⟨k0, k1, k2, k3, k4, k5, k6⟩ := XS6.out.cells
  go_wp2_with fail
  exact bodyPost_ret (v := .tuple #[.agg #[.int .i64 0, .int .i64 0, .int .i64 0, .int .i64 0, .int .i64 0, .int .i64 0, .int .i64 0], .int .i64 19]) (by simp [results, Tryd.results24, go_sem, k0, k1, k2, k3, k4, k5, k6]) rfl ⟨rfl, HB7.out⟩

set_option maxRecDepth 100000 in
set_option maxHeartbeats 2000000 in
theorem pparse_ok (x : ByteArray) (w : World) (ht : MT w) (h : formB x = true) :
    Calls Tryd.prog 24 #[.string x] w fun e w' => e = .returned (.tuple #[.agg #[.int .i64 (pF x 0 4), .int .i64 (pF x 5 7), .int .i64 (pF x 8 10), .int .i64 (pF x 11 13), .int .i64 (pF x 14 16), .int .i64 (pF x 17 19), .int .i64 (pF x 20 29)], .int .i64 (pE x)]) ∧ Below w.heap.size w w' := by
  have hf := form_iff.1 h
  have HX := Lib.hid hf.1
  have HD := fields_digs hf.1 hf.2
  obtain ⟨q0, _, v0⟩ := HD 0 4 (by decide) (by decide)
  obtain ⟨n0, hn0⟩ : ∃ n : Nat, dval 0 (x.extract 0 4).data.toList = n := ⟨_, rfl⟩
  rw [hn0] at v0
  have HN0 : Hid (Digs (x.extract 0 4).data.toList ∧ dval 0 (x.extract 0 4).data.toList = n0) := Lib.hid ⟨q0, hn0⟩
  have HV0 := Lib.hid v0
  have m0 : n0 < 1000000000 := by
    have a := dval_lt _ q0
    have b := Nat.pow_le_pow_right (show 0 < 10 by decide) (show (x.extract 0 4).data.toList.length ≤ 9 by rw [Array.length_toList]; show (x.extract 0 4).size ≤ 9; rw [ByteArray.size_extract]; omega)
    omega
  clear q0 v0 hn0
  obtain ⟨q1, _, v1⟩ := HD 5 7 (by decide) (by decide)
  obtain ⟨n1, hn1⟩ : ∃ n : Nat, dval 0 (x.extract 5 7).data.toList = n := ⟨_, rfl⟩
  rw [hn1] at v1
  have HN1 : Hid (Digs (x.extract 5 7).data.toList ∧ dval 0 (x.extract 5 7).data.toList = n1) := Lib.hid ⟨q1, hn1⟩
  have HV1 := Lib.hid v1
  have m1 : n1 < 1000000000 := by
    have a := dval_lt _ q1
    have b := Nat.pow_le_pow_right (show 0 < 10 by decide) (show (x.extract 5 7).data.toList.length ≤ 9 by rw [Array.length_toList]; show (x.extract 5 7).size ≤ 9; rw [ByteArray.size_extract]; omega)
    omega
  clear q1 v1 hn1
  obtain ⟨q2, _, v2⟩ := HD 8 10 (by decide) (by decide)
  obtain ⟨n2, hn2⟩ : ∃ n : Nat, dval 0 (x.extract 8 10).data.toList = n := ⟨_, rfl⟩
  rw [hn2] at v2
  have HN2 : Hid (Digs (x.extract 8 10).data.toList ∧ dval 0 (x.extract 8 10).data.toList = n2) := Lib.hid ⟨q2, hn2⟩
  have HV2 := Lib.hid v2
  have m2 : n2 < 1000000000 := by
    have a := dval_lt _ q2
    have b := Nat.pow_le_pow_right (show 0 < 10 by decide) (show (x.extract 8 10).data.toList.length ≤ 9 by rw [Array.length_toList]; show (x.extract 8 10).size ≤ 9; rw [ByteArray.size_extract]; omega)
    omega
  clear q2 v2 hn2
  obtain ⟨q3, _, v3⟩ := HD 11 13 (by decide) (by decide)
  obtain ⟨n3, hn3⟩ : ∃ n : Nat, dval 0 (x.extract 11 13).data.toList = n := ⟨_, rfl⟩
  rw [hn3] at v3
  have HN3 : Hid (Digs (x.extract 11 13).data.toList ∧ dval 0 (x.extract 11 13).data.toList = n3) := Lib.hid ⟨q3, hn3⟩
  have HV3 := Lib.hid v3
  have m3 : n3 < 1000000000 := by
    have a := dval_lt _ q3
    have b := Nat.pow_le_pow_right (show 0 < 10 by decide) (show (x.extract 11 13).data.toList.length ≤ 9 by rw [Array.length_toList]; show (x.extract 11 13).size ≤ 9; rw [ByteArray.size_extract]; omega)
    omega
  clear q3 v3 hn3
  obtain ⟨q4, _, v4⟩ := HD 14 16 (by decide) (by decide)
  obtain ⟨n4, hn4⟩ : ∃ n : Nat, dval 0 (x.extract 14 16).data.toList = n := ⟨_, rfl⟩
  rw [hn4] at v4
  have HN4 : Hid (Digs (x.extract 14 16).data.toList ∧ dval 0 (x.extract 14 16).data.toList = n4) := Lib.hid ⟨q4, hn4⟩
  have HV4 := Lib.hid v4
  have m4 : n4 < 1000000000 := by
    have a := dval_lt _ q4
    have b := Nat.pow_le_pow_right (show 0 < 10 by decide) (show (x.extract 14 16).data.toList.length ≤ 9 by rw [Array.length_toList]; show (x.extract 14 16).size ≤ 9; rw [ByteArray.size_extract]; omega)
    omega
  clear q4 v4 hn4
  obtain ⟨q5, _, v5⟩ := HD 17 19 (by decide) (by decide)
  obtain ⟨n5, hn5⟩ : ∃ n : Nat, dval 0 (x.extract 17 19).data.toList = n := ⟨_, rfl⟩
  rw [hn5] at v5
  have HN5 : Hid (Digs (x.extract 17 19).data.toList ∧ dval 0 (x.extract 17 19).data.toList = n5) := Lib.hid ⟨q5, hn5⟩
  have HV5 := Lib.hid v5
  have m5 : n5 < 1000000000 := by
    have a := dval_lt _ q5
    have b := Nat.pow_le_pow_right (show 0 < 10 by decide) (show (x.extract 17 19).data.toList.length ≤ 9 by rw [Array.length_toList]; show (x.extract 17 19).size ≤ 9; rw [ByteArray.size_extract]; omega)
    omega
  clear q5 v5 hn5
  obtain ⟨q6, _, v6⟩ := HD 20 29 (by decide) (by decide)
  obtain ⟨n6, hn6⟩ : ∃ n : Nat, dval 0 (x.extract 20 29).data.toList = n := ⟨_, rfl⟩
  rw [hn6] at v6
  have HN6 : Hid (Digs (x.extract 20 29).data.toList ∧ dval 0 (x.extract 20 29).data.toList = n6) := Lib.hid ⟨q6, hn6⟩
  have HV6 := Lib.hid v6
  have m6 : n6 < 1000000000 := by
    have a := dval_lt _ q6
    have b := Nat.pow_le_pow_right (show 0 < 10 by decide) (show (x.extract 20 29).data.toList.length ≤ 9 by rw [Array.length_toList]; show (x.extract 20 29).size ≤ 9; rw [ByteArray.size_extract]; omega)
    omega
  clear q6 v6 hn6
  have HPE : Hid (pE x = chkC n0 n1 n2 n3 n4 n5 n6) := Lib.hid (by
    unfold pE
    rw [if_pos h, HV0.out, HV1.out, HV2.out, HV3.out, HV4.out, HV5.out, HV6.out])
  have HF := Lib.hid h
  clear HD hf h
  have X0 := Lib.hid (bx7_new w 0 0 0 0 0 0 0)
  have B0 := Lib.hid ((Below.refl w.heap.size w).alloc (Nat.le_refl _) (.cells #[.int .i64 0, .int .i64 0, .int .i64 0, .int .i64 0, .int .i64 0, .int .i64 0, .int .i64 0] 23))
  obtain ⟨W0, hW0⟩ : ∃ W, w.alloc (.cells #[.int .i64 0, .int .i64 0, .int .i64 0, .int .i64 0, .int .i64 0, .int .i64 0, .int .i64 0] 23) = W := ⟨_, rfl⟩
  rw [hW0] at X0 B0
  have HW0 := Lib.hid hW0
  have HT := Lib.hid ht
  clear hW0 ht
  go_enter Tryd.func24, Tryd.ntmps24
  go_wp2_with fail
  rw [HW0.out]
  refine (hasform_any x _).mono ?_
  rintro e w1 ⟨rfl, n, hw1⟩
  have X1 : Hid (Bx7 w1 w.heap.size 0 0 0 0 0 0 0) := Lib.hid (by rw [hw1]; exact X0.out.drewN n)
  have B1 : Hid (Below w.heap.size w w1) := Lib.hid (by rw [hw1]; exact blwn B0.out n)
  have z1 := X1.out.lt
  have G1 := Lib.hid (sbox_new w1 ⟨#[]⟩)
  have e0 := G1.out.cell
  have e1 := G1.out.thaw
  have X2 := Lib.hid ((X1.out.alloc (.cells #[.string ⟨#[]⟩] 9)).other (C := w1.heap.size) (i := 0) (by omega) (.string x))
  have B2 := Lib.hid (below_set (C := w1.heap.size) (i := 0) (B1.out.alloc (by omega) (.cells #[.string ⟨#[]⟩] 9)) (by omega) (.string x))
  have G2 := Lib.hid (G1.out.set x)
  obtain ⟨U0, hU0⟩ : ∃ W, (w1.alloc (.cells #[.string ⟨#[]⟩] 9)).setCell ⟨w1.heap.size, 0, none⟩ (.string x) = W := ⟨_, rfl⟩
  rw [hU0] at X2 B2 G2
  have z2 := G2.out.lt
  have XR0 := Lib.hid (X2.out.alloc (.cells #[.int .i64 0, .int .i64 0, .int .i64 0, .int .i64 0, .int .i64 0, .int .i64 0, .int .i64 0] 23))
  have BB0 := Lib.hid (B2.out.alloc (by omega) (.cells #[.int .i64 0, .int .i64 0, .int .i64 0, .int .i64 0, .int .i64 0, .int .i64 0, .int .i64 0] 23))
  have G0 : Hid (SBox (U0.alloc (.cells #[.int .i64 0, .int .i64 0, .int .i64 0, .int .i64 0, .int .i64 0, .int .i64 0, .int .i64 0] 23)) w1.heap.size (x.extract 0 30)) := Lib.hid (by
    rw [show x.extract 0 30 = x by rw [← HX.out]; exact ByteArray.extract_zero_size]; exact G2.out.alloc _)
  have XC0 := Lib.hid (bx7_new U0 0 0 0 0 0 0 0)
  obtain ⟨V0, hV0⟩ : ∃ W, U0.alloc (.cells #[.int .i64 0, .int .i64 0, .int .i64 0, .int .i64 0, .int .i64 0, .int .i64 0, .int .i64 0] 23) = W := ⟨_, rfl⟩
  rw [hV0] at XR0 BB0 G0 XC0
  have HV0' := Lib.hid hV0
  rw [HF.out]
  clear hw1 X0 B0 X1 B1 G1 X2 B2 G2 hV0
  go_wp2_with fail
  rw [HV0'.out]
  clear e0 e1 hU0 HV0' HW0
  refine (pnext_any x 0 4 4 n0 w1.heap.size _ HX.out (by decide) (by decide) (by decide) (by decide) G0.out HN0.out.1 HN0.out.2).mono ?_
  rintro e q0 ⟨rfl, p0, hb, hq⟩
  have XRq : Hid (Bx7 q0 w.heap.size 0 0 0 0 0 0 0) := Lib.hid (by rw [hq]; exact (XR0.out.below hb XR0.out.lt).other (by omega) _)
  have XCq := Lib.hid ((XC0.out.below hb XC0.out.lt).other (C := w1.heap.size) (i := 0) (by omega) (.string (x.extract (4 + 1) 30)))
  rw [← hq] at XCq
  have Gq : Hid (SBox q0 w1.heap.size (x.extract (4 + 1) 30)) := Lib.hid (by rw [hq]; exact (G0.out.below hb G0.out.lt).set _)
  have Bq : Hid (Below w.heap.size w q0) := Lib.hid (by rw [hq]; exact below_set (BB0.out.trans (hb.mono BB0.out.size)) (by omega) _)
  have r0 := XCq.out.cells.1
  have g0 := XCq.out.thaw.1
  have XC1 := Lib.hid (XCq.out.set0 n0)
  have G1 := Lib.hid (Gq.out.other (C := U0.heap.size) (i := 0) (by omega) (.int .i64 n0))
  have XR1 := Lib.hid (XRq.out.other (C := U0.heap.size) (i := 0) (by omega) (.int .i64 n0))
  have BB1 := Lib.hid (below_set (C := U0.heap.size) (i := 0) Bq.out (by omega) (.int .i64 n0))
  obtain ⟨V1, hV1⟩ : ∃ W, q0.setCell ⟨U0.heap.size, 0, none⟩ (.int .i64 n0) = W := ⟨_, rfl⟩
  rw [hV1] at XC1 G1 XR1 BB1
  clear hq hb XRq XCq Gq Bq XC0 G0 XR0 BB0
  go_wp2_with fail
  clear hV1 r0 g0
  refine (pnext_any x 5 2 7 n1 w1.heap.size _ HX.out (by decide) (by decide) (by decide) (by decide) G1.out HN1.out.1 HN1.out.2).mono ?_
  rintro e q1 ⟨rfl, p1, hb, hq⟩
  have XRq : Hid (Bx7 q1 w.heap.size 0 0 0 0 0 0 0) := Lib.hid (by rw [hq]; exact (XR1.out.below hb XR1.out.lt).other (by omega) _)
  have XCq := Lib.hid ((XC1.out.below hb XC1.out.lt).other (C := w1.heap.size) (i := 0) (by omega) (.string (x.extract (7 + 1) 30)))
  rw [← hq] at XCq
  have Gq : Hid (SBox q1 w1.heap.size (x.extract (7 + 1) 30)) := Lib.hid (by rw [hq]; exact (G1.out.below hb G1.out.lt).set _)
  have Bq : Hid (Below w.heap.size w q1) := Lib.hid (by rw [hq]; exact below_set (BB1.out.trans (hb.mono BB1.out.size)) (by omega) _)
  have r1 := XCq.out.cells.2.1
  have g1 := XCq.out.thaw.2.1
  have XC2 := Lib.hid (XCq.out.set1 n1)
  have G2 := Lib.hid (Gq.out.other (C := U0.heap.size) (i := 1) (by omega) (.int .i64 n1))
  have XR2 := Lib.hid (XRq.out.other (C := U0.heap.size) (i := 1) (by omega) (.int .i64 n1))
  have BB2 := Lib.hid (below_set (C := U0.heap.size) (i := 1) Bq.out (by omega) (.int .i64 n1))
  obtain ⟨V2, hV2⟩ : ∃ W, q1.setCell ⟨U0.heap.size, 1, none⟩ (.int .i64 n1) = W := ⟨_, rfl⟩
  rw [hV2] at XC2 G2 XR2 BB2
  clear hq hb XRq XCq Gq Bq XC1 G1 XR1 BB1
  go_wp2_with fail
  clear hV2 r1 g1
  refine (pnext_any x 8 2 10 n2 w1.heap.size _ HX.out (by decide) (by decide) (by decide) (by decide) G2.out HN2.out.1 HN2.out.2).mono ?_
  rintro e q2 ⟨rfl, p2, hb, hq⟩
  have XRq : Hid (Bx7 q2 w.heap.size 0 0 0 0 0 0 0) := Lib.hid (by rw [hq]; exact (XR2.out.below hb XR2.out.lt).other (by omega) _)
  have XCq := Lib.hid ((XC2.out.below hb XC2.out.lt).other (C := w1.heap.size) (i := 0) (by omega) (.string (x.extract (10 + 1) 30)))
  rw [← hq] at XCq
  have Gq : Hid (SBox q2 w1.heap.size (x.extract (10 + 1) 30)) := Lib.hid (by rw [hq]; exact (G2.out.below hb G2.out.lt).set _)
  have Bq : Hid (Below w.heap.size w q2) := Lib.hid (by rw [hq]; exact below_set (BB2.out.trans (hb.mono BB2.out.size)) (by omega) _)
  have r2 := XCq.out.cells.2.2.1
  have g2 := XCq.out.thaw.2.2.1
  have XC3 := Lib.hid (XCq.out.set2 n2)
  have G3 := Lib.hid (Gq.out.other (C := U0.heap.size) (i := 2) (by omega) (.int .i64 n2))
  have XR3 := Lib.hid (XRq.out.other (C := U0.heap.size) (i := 2) (by omega) (.int .i64 n2))
  have BB3 := Lib.hid (below_set (C := U0.heap.size) (i := 2) Bq.out (by omega) (.int .i64 n2))
  obtain ⟨V3, hV3⟩ : ∃ W, q2.setCell ⟨U0.heap.size, 2, none⟩ (.int .i64 n2) = W := ⟨_, rfl⟩
  rw [hV3] at XC3 G3 XR3 BB3
  clear hq hb XRq XCq Gq Bq XC2 G2 XR2 BB2
  go_wp2_with fail
  clear hV3 r2 g2
  refine (pnext_any x 11 2 13 n3 w1.heap.size _ HX.out (by decide) (by decide) (by decide) (by decide) G3.out HN3.out.1 HN3.out.2).mono ?_
  rintro e q3 ⟨rfl, p3, hb, hq⟩
  have XRq : Hid (Bx7 q3 w.heap.size 0 0 0 0 0 0 0) := Lib.hid (by rw [hq]; exact (XR3.out.below hb XR3.out.lt).other (by omega) _)
  have XCq := Lib.hid ((XC3.out.below hb XC3.out.lt).other (C := w1.heap.size) (i := 0) (by omega) (.string (x.extract (13 + 1) 30)))
  rw [← hq] at XCq
  have Gq : Hid (SBox q3 w1.heap.size (x.extract (13 + 1) 30)) := Lib.hid (by rw [hq]; exact (G3.out.below hb G3.out.lt).set _)
  have Bq : Hid (Below w.heap.size w q3) := Lib.hid (by rw [hq]; exact below_set (BB3.out.trans (hb.mono BB3.out.size)) (by omega) _)
  have r3 := XCq.out.cells.2.2.2.1
  have g3 := XCq.out.thaw.2.2.2.1
  have XC4 := Lib.hid (XCq.out.set3 n3)
  have G4 := Lib.hid (Gq.out.other (C := U0.heap.size) (i := 3) (by omega) (.int .i64 n3))
  have XR4 := Lib.hid (XRq.out.other (C := U0.heap.size) (i := 3) (by omega) (.int .i64 n3))
  have BB4 := Lib.hid (below_set (C := U0.heap.size) (i := 3) Bq.out (by omega) (.int .i64 n3))
  obtain ⟨V4, hV4⟩ : ∃ W, q3.setCell ⟨U0.heap.size, 3, none⟩ (.int .i64 n3) = W := ⟨_, rfl⟩
  rw [hV4] at XC4 G4 XR4 BB4
  clear hq hb XRq XCq Gq Bq XC3 G3 XR3 BB3
  go_wp2_with fail
  clear hV4 r3 g3
  refine (pnext_any x 14 2 16 n4 w1.heap.size _ HX.out (by decide) (by decide) (by decide) (by decide) G4.out HN4.out.1 HN4.out.2).mono ?_
  rintro e q4 ⟨rfl, p4, hb, hq⟩
  have XRq : Hid (Bx7 q4 w.heap.size 0 0 0 0 0 0 0) := Lib.hid (by rw [hq]; exact (XR4.out.below hb XR4.out.lt).other (by omega) _)
  have XCq := Lib.hid ((XC4.out.below hb XC4.out.lt).other (C := w1.heap.size) (i := 0) (by omega) (.string (x.extract (16 + 1) 30)))
  rw [← hq] at XCq
  have Gq : Hid (SBox q4 w1.heap.size (x.extract (16 + 1) 30)) := Lib.hid (by rw [hq]; exact (G4.out.below hb G4.out.lt).set _)
  have Bq : Hid (Below w.heap.size w q4) := Lib.hid (by rw [hq]; exact below_set (BB4.out.trans (hb.mono BB4.out.size)) (by omega) _)
  have r4 := XCq.out.cells.2.2.2.2.1
  have g4 := XCq.out.thaw.2.2.2.2.1
  have XC5 := Lib.hid (XCq.out.set4 n4)
  have G5 := Lib.hid (Gq.out.other (C := U0.heap.size) (i := 4) (by omega) (.int .i64 n4))
  have XR5 := Lib.hid (XRq.out.other (C := U0.heap.size) (i := 4) (by omega) (.int .i64 n4))
  have BB5 := Lib.hid (below_set (C := U0.heap.size) (i := 4) Bq.out (by omega) (.int .i64 n4))
  obtain ⟨V5, hV5⟩ : ∃ W, q4.setCell ⟨U0.heap.size, 4, none⟩ (.int .i64 n4) = W := ⟨_, rfl⟩
  rw [hV5] at XC5 G5 XR5 BB5
  clear hq hb XRq XCq Gq Bq XC4 G4 XR4 BB4
  go_wp2_with fail
  clear hV5 r4 g4
  refine (pnext_any x 17 2 19 n5 w1.heap.size _ HX.out (by decide) (by decide) (by decide) (by decide) G5.out HN5.out.1 HN5.out.2).mono ?_
  rintro e q5 ⟨rfl, p5, hb, hq⟩
  have XRq : Hid (Bx7 q5 w.heap.size 0 0 0 0 0 0 0) := Lib.hid (by rw [hq]; exact (XR5.out.below hb XR5.out.lt).other (by omega) _)
  have XCq := Lib.hid ((XC5.out.below hb XC5.out.lt).other (C := w1.heap.size) (i := 0) (by omega) (.string (x.extract (19 + 1) 30)))
  rw [← hq] at XCq
  have Gq : Hid (SBox q5 w1.heap.size (x.extract (19 + 1) 30)) := Lib.hid (by rw [hq]; exact (G5.out.below hb G5.out.lt).set _)
  have Bq : Hid (Below w.heap.size w q5) := Lib.hid (by rw [hq]; exact below_set (BB5.out.trans (hb.mono BB5.out.size)) (by omega) _)
  have r5 := XCq.out.cells.2.2.2.2.2.1
  have g5 := XCq.out.thaw.2.2.2.2.2.1
  have XC6 := Lib.hid (XCq.out.set5 n5)
  have G6 := Lib.hid (Gq.out.other (C := U0.heap.size) (i := 5) (by omega) (.int .i64 n5))
  have XR6 := Lib.hid (XRq.out.other (C := U0.heap.size) (i := 5) (by omega) (.int .i64 n5))
  have BB6 := Lib.hid (below_set (C := U0.heap.size) (i := 5) Bq.out (by omega) (.int .i64 n5))
  obtain ⟨V6, hV6⟩ : ∃ W, q5.setCell ⟨U0.heap.size, 5, none⟩ (.int .i64 n5) = W := ⟨_, rfl⟩
  rw [hV6] at XC6 G6 XR6 BB6
  clear hq hb XRq XCq Gq Bq XC5 G5 XR5 BB5
  go_wp2_with fail
  clear hV6 r5 g5
  refine (pnext_any x 20 9 29 n6 w1.heap.size _ HX.out (by decide) (by decide) (by decide) (by decide) G6.out HN6.out.1 HN6.out.2).mono ?_
  rintro e q6 ⟨rfl, p6, hb, hq⟩
  have XRq : Hid (Bx7 q6 w.heap.size 0 0 0 0 0 0 0) := Lib.hid (by rw [hq]; exact (XR6.out.below hb XR6.out.lt).other (by omega) _)
  have XCq := Lib.hid ((XC6.out.below hb XC6.out.lt).other (C := w1.heap.size) (i := 0) (by omega) (.string (x.extract (29 + 1) 30)))
  rw [← hq] at XCq
  have Gq : Hid (SBox q6 w1.heap.size (x.extract (29 + 1) 30)) := Lib.hid (by rw [hq]; exact (G6.out.below hb G6.out.lt).set _)
  have Bq : Hid (Below w.heap.size w q6) := Lib.hid (by rw [hq]; exact below_set (BB6.out.trans (hb.mono BB6.out.size)) (by omega) _)
  have r6 := XCq.out.cells.2.2.2.2.2.2
  have g6 := XCq.out.thaw.2.2.2.2.2.2
  have XC7 := Lib.hid (XCq.out.set6 n6)
  have G7 := Lib.hid (Gq.out.other (C := U0.heap.size) (i := 6) (by omega) (.int .i64 n6))
  have XR7 := Lib.hid (XRq.out.other (C := U0.heap.size) (i := 6) (by omega) (.int .i64 n6))
  have BB7 := Lib.hid (below_set (C := U0.heap.size) (i := 6) Bq.out (by omega) (.int .i64 n6))
  obtain ⟨V7, hV7⟩ : ∃ W, q6.setCell ⟨U0.heap.size, 6, none⟩ (.int .i64 n6) = W := ⟨_, rfl⟩
  rw [hV7] at XC7 G7 XR7 BB7
  clear hq hb XRq XCq Gq Bq XC6 G6 XR6 BB6
  obtain ⟨c0, c1, c2, c3, c4, c5, c6⟩ := XC7.out.cells
  go_wp2_with fail
  clear hV7 r6 g6
  refine (pchk_any n0 n1 n2 n3 n4 n5 n6 _ (HT.out.below BB7.out)).mono ?_
  rintro e wc ⟨rfl, hb⟩
  have XBC := Lib.hid (XC7.out.below hb XC7.out.lt)
  have XAC := Lib.hid (XR7.out.below hb XR7.out.lt)
  have HBC := Lib.hid (BB7.out.trans (hb.mono BB7.out.size))
  clear hb XC7 XR7 BB7 G7 c0 c1 c2 c3 c4 c5 c6
  cases hK : okC n0 n1 n2 n3 n4 n5 n6
  · have HK : Hid (chkC n0 n1 n2 n3 n4 n5 n6 = 3) := Lib.hid (by unfold chkC; rw [hK]; rfl)
    have HE := Lib.hid (HPE.out.trans HK.out)
    clear hK
    rw [HK.out]
    have r0 := XAC.out.cells.1
    have g0 := XAC.out.thaw.1
    have XS0 := Lib.hid (XAC.out.set0 0)
    have HB1 := Lib.hid (below_set (C := w.heap.size) (i := 0) HBC.out (by omega) (.int .i64 0))
    obtain ⟨S0, hS0⟩ : ∃ W, wc.setCell ⟨w.heap.size, 0, none⟩ (.int .i64 0) = W := ⟨_, rfl⟩
    rw [hS0] at XS0 HB1
    have r1 := XS0.out.cells.2.1
    have g1 := XS0.out.thaw.2.1
    have XS1 := Lib.hid (XS0.out.set1 0)
    have HB2 := Lib.hid (below_set (C := w.heap.size) (i := 1) HB1.out (by omega) (.int .i64 0))
    obtain ⟨S1, hS1⟩ : ∃ W, S0.setCell ⟨w.heap.size, 1, none⟩ (.int .i64 0) = W := ⟨_, rfl⟩
    rw [hS1] at XS1 HB2
    have r2 := XS1.out.cells.2.2.1
    have g2 := XS1.out.thaw.2.2.1
    have XS2 := Lib.hid (XS1.out.set2 0)
    have HB3 := Lib.hid (below_set (C := w.heap.size) (i := 2) HB2.out (by omega) (.int .i64 0))
    obtain ⟨S2, hS2⟩ : ∃ W, S1.setCell ⟨w.heap.size, 2, none⟩ (.int .i64 0) = W := ⟨_, rfl⟩
    rw [hS2] at XS2 HB3
    have r3 := XS2.out.cells.2.2.2.1
    have g3 := XS2.out.thaw.2.2.2.1
    have XS3 := Lib.hid (XS2.out.set3 0)
    have HB4 := Lib.hid (below_set (C := w.heap.size) (i := 3) HB3.out (by omega) (.int .i64 0))
    obtain ⟨S3, hS3⟩ : ∃ W, S2.setCell ⟨w.heap.size, 3, none⟩ (.int .i64 0) = W := ⟨_, rfl⟩
    rw [hS3] at XS3 HB4
    have r4 := XS3.out.cells.2.2.2.2.1
    have g4 := XS3.out.thaw.2.2.2.2.1
    have XS4 := Lib.hid (XS3.out.set4 0)
    have HB5 := Lib.hid (below_set (C := w.heap.size) (i := 4) HB4.out (by omega) (.int .i64 0))
    obtain ⟨S4, hS4⟩ : ∃ W, S3.setCell ⟨w.heap.size, 4, none⟩ (.int .i64 0) = W := ⟨_, rfl⟩
    rw [hS4] at XS4 HB5
    have r5 := XS4.out.cells.2.2.2.2.2.1
    have g5 := XS4.out.thaw.2.2.2.2.2.1
    have XS5 := Lib.hid (XS4.out.set5 0)
    have HB6 := Lib.hid (below_set (C := w.heap.size) (i := 5) HB5.out (by omega) (.int .i64 0))
    obtain ⟨S5, hS5⟩ : ∃ W, S4.setCell ⟨w.heap.size, 5, none⟩ (.int .i64 0) = W := ⟨_, rfl⟩
    rw [hS5] at XS5 HB6
    have r6 := XS5.out.cells.2.2.2.2.2.2
    have g6 := XS5.out.thaw.2.2.2.2.2.2
    have XS6 := Lib.hid (XS5.out.set6 0)
    have HB7 := Lib.hid (below_set (C := w.heap.size) (i := 6) HB6.out (by omega) (.int .i64 0))
    obtain ⟨S6, hS6⟩ : ∃ W, S5.setCell ⟨w.heap.size, 6, none⟩ (.int .i64 0) = W := ⟨_, rfl⟩
    rw [hS6] at XS6 HB7
    obtain ⟨k0, k1, k2, k3, k4, k5, k6⟩ := XS6.out.cells
    go_wp2_with fail
    exact bodyPost_ret (v := .tuple #[.agg #[.int .i64 0, .int .i64 0, .int .i64 0, .int .i64 0, .int .i64 0, .int .i64 0, .int .i64 0], .int .i64 3]) (by simp [results, Tryd.results24, go_sem, k0, k1, k2, k3, k4, k5, k6]) rfl ⟨p_end HE.out (by decide), HB7.out⟩
  · have HK := Lib.hid (chk_ok hK)
    have HE := Lib.hid (HPE.out.trans HK.out)
    clear hK
    rw [HK.out]
    obtain ⟨b0, b1, b2, b3, b4, b5, b6⟩ := XBC.out.cells
    have r0 := XAC.out.cells.1
    have g0 := XAC.out.thaw.1
    have XS0 := Lib.hid (XAC.out.set0 n0)
    have HB1 := Lib.hid (below_set (C := w.heap.size) (i := 0) HBC.out (by omega) (.int .i64 n0))
    obtain ⟨S0, hS0⟩ : ∃ W, wc.setCell ⟨w.heap.size, 0, none⟩ (.int .i64 n0) = W := ⟨_, rfl⟩
    rw [hS0] at XS0 HB1
    have r1 := XS0.out.cells.2.1
    have g1 := XS0.out.thaw.2.1
    have XS1 := Lib.hid (XS0.out.set1 n1)
    have HB2 := Lib.hid (below_set (C := w.heap.size) (i := 1) HB1.out (by omega) (.int .i64 n1))
    obtain ⟨S1, hS1⟩ : ∃ W, S0.setCell ⟨w.heap.size, 1, none⟩ (.int .i64 n1) = W := ⟨_, rfl⟩
    rw [hS1] at XS1 HB2
    have r2 := XS1.out.cells.2.2.1
    have g2 := XS1.out.thaw.2.2.1
    have XS2 := Lib.hid (XS1.out.set2 n2)
    have HB3 := Lib.hid (below_set (C := w.heap.size) (i := 2) HB2.out (by omega) (.int .i64 n2))
    obtain ⟨S2, hS2⟩ : ∃ W, S1.setCell ⟨w.heap.size, 2, none⟩ (.int .i64 n2) = W := ⟨_, rfl⟩
    rw [hS2] at XS2 HB3
    have r3 := XS2.out.cells.2.2.2.1
    have g3 := XS2.out.thaw.2.2.2.1
    have XS3 := Lib.hid (XS2.out.set3 n3)
    have HB4 := Lib.hid (below_set (C := w.heap.size) (i := 3) HB3.out (by omega) (.int .i64 n3))
    obtain ⟨S3, hS3⟩ : ∃ W, S2.setCell ⟨w.heap.size, 3, none⟩ (.int .i64 n3) = W := ⟨_, rfl⟩
    rw [hS3] at XS3 HB4
    have r4 := XS3.out.cells.2.2.2.2.1
    have g4 := XS3.out.thaw.2.2.2.2.1
    have XS4 := Lib.hid (XS3.out.set4 n4)
    have HB5 := Lib.hid (below_set (C := w.heap.size) (i := 4) HB4.out (by omega) (.int .i64 n4))
    obtain ⟨S4, hS4⟩ : ∃ W, S3.setCell ⟨w.heap.size, 4, none⟩ (.int .i64 n4) = W := ⟨_, rfl⟩
    rw [hS4] at XS4 HB5
    have r5 := XS4.out.cells.2.2.2.2.2.1
    have g5 := XS4.out.thaw.2.2.2.2.2.1
    have XS5 := Lib.hid (XS4.out.set5 n5)
    have HB6 := Lib.hid (below_set (C := w.heap.size) (i := 5) HB5.out (by omega) (.int .i64 n5))
    obtain ⟨S5, hS5⟩ : ∃ W, S4.setCell ⟨w.heap.size, 5, none⟩ (.int .i64 n5) = W := ⟨_, rfl⟩
    rw [hS5] at XS5 HB6
    have r6 := XS5.out.cells.2.2.2.2.2.2
    have g6 := XS5.out.thaw.2.2.2.2.2.2
    have XS6 := Lib.hid (XS5.out.set6 n6)
    have HB7 := Lib.hid (below_set (C := w.heap.size) (i := 6) HB6.out (by omega) (.int .i64 n6))
    obtain ⟨S6, hS6⟩ : ∃ W, S5.setCell ⟨w.heap.size, 6, none⟩ (.int .i64 n6) = W := ⟨_, rfl⟩
    rw [hS6] at XS6 HB7
    obtain ⟨k0, k1, k2, k3, k4, k5, k6⟩ := XS6.out.cells
    go_wp2_with fail
    exact bodyPost_ret (v := .tuple #[.agg #[.int .i64 n0, .int .i64 n1, .int .i64 n2, .int .i64 n3, .int .i64 n4, .int .i64 n5, .int .i64 n6], .int .i64 0]) (by simp [results, Tryd.results24, go_sem, k0, k1, k2, k3, k4, k5, k6]) rfl ⟨by rw [HV0.out, HV1.out, HV2.out, HV3.out, HV4.out, HV5.out, HV6.out]; exact p_ok HE.out, HB7.out⟩
theorem pparse_any (x : ByteArray) (w : World) (ht : MT w) :
    Calls Tryd.prog 24 #[.string x] w fun e w' => e = .returned (.tuple #[.agg #[.int .i64 (pF x 0 4), .int .i64 (pF x 5 7), .int .i64 (pF x 8 10), .int .i64 (pF x 11 13), .int .i64 (pF x 14 16), .int .i64 (pF x 17 19), .int .i64 (pF x 20 29)], .int .i64 (pE x)]) ∧ Below w.heap.size w w' := by
  cases h : formB x
  · have he : pE x = 19 := if_neg (by rw [h]; decide)
    exact (pparse_no x w h).mono fun e w' k => ⟨k.1.trans (p_end he (by decide)), k.2⟩
  · exact pparse_ok x w ht h
end Go.Proofs.YtnhaflnlhcabpaaDoor
