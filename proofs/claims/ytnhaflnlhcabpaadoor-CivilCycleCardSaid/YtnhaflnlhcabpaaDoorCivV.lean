/- Layer 5: CivilRoundTrip. -/
import Derived.Test.YtnhaflnlhcabpaaDoorCivU
namespace Go.Proofs.YtnhaflnlhcabpaaDoor
open Go.RowKit Fx Cv Pt

theorem of_in (t : Int) (w : World) (ht : MT w) (h : inS t = true) :
    Calls Tryd.prog 16 #[.int .i64 t] w fun e w' => e = .returned (.tuple #[.agg #[.int .i64 (oY t), .int .i64 (oM t), .int .i64 (oD t), .int .i64 (oH t), .int .i64 (oI t), .int .i64 (oS t), .int .i64 0], .int .i64 0]) ∧ Below w.heap.size w w' := pof_ok t w ht h
theorem sec_in (y m d hh mi s n : Int) (w : World) (ht : MT w) (h : okC y m d hh mi s n = true) (h2 : inS (secN y m d hh mi s) = true) :
    Calls Tryd.prog 11 #[.agg #[.int .i64 y, .int .i64 m, .int .i64 d, .int .i64 hh, .int .i64 mi, .int .i64 s, .int .i64 n]] w fun e w' => e = .returned (.tuple #[.int .i64 (secN y m d hh mi s), .int .i64 0]) ∧ Below w.heap.size w w' :=
  (psec_any y m d hh mi s n w ht).mono fun e w' k => ⟨k.1.trans (by rw [(sec_yes h h2).1, (sec_yes h h2).2]), k.2⟩
theorem sec_out (y m d hh mi s n : Int) (w : World) (ht : MT w) (h : ¬ (okC y m d hh mi s n = true ∧ inS (secN y m d hh mi s) = true)) :
    Calls Tryd.prog 11 #[.agg #[.int .i64 y, .int .i64 m, .int .i64 d, .int .i64 hh, .int .i64 mi, .int .i64 s, .int .i64 n]] w fun e w' => e = .returned (.tuple #[.int .i64 0, .int .i64 3]) ∧ Below w.heap.size w w' :=
  (psec_any y m d hh mi s n w ht).mono fun e w' k => ⟨k.1.trans (by rw [(sec_no h).1, (sec_no h).2]), k.2⟩

set_option maxRecDepth 100000 in
set_option maxHeartbeats 4000000 in
theorem round_law (t y m d hh mi s n : Int) (w : World) (ht : MT w) (hp : Tab w) (t0 : -9223372036854775808 ≤ t) (t1 : t ≤ 9223372036854775807) :
    Calls Tryd.prog 7 #[.int .i64 t, .agg #[.int .i64 y, .int .i64 m, .int .i64 d, .int .i64 hh, .int .i64 mi, .int .i64 s, .int .i64 n]] w fun e w' => e = .returned (.bool true) ∧ Below w.heap.size w w' := by
  have HT := Lib.hid ht
  have HP := Lib.hid hp
  have BB0 := Lib.hid ((Below.refl w.heap.size w).alloc (Nat.le_refl _) (.cells #[.int .i64 y, .int .i64 m, .int .i64 d, .int .i64 hh, .int .i64 mi, .int .i64 s, .int .i64 n] 23))
  have X0 := Lib.hid (bx7_new w y m d hh mi s n)
  obtain ⟨W0, hW0⟩ : ∃ W, w.alloc (.cells #[.int .i64 y, .int .i64 m, .int .i64 d, .int .i64 hh, .int .i64 mi, .int .i64 s, .int .i64 n] 23) = W := ⟨_, rfl⟩
  rw [hW0] at BB0 X0
  have HW0 := Lib.hid hW0
  clear ht hp hW0
  by_cases hin : -8000000000 ≤ t ∧ t ≤ 8000000000
  · have HI := Lib.hid (inS_iff.2 hin)
    have HS := Lib.hid (sec_of_of t)
    have HK := Lib.hid (of_ok (inS_iff.2 hin))
    have HC := Lib.hid (chk_ok (of_ok (inS_iff.2 hin)))
    obtain ⟨i0, i1⟩ := hin
    have d1 : decide (t < -8000000000) = false := decide_eq_false (by omega)
    have d2 : decide (8000000000 < t) = false := decide_eq_false (by omega)
    obtain ⟨Y, hY⟩ : ∃ z, oY t = z := ⟨_, rfl⟩
    obtain ⟨M, hM⟩ : ∃ z, oM t = z := ⟨_, rfl⟩
    obtain ⟨D, hD⟩ : ∃ z, oD t = z := ⟨_, rfl⟩
    obtain ⟨H, hH⟩ : ∃ z, oH t = z := ⟨_, rfl⟩
    obtain ⟨I, hI⟩ : ∃ z, oI t = z := ⟨_, rfl⟩
    obtain ⟨S, hS⟩ : ∃ z, oS t = z := ⟨_, rfl⟩
    have HO1 : Hid (∀ u : World, MT u → Calls Tryd.prog 16 #[.int .i64 t] u fun e w' => e = .returned (.tuple #[.agg #[.int .i64 Y, .int .i64 M, .int .i64 D, .int .i64 H, .int .i64 I, .int .i64 S, .int .i64 0], .int .i64 0]) ∧ Below u.heap.size u w') := Lib.hid (fun u hu => by
      have h := of_in t u hu HI.out
      rw [hY, hM, hD, hH, hI, hS] at h; exact h)
    rw [hY, hM, hD, hH, hI, hS] at HS HK HC
    clear hY hM hD hH hI hS
    go_enter Tryd.func7, Tryd.ntmps7
    go_wp2_with fail
    rw [HW0.out]
    refine (HO1.out _ (show MT W0 from HT.out.below BB0.out)).mono ?_
    rintro e w1 ⟨rfl, hb⟩
    have Xc1 := Lib.hid (X0.out.below hb X0.out.lt)
    have B1 := Lib.hid (BB0.out.trans (hb.mono BB0.out.size))
    have hz1 := hb.size
    clear hb X0 BB0
    have Yd2 := Lib.hid (bx7_new w1 0 0 0 0 0 0 0)
    have lc2 := Xc1.out.lt
    have Yc2 := Lib.hid (Xc1.out.alloc (.cells #[.int .i64 0, .int .i64 0, .int .i64 0, .int .i64 0, .int .i64 0, .int .i64 0, .int .i64 0] 23))
    have D2 := Lib.hid (B1.out.alloc B1.out.size (.cells #[.int .i64 0, .int .i64 0, .int .i64 0, .int .i64 0, .int .i64 0, .int .i64 0, .int .i64 0] 23))
    have hs2 := B1.out.size
    have r2_0 := Yd2.out.cells.1
    have g2_0 := Yd2.out.thaw.1
    have Nd2_0 := Lib.hid (Yd2.out.set0 Y)
    have Nc2_0 := Lib.hid (Yc2.out.other (C := w1.heap.size) (i := 0) (by omega) (.int .i64 Y))
    have E2_0 := Lib.hid (below_set (C := w1.heap.size) (i := 0) D2.out (by omega) (.int .i64 Y))
    obtain ⟨S2_0, hS2_0⟩ : ∃ W, (w1.alloc (.cells #[.int .i64 0, .int .i64 0, .int .i64 0, .int .i64 0, .int .i64 0, .int .i64 0, .int .i64 0] 23)).setCell ⟨w1.heap.size, 0, none⟩ (.int .i64 Y) = W := ⟨_, rfl⟩
    rw [hS2_0] at Nd2_0 Nc2_0 E2_0
    clear Yd2 Yc2 D2
    have r2_1 := Nd2_0.out.cells.2.1
    have g2_1 := Nd2_0.out.thaw.2.1
    have Nd2_1 := Lib.hid (Nd2_0.out.set1 M)
    have Nc2_1 := Lib.hid (Nc2_0.out.other (C := w1.heap.size) (i := 1) (by omega) (.int .i64 M))
    have E2_1 := Lib.hid (below_set (C := w1.heap.size) (i := 1) E2_0.out (by omega) (.int .i64 M))
    obtain ⟨S2_1, hS2_1⟩ : ∃ W, S2_0.setCell ⟨w1.heap.size, 1, none⟩ (.int .i64 M) = W := ⟨_, rfl⟩
    rw [hS2_1] at Nd2_1 Nc2_1 E2_1
    clear Nd2_0 Nc2_0 E2_0
    have r2_2 := Nd2_1.out.cells.2.2.1
    have g2_2 := Nd2_1.out.thaw.2.2.1
    have Nd2_2 := Lib.hid (Nd2_1.out.set2 D)
    have Nc2_2 := Lib.hid (Nc2_1.out.other (C := w1.heap.size) (i := 2) (by omega) (.int .i64 D))
    have E2_2 := Lib.hid (below_set (C := w1.heap.size) (i := 2) E2_1.out (by omega) (.int .i64 D))
    obtain ⟨S2_2, hS2_2⟩ : ∃ W, S2_1.setCell ⟨w1.heap.size, 2, none⟩ (.int .i64 D) = W := ⟨_, rfl⟩
    rw [hS2_2] at Nd2_2 Nc2_2 E2_2
    clear Nd2_1 Nc2_1 E2_1
    have r2_3 := Nd2_2.out.cells.2.2.2.1
    have g2_3 := Nd2_2.out.thaw.2.2.2.1
    have Nd2_3 := Lib.hid (Nd2_2.out.set3 H)
    have Nc2_3 := Lib.hid (Nc2_2.out.other (C := w1.heap.size) (i := 3) (by omega) (.int .i64 H))
    have E2_3 := Lib.hid (below_set (C := w1.heap.size) (i := 3) E2_2.out (by omega) (.int .i64 H))
    obtain ⟨S2_3, hS2_3⟩ : ∃ W, S2_2.setCell ⟨w1.heap.size, 3, none⟩ (.int .i64 H) = W := ⟨_, rfl⟩
    rw [hS2_3] at Nd2_3 Nc2_3 E2_3
    clear Nd2_2 Nc2_2 E2_2
    have r2_4 := Nd2_3.out.cells.2.2.2.2.1
    have g2_4 := Nd2_3.out.thaw.2.2.2.2.1
    have Nd2_4 := Lib.hid (Nd2_3.out.set4 I)
    have Nc2_4 := Lib.hid (Nc2_3.out.other (C := w1.heap.size) (i := 4) (by omega) (.int .i64 I))
    have E2_4 := Lib.hid (below_set (C := w1.heap.size) (i := 4) E2_3.out (by omega) (.int .i64 I))
    obtain ⟨S2_4, hS2_4⟩ : ∃ W, S2_3.setCell ⟨w1.heap.size, 4, none⟩ (.int .i64 I) = W := ⟨_, rfl⟩
    rw [hS2_4] at Nd2_4 Nc2_4 E2_4
    clear Nd2_3 Nc2_3 E2_3
    have r2_5 := Nd2_4.out.cells.2.2.2.2.2.1
    have g2_5 := Nd2_4.out.thaw.2.2.2.2.2.1
    have Nd2_5 := Lib.hid (Nd2_4.out.set5 S)
    have Nc2_5 := Lib.hid (Nc2_4.out.other (C := w1.heap.size) (i := 5) (by omega) (.int .i64 S))
    have E2_5 := Lib.hid (below_set (C := w1.heap.size) (i := 5) E2_4.out (by omega) (.int .i64 S))
    obtain ⟨S2_5, hS2_5⟩ : ∃ W, S2_4.setCell ⟨w1.heap.size, 5, none⟩ (.int .i64 S) = W := ⟨_, rfl⟩
    rw [hS2_5] at Nd2_5 Nc2_5 E2_5
    clear Nd2_4 Nc2_4 E2_4
    have r2_6 := Nd2_5.out.cells.2.2.2.2.2.2
    have g2_6 := Nd2_5.out.thaw.2.2.2.2.2.2
    have Nd2_6 := Lib.hid (Nd2_5.out.set6 0)
    have Nc2_6 := Lib.hid (Nc2_5.out.other (C := w1.heap.size) (i := 6) (by omega) (.int .i64 0))
    have E2_6 := Lib.hid (below_set (C := w1.heap.size) (i := 6) E2_5.out (by omega) (.int .i64 0))
    obtain ⟨S2_6, hS2_6⟩ : ∃ W, S2_5.setCell ⟨w1.heap.size, 6, none⟩ (.int .i64 0) = W := ⟨_, rfl⟩
    rw [hS2_6] at Nd2_6 Nc2_6 E2_6
    clear Nd2_5 Nc2_5 E2_5
    clear Xc1 B1
    obtain ⟨c3_0, c3_1, c3_2, c3_3, c3_4, c3_5, c3_6⟩ := Nd2_6.out.cells
    go_wp2_with fail
    clear hs2 r2_0 g2_0 hS2_0 r2_1 g2_1 hS2_1 r2_2 g2_2 hS2_2 r2_3 g2_3 hS2_3 r2_4 g2_4 hS2_4 r2_5 g2_5 hS2_5 r2_6 g2_6 hS2_6 c3_0 c3_1 c3_2 c3_3 c3_4 c3_5 c3_6
    refine (sec_in Y M D H I S 0 _ (show MT S2_6 from HT.out.below E2_6.out) HK.out (by rw [HS.out]; exact HI.out)).mono ?_
    rintro e w4 ⟨rfl, hb⟩
    have Xc4 := Lib.hid (Nc2_6.out.below hb Nc2_6.out.lt)
    have Xd4 := Lib.hid (Nd2_6.out.below hb Nd2_6.out.lt)
    have B4 := Lib.hid (E2_6.out.trans (hb.mono E2_6.out.size))
    have hz4 := hb.size
    clear hb Nc2_6 Nd2_6 E2_6
    rw [HS.out]
    obtain ⟨c5_0, c5_1, c5_2, c5_3, c5_4, c5_5, c5_6⟩ := Xd4.out.cells
    go_wp2_with fail
    clear c5_0 c5_1 c5_2 c5_3 c5_4 c5_5 c5_6
    refine (pchk_any Y M D H I S 0 _ (show MT w4 from HT.out.below B4.out)).mono ?_
    rintro e w6 ⟨rfl, hb⟩
    have Xc6 := Lib.hid (Xc4.out.below hb Xc4.out.lt)
    have Xd6 := Lib.hid (Xd4.out.below hb Xd4.out.lt)
    have B6 := Lib.hid (B4.out.trans (hb.mono B4.out.size))
    have hz6 := hb.size
    clear hb Xc4 Xd4 B4
    rw [HC.out]
    obtain ⟨c7_0, c7_1, c7_2, c7_3, c7_4, c7_5, c7_6⟩ := Xc6.out.cells
    go_wp2_with fail
    by_cases hc : okC y m d hh mi s n = true ∧ inS (secN y m d hh mi s) = true
    · have HO := Lib.hid hc
      obtain ⟨c0, c1, c2, c3, c4, c5, c6, c7, c8, c9, c10, c11, c12, c13⟩ := okC_iff.1 hc.1
      have hof := of_sec (y := y) (m := m) (d := d) (hh := hh) (mi := mi) (s := s) ⟨c2, c3, c4, c5⟩ c6 c7 c8 c9 c10 c11 rfl
      obtain ⟨N, hN⟩ : ∃ N, secN y m d hh mi s = N := ⟨_, rfl⟩
      have HN := Lib.hid hN
      rw [hN] at hof
      have HF := Lib.hid hof
      clear hc hN hof c0 c1 c2 c3 c4 c5 c6 c7 c8 c9 c10 c11 c12 c13
      refine (sec_in y m d hh mi s n _ (show MT w6 from HT.out.below B6.out) HO.out.1 HO.out.2).mono ?_
      rintro e w8 ⟨rfl, hb⟩
      have Xc8 := Lib.hid (Xc6.out.below hb Xc6.out.lt)
      have Xd8 := Lib.hid (Xd6.out.below hb Xd6.out.lt)
      have B8 := Lib.hid (B6.out.trans (hb.mono B6.out.size))
      have hz8 := hb.size
      clear hb Xc6 Xd6 B6
      rw [HN.out]
      go_wp2_with fail
      clear c7_0 c7_1 c7_2 c7_3 c7_4 c7_5 c7_6
      refine (of_in N _ (show MT w8 from HT.out.below B8.out) (by rw [← HN.out]; exact HO.out.2)).mono ?_
      rintro e w9 ⟨rfl, hb⟩
      have Xc9 := Lib.hid (Xc8.out.below hb Xc8.out.lt)
      have Xd9 := Lib.hid (Xd8.out.below hb Xd8.out.lt)
      have B9 := Lib.hid (B8.out.trans (hb.mono B8.out.size))
      have hz9 := hb.size
      clear hb Xc8 Xd8 B8
      rw [HF.out.1, HF.out.2.1, HF.out.2.2.1, HF.out.2.2.2.1, HF.out.2.2.2.2.1, HF.out.2.2.2.2.2]
      have Yx10 := Lib.hid (bx7_new w9 0 0 0 0 0 0 0)
      have lc10 := Xc9.out.lt
      have Yc10 := Lib.hid (Xc9.out.alloc (.cells #[.int .i64 0, .int .i64 0, .int .i64 0, .int .i64 0, .int .i64 0, .int .i64 0, .int .i64 0] 23))
      have ld10 := Xd9.out.lt
      have Yd10 := Lib.hid (Xd9.out.alloc (.cells #[.int .i64 0, .int .i64 0, .int .i64 0, .int .i64 0, .int .i64 0, .int .i64 0, .int .i64 0] 23))
      have D10 := Lib.hid (B9.out.alloc B9.out.size (.cells #[.int .i64 0, .int .i64 0, .int .i64 0, .int .i64 0, .int .i64 0, .int .i64 0, .int .i64 0] 23))
      have hs10 := B9.out.size
      have r10_0 := Yx10.out.cells.1
      have g10_0 := Yx10.out.thaw.1
      have Nx10_0 := Lib.hid (Yx10.out.set0 y)
      have Nc10_0 := Lib.hid (Yc10.out.other (C := w9.heap.size) (i := 0) (by omega) (.int .i64 y))
      have Nd10_0 := Lib.hid (Yd10.out.other (C := w9.heap.size) (i := 0) (by omega) (.int .i64 y))
      have E10_0 := Lib.hid (below_set (C := w9.heap.size) (i := 0) D10.out (by omega) (.int .i64 y))
      obtain ⟨S10_0, hS10_0⟩ : ∃ W, (w9.alloc (.cells #[.int .i64 0, .int .i64 0, .int .i64 0, .int .i64 0, .int .i64 0, .int .i64 0, .int .i64 0] 23)).setCell ⟨w9.heap.size, 0, none⟩ (.int .i64 y) = W := ⟨_, rfl⟩
      rw [hS10_0] at Nx10_0 Nc10_0 Nd10_0 E10_0
      clear Yx10 Yc10 Yd10 D10
      have r10_1 := Nx10_0.out.cells.2.1
      have g10_1 := Nx10_0.out.thaw.2.1
      have Nx10_1 := Lib.hid (Nx10_0.out.set1 m)
      have Nc10_1 := Lib.hid (Nc10_0.out.other (C := w9.heap.size) (i := 1) (by omega) (.int .i64 m))
      have Nd10_1 := Lib.hid (Nd10_0.out.other (C := w9.heap.size) (i := 1) (by omega) (.int .i64 m))
      have E10_1 := Lib.hid (below_set (C := w9.heap.size) (i := 1) E10_0.out (by omega) (.int .i64 m))
      obtain ⟨S10_1, hS10_1⟩ : ∃ W, S10_0.setCell ⟨w9.heap.size, 1, none⟩ (.int .i64 m) = W := ⟨_, rfl⟩
      rw [hS10_1] at Nx10_1 Nc10_1 Nd10_1 E10_1
      clear Nx10_0 Nc10_0 Nd10_0 E10_0
      have r10_2 := Nx10_1.out.cells.2.2.1
      have g10_2 := Nx10_1.out.thaw.2.2.1
      have Nx10_2 := Lib.hid (Nx10_1.out.set2 d)
      have Nc10_2 := Lib.hid (Nc10_1.out.other (C := w9.heap.size) (i := 2) (by omega) (.int .i64 d))
      have Nd10_2 := Lib.hid (Nd10_1.out.other (C := w9.heap.size) (i := 2) (by omega) (.int .i64 d))
      have E10_2 := Lib.hid (below_set (C := w9.heap.size) (i := 2) E10_1.out (by omega) (.int .i64 d))
      obtain ⟨S10_2, hS10_2⟩ : ∃ W, S10_1.setCell ⟨w9.heap.size, 2, none⟩ (.int .i64 d) = W := ⟨_, rfl⟩
      rw [hS10_2] at Nx10_2 Nc10_2 Nd10_2 E10_2
      clear Nx10_1 Nc10_1 Nd10_1 E10_1
      have r10_3 := Nx10_2.out.cells.2.2.2.1
      have g10_3 := Nx10_2.out.thaw.2.2.2.1
      have Nx10_3 := Lib.hid (Nx10_2.out.set3 hh)
      have Nc10_3 := Lib.hid (Nc10_2.out.other (C := w9.heap.size) (i := 3) (by omega) (.int .i64 hh))
      have Nd10_3 := Lib.hid (Nd10_2.out.other (C := w9.heap.size) (i := 3) (by omega) (.int .i64 hh))
      have E10_3 := Lib.hid (below_set (C := w9.heap.size) (i := 3) E10_2.out (by omega) (.int .i64 hh))
      obtain ⟨S10_3, hS10_3⟩ : ∃ W, S10_2.setCell ⟨w9.heap.size, 3, none⟩ (.int .i64 hh) = W := ⟨_, rfl⟩
      rw [hS10_3] at Nx10_3 Nc10_3 Nd10_3 E10_3
      clear Nx10_2 Nc10_2 Nd10_2 E10_2
      have r10_4 := Nx10_3.out.cells.2.2.2.2.1
      have g10_4 := Nx10_3.out.thaw.2.2.2.2.1
      have Nx10_4 := Lib.hid (Nx10_3.out.set4 mi)
      have Nc10_4 := Lib.hid (Nc10_3.out.other (C := w9.heap.size) (i := 4) (by omega) (.int .i64 mi))
      have Nd10_4 := Lib.hid (Nd10_3.out.other (C := w9.heap.size) (i := 4) (by omega) (.int .i64 mi))
      have E10_4 := Lib.hid (below_set (C := w9.heap.size) (i := 4) E10_3.out (by omega) (.int .i64 mi))
      obtain ⟨S10_4, hS10_4⟩ : ∃ W, S10_3.setCell ⟨w9.heap.size, 4, none⟩ (.int .i64 mi) = W := ⟨_, rfl⟩
      rw [hS10_4] at Nx10_4 Nc10_4 Nd10_4 E10_4
      clear Nx10_3 Nc10_3 Nd10_3 E10_3
      have r10_5 := Nx10_4.out.cells.2.2.2.2.2.1
      have g10_5 := Nx10_4.out.thaw.2.2.2.2.2.1
      have Nx10_5 := Lib.hid (Nx10_4.out.set5 s)
      have Nc10_5 := Lib.hid (Nc10_4.out.other (C := w9.heap.size) (i := 5) (by omega) (.int .i64 s))
      have Nd10_5 := Lib.hid (Nd10_4.out.other (C := w9.heap.size) (i := 5) (by omega) (.int .i64 s))
      have E10_5 := Lib.hid (below_set (C := w9.heap.size) (i := 5) E10_4.out (by omega) (.int .i64 s))
      obtain ⟨S10_5, hS10_5⟩ : ∃ W, S10_4.setCell ⟨w9.heap.size, 5, none⟩ (.int .i64 s) = W := ⟨_, rfl⟩
      rw [hS10_5] at Nx10_5 Nc10_5 Nd10_5 E10_5
      clear Nx10_4 Nc10_4 Nd10_4 E10_4
      have r10_6 := Nx10_5.out.cells.2.2.2.2.2.2
      have g10_6 := Nx10_5.out.thaw.2.2.2.2.2.2
      have Nx10_6 := Lib.hid (Nx10_5.out.set6 0)
      have Nc10_6 := Lib.hid (Nc10_5.out.other (C := w9.heap.size) (i := 6) (by omega) (.int .i64 0))
      have Nd10_6 := Lib.hid (Nd10_5.out.other (C := w9.heap.size) (i := 6) (by omega) (.int .i64 0))
      have E10_6 := Lib.hid (below_set (C := w9.heap.size) (i := 6) E10_5.out (by omega) (.int .i64 0))
      obtain ⟨S10_6, hS10_6⟩ : ∃ W, S10_5.setCell ⟨w9.heap.size, 6, none⟩ (.int .i64 0) = W := ⟨_, rfl⟩
      rw [hS10_6] at Nx10_6 Nc10_6 Nd10_6 E10_6
      clear Nx10_5 Nc10_5 Nd10_5 E10_5
      clear Xc9 Xd9 B9
      have r11 := Nc10_6.out.cells.2.2.2.2.2.2
      have g11 := Nc10_6.out.thaw.2.2.2.2.2.2
      have Nc11 := Lib.hid (Nc10_6.out.set6 0)
      have Nd11 := Lib.hid (Nd10_6.out.other (C := w.heap.size) (i := 6) (by omega) (.int .i64 0))
      have Nx11 := Lib.hid (Nx10_6.out.other (C := w.heap.size) (i := 6) (by omega) (.int .i64 0))
      have E11 := Lib.hid (below_set (C := w.heap.size) (i := 6) E10_6.out (by omega) (.int .i64 0))
      obtain ⟨S11, hS11⟩ : ∃ W, S10_6.setCell ⟨w.heap.size, 6, none⟩ (.int .i64 0) = W := ⟨_, rfl⟩
      rw [hS11] at Nc11 Nd11 Nx11 E11
      clear Nc10_6 Nd10_6 Nx10_6 E10_6
      obtain ⟨c12_0, c12_1, c12_2, c12_3, c12_4, c12_5, c12_6⟩ := Nc11.out.cells
      obtain ⟨c13_0, c13_1, c13_2, c13_3, c13_4, c13_5, c13_6⟩ := Nx11.out.cells
      go_wp2_with fail
      clear hs10 r10_0 g10_0 hS10_0 r10_1 g10_1 hS10_1 r10_2 g10_2 hS10_2 r10_3 g10_3 hS10_3 r10_4 g10_4 hS10_4 r10_5 g10_5 hS10_5 r10_6 g10_6 hS10_6 r11 g11 hS11 c12_0 c12_1 c12_2 c12_3 c12_4 c12_5 c12_6 c13_0 c13_1 c13_2 c13_3 c13_4 c13_5 c13_6
      refine (awake5_any _ (show MT S11 from HT.out.below E11.out) (show Tab S11 from HP.out.below E11.out)).mono ?_
      rintro e w14 ⟨rfl, hb⟩
      have Xc14 := Lib.hid (Nc11.out.below hb Nc11.out.lt)
      have Xd14 := Lib.hid (Nd11.out.below hb Nd11.out.lt)
      have Xx14 := Lib.hid (Nx11.out.below hb Nx11.out.lt)
      have B14 := Lib.hid (E11.out.trans (hb.mono E11.out.size))
      have hz14 := hb.size
      clear hb Nc11 Nd11 Nx11 E11
      go_wp2_with fail
      go_ret
      exact ⟨rfl, B14.out⟩
    · have HO := Lib.hid hc
      clear hc
      refine (sec_out y m d hh mi s n _ (show MT w6 from HT.out.below B6.out) HO.out).mono ?_
      rintro e w8 ⟨rfl, hb⟩
      have Xc8 := Lib.hid (Xc6.out.below hb Xc6.out.lt)
      have Xd8 := Lib.hid (Xd6.out.below hb Xd6.out.lt)
      have B8 := Lib.hid (B6.out.trans (hb.mono B6.out.size))
      have hz8 := hb.size
      clear hb Xc6 Xd6 B6
      go_wp2_with fail
      clear c7_0 c7_1 c7_2 c7_3 c7_4 c7_5 c7_6
      refine (awake5_any _ (show MT w8 from HT.out.below B8.out) (show Tab w8 from HP.out.below B8.out)).mono ?_
      rintro e w9 ⟨rfl, hb⟩
      have Xc9 := Lib.hid (Xc8.out.below hb Xc8.out.lt)
      have Xd9 := Lib.hid (Xd8.out.below hb Xd8.out.lt)
      have B9 := Lib.hid (B8.out.trans (hb.mono B8.out.size))
      have hz9 := hb.size
      clear hb Xc8 Xd8 B8
      go_wp2_with fail
      go_ret
      exact ⟨rfl, B9.out⟩
  · have HI := Lib.hid (inS_no (t := t) (by omega))
    go_enter Tryd.func7, Tryd.ntmps7
    go_wp2_with fail
    rw [HW0.out]
    refine (pof_no t _ HI.out).mono ?_
    rintro e w1 ⟨rfl, hb⟩
    have Xc1 := Lib.hid (X0.out.below hb X0.out.lt)
    have B1 := Lib.hid (BB0.out.trans (hb.mono BB0.out.size))
    have hz1 := hb.size
    clear hb X0 BB0
    have Yd2 := Lib.hid (bx7_new w1 0 0 0 0 0 0 0)
    have lc2 := Xc1.out.lt
    have Yc2 := Lib.hid (Xc1.out.alloc (.cells #[.int .i64 0, .int .i64 0, .int .i64 0, .int .i64 0, .int .i64 0, .int .i64 0, .int .i64 0] 23))
    have D2 := Lib.hid (B1.out.alloc B1.out.size (.cells #[.int .i64 0, .int .i64 0, .int .i64 0, .int .i64 0, .int .i64 0, .int .i64 0, .int .i64 0] 23))
    have hs2 := B1.out.size
    have r2_0 := Yd2.out.cells.1
    have g2_0 := Yd2.out.thaw.1
    have Nd2_0 := Lib.hid (Yd2.out.set0 0)
    have Nc2_0 := Lib.hid (Yc2.out.other (C := w1.heap.size) (i := 0) (by omega) (.int .i64 0))
    have E2_0 := Lib.hid (below_set (C := w1.heap.size) (i := 0) D2.out (by omega) (.int .i64 0))
    obtain ⟨S2_0, hS2_0⟩ : ∃ W, (w1.alloc (.cells #[.int .i64 0, .int .i64 0, .int .i64 0, .int .i64 0, .int .i64 0, .int .i64 0, .int .i64 0] 23)).setCell ⟨w1.heap.size, 0, none⟩ (.int .i64 0) = W := ⟨_, rfl⟩
    rw [hS2_0] at Nd2_0 Nc2_0 E2_0
    clear Yd2 Yc2 D2
    have r2_1 := Nd2_0.out.cells.2.1
    have g2_1 := Nd2_0.out.thaw.2.1
    have Nd2_1 := Lib.hid (Nd2_0.out.set1 0)
    have Nc2_1 := Lib.hid (Nc2_0.out.other (C := w1.heap.size) (i := 1) (by omega) (.int .i64 0))
    have E2_1 := Lib.hid (below_set (C := w1.heap.size) (i := 1) E2_0.out (by omega) (.int .i64 0))
    obtain ⟨S2_1, hS2_1⟩ : ∃ W, S2_0.setCell ⟨w1.heap.size, 1, none⟩ (.int .i64 0) = W := ⟨_, rfl⟩
    rw [hS2_1] at Nd2_1 Nc2_1 E2_1
    clear Nd2_0 Nc2_0 E2_0
    have r2_2 := Nd2_1.out.cells.2.2.1
    have g2_2 := Nd2_1.out.thaw.2.2.1
    have Nd2_2 := Lib.hid (Nd2_1.out.set2 0)
    have Nc2_2 := Lib.hid (Nc2_1.out.other (C := w1.heap.size) (i := 2) (by omega) (.int .i64 0))
    have E2_2 := Lib.hid (below_set (C := w1.heap.size) (i := 2) E2_1.out (by omega) (.int .i64 0))
    obtain ⟨S2_2, hS2_2⟩ : ∃ W, S2_1.setCell ⟨w1.heap.size, 2, none⟩ (.int .i64 0) = W := ⟨_, rfl⟩
    rw [hS2_2] at Nd2_2 Nc2_2 E2_2
    clear Nd2_1 Nc2_1 E2_1
    have r2_3 := Nd2_2.out.cells.2.2.2.1
    have g2_3 := Nd2_2.out.thaw.2.2.2.1
    have Nd2_3 := Lib.hid (Nd2_2.out.set3 0)
    have Nc2_3 := Lib.hid (Nc2_2.out.other (C := w1.heap.size) (i := 3) (by omega) (.int .i64 0))
    have E2_3 := Lib.hid (below_set (C := w1.heap.size) (i := 3) E2_2.out (by omega) (.int .i64 0))
    obtain ⟨S2_3, hS2_3⟩ : ∃ W, S2_2.setCell ⟨w1.heap.size, 3, none⟩ (.int .i64 0) = W := ⟨_, rfl⟩
    rw [hS2_3] at Nd2_3 Nc2_3 E2_3
    clear Nd2_2 Nc2_2 E2_2
    have r2_4 := Nd2_3.out.cells.2.2.2.2.1
    have g2_4 := Nd2_3.out.thaw.2.2.2.2.1
    have Nd2_4 := Lib.hid (Nd2_3.out.set4 0)
    have Nc2_4 := Lib.hid (Nc2_3.out.other (C := w1.heap.size) (i := 4) (by omega) (.int .i64 0))
    have E2_4 := Lib.hid (below_set (C := w1.heap.size) (i := 4) E2_3.out (by omega) (.int .i64 0))
    obtain ⟨S2_4, hS2_4⟩ : ∃ W, S2_3.setCell ⟨w1.heap.size, 4, none⟩ (.int .i64 0) = W := ⟨_, rfl⟩
    rw [hS2_4] at Nd2_4 Nc2_4 E2_4
    clear Nd2_3 Nc2_3 E2_3
    have r2_5 := Nd2_4.out.cells.2.2.2.2.2.1
    have g2_5 := Nd2_4.out.thaw.2.2.2.2.2.1
    have Nd2_5 := Lib.hid (Nd2_4.out.set5 0)
    have Nc2_5 := Lib.hid (Nc2_4.out.other (C := w1.heap.size) (i := 5) (by omega) (.int .i64 0))
    have E2_5 := Lib.hid (below_set (C := w1.heap.size) (i := 5) E2_4.out (by omega) (.int .i64 0))
    obtain ⟨S2_5, hS2_5⟩ : ∃ W, S2_4.setCell ⟨w1.heap.size, 5, none⟩ (.int .i64 0) = W := ⟨_, rfl⟩
    rw [hS2_5] at Nd2_5 Nc2_5 E2_5
    clear Nd2_4 Nc2_4 E2_4
    have r2_6 := Nd2_5.out.cells.2.2.2.2.2.2
    have g2_6 := Nd2_5.out.thaw.2.2.2.2.2.2
    have Nd2_6 := Lib.hid (Nd2_5.out.set6 0)
    have Nc2_6 := Lib.hid (Nc2_5.out.other (C := w1.heap.size) (i := 6) (by omega) (.int .i64 0))
    have E2_6 := Lib.hid (below_set (C := w1.heap.size) (i := 6) E2_5.out (by omega) (.int .i64 0))
    obtain ⟨S2_6, hS2_6⟩ : ∃ W, S2_5.setCell ⟨w1.heap.size, 6, none⟩ (.int .i64 0) = W := ⟨_, rfl⟩
    rw [hS2_6] at Nd2_6 Nc2_6 E2_6
    clear Nd2_5 Nc2_5 E2_5
    clear Xc1 B1
    obtain ⟨c3_0, c3_1, c3_2, c3_3, c3_4, c3_5, c3_6⟩ := Nd2_6.out.cells
    by_cases lo : t < -8000000000
    · clear hin
      obtain ⟨c4_0, c4_1, c4_2, c4_3, c4_4, c4_5, c4_6⟩ := Nc2_6.out.cells
      go_wp2_with fail
      by_cases hc : okC y m d hh mi s n = true ∧ inS (secN y m d hh mi s) = true
      · have HO := Lib.hid hc
        obtain ⟨c0, c1, c2, c3, c4, c5, c6, c7, c8, c9, c10, c11, c12, c13⟩ := okC_iff.1 hc.1
        have hof := of_sec (y := y) (m := m) (d := d) (hh := hh) (mi := mi) (s := s) ⟨c2, c3, c4, c5⟩ c6 c7 c8 c9 c10 c11 rfl
        obtain ⟨N, hN⟩ : ∃ N, secN y m d hh mi s = N := ⟨_, rfl⟩
        have HN := Lib.hid hN
        rw [hN] at hof
        have HF := Lib.hid hof
        clear hc hN hof c0 c1 c2 c3 c4 c5 c6 c7 c8 c9 c10 c11 c12 c13
        refine (sec_in y m d hh mi s n _ (show MT S2_6 from HT.out.below E2_6.out) HO.out.1 HO.out.2).mono ?_
        rintro e w5 ⟨rfl, hb⟩
        have Xc5 := Lib.hid (Nc2_6.out.below hb Nc2_6.out.lt)
        have Xd5 := Lib.hid (Nd2_6.out.below hb Nd2_6.out.lt)
        have B5 := Lib.hid (E2_6.out.trans (hb.mono E2_6.out.size))
        have hz5 := hb.size
        clear hb Nc2_6 Nd2_6 E2_6
        rw [HN.out]
        go_wp2_with fail
        clear hs2 r2_0 g2_0 hS2_0 r2_1 g2_1 hS2_1 r2_2 g2_2 hS2_2 r2_3 g2_3 hS2_3 r2_4 g2_4 hS2_4 r2_5 g2_5 hS2_5 r2_6 g2_6 hS2_6 c3_0 c3_1 c3_2 c3_3 c3_4 c3_5 c3_6 c4_0 c4_1 c4_2 c4_3 c4_4 c4_5 c4_6
        refine (of_in N _ (show MT w5 from HT.out.below B5.out) (by rw [← HN.out]; exact HO.out.2)).mono ?_
        rintro e w6 ⟨rfl, hb⟩
        have Xc6 := Lib.hid (Xc5.out.below hb Xc5.out.lt)
        have Xd6 := Lib.hid (Xd5.out.below hb Xd5.out.lt)
        have B6 := Lib.hid (B5.out.trans (hb.mono B5.out.size))
        have hz6 := hb.size
        clear hb Xc5 Xd5 B5
        rw [HF.out.1, HF.out.2.1, HF.out.2.2.1, HF.out.2.2.2.1, HF.out.2.2.2.2.1, HF.out.2.2.2.2.2]
        have Yx7 := Lib.hid (bx7_new w6 0 0 0 0 0 0 0)
        have lc7 := Xc6.out.lt
        have Yc7 := Lib.hid (Xc6.out.alloc (.cells #[.int .i64 0, .int .i64 0, .int .i64 0, .int .i64 0, .int .i64 0, .int .i64 0, .int .i64 0] 23))
        have ld7 := Xd6.out.lt
        have Yd7 := Lib.hid (Xd6.out.alloc (.cells #[.int .i64 0, .int .i64 0, .int .i64 0, .int .i64 0, .int .i64 0, .int .i64 0, .int .i64 0] 23))
        have D7 := Lib.hid (B6.out.alloc B6.out.size (.cells #[.int .i64 0, .int .i64 0, .int .i64 0, .int .i64 0, .int .i64 0, .int .i64 0, .int .i64 0] 23))
        have hs7 := B6.out.size
        have r7_0 := Yx7.out.cells.1
        have g7_0 := Yx7.out.thaw.1
        have Nx7_0 := Lib.hid (Yx7.out.set0 y)
        have Nc7_0 := Lib.hid (Yc7.out.other (C := w6.heap.size) (i := 0) (by omega) (.int .i64 y))
        have Nd7_0 := Lib.hid (Yd7.out.other (C := w6.heap.size) (i := 0) (by omega) (.int .i64 y))
        have E7_0 := Lib.hid (below_set (C := w6.heap.size) (i := 0) D7.out (by omega) (.int .i64 y))
        obtain ⟨S7_0, hS7_0⟩ : ∃ W, (w6.alloc (.cells #[.int .i64 0, .int .i64 0, .int .i64 0, .int .i64 0, .int .i64 0, .int .i64 0, .int .i64 0] 23)).setCell ⟨w6.heap.size, 0, none⟩ (.int .i64 y) = W := ⟨_, rfl⟩
        rw [hS7_0] at Nx7_0 Nc7_0 Nd7_0 E7_0
        clear Yx7 Yc7 Yd7 D7
        have r7_1 := Nx7_0.out.cells.2.1
        have g7_1 := Nx7_0.out.thaw.2.1
        have Nx7_1 := Lib.hid (Nx7_0.out.set1 m)
        have Nc7_1 := Lib.hid (Nc7_0.out.other (C := w6.heap.size) (i := 1) (by omega) (.int .i64 m))
        have Nd7_1 := Lib.hid (Nd7_0.out.other (C := w6.heap.size) (i := 1) (by omega) (.int .i64 m))
        have E7_1 := Lib.hid (below_set (C := w6.heap.size) (i := 1) E7_0.out (by omega) (.int .i64 m))
        obtain ⟨S7_1, hS7_1⟩ : ∃ W, S7_0.setCell ⟨w6.heap.size, 1, none⟩ (.int .i64 m) = W := ⟨_, rfl⟩
        rw [hS7_1] at Nx7_1 Nc7_1 Nd7_1 E7_1
        clear Nx7_0 Nc7_0 Nd7_0 E7_0
        have r7_2 := Nx7_1.out.cells.2.2.1
        have g7_2 := Nx7_1.out.thaw.2.2.1
        have Nx7_2 := Lib.hid (Nx7_1.out.set2 d)
        have Nc7_2 := Lib.hid (Nc7_1.out.other (C := w6.heap.size) (i := 2) (by omega) (.int .i64 d))
        have Nd7_2 := Lib.hid (Nd7_1.out.other (C := w6.heap.size) (i := 2) (by omega) (.int .i64 d))
        have E7_2 := Lib.hid (below_set (C := w6.heap.size) (i := 2) E7_1.out (by omega) (.int .i64 d))
        obtain ⟨S7_2, hS7_2⟩ : ∃ W, S7_1.setCell ⟨w6.heap.size, 2, none⟩ (.int .i64 d) = W := ⟨_, rfl⟩
        rw [hS7_2] at Nx7_2 Nc7_2 Nd7_2 E7_2
        clear Nx7_1 Nc7_1 Nd7_1 E7_1
        have r7_3 := Nx7_2.out.cells.2.2.2.1
        have g7_3 := Nx7_2.out.thaw.2.2.2.1
        have Nx7_3 := Lib.hid (Nx7_2.out.set3 hh)
        have Nc7_3 := Lib.hid (Nc7_2.out.other (C := w6.heap.size) (i := 3) (by omega) (.int .i64 hh))
        have Nd7_3 := Lib.hid (Nd7_2.out.other (C := w6.heap.size) (i := 3) (by omega) (.int .i64 hh))
        have E7_3 := Lib.hid (below_set (C := w6.heap.size) (i := 3) E7_2.out (by omega) (.int .i64 hh))
        obtain ⟨S7_3, hS7_3⟩ : ∃ W, S7_2.setCell ⟨w6.heap.size, 3, none⟩ (.int .i64 hh) = W := ⟨_, rfl⟩
        rw [hS7_3] at Nx7_3 Nc7_3 Nd7_3 E7_3
        clear Nx7_2 Nc7_2 Nd7_2 E7_2
        have r7_4 := Nx7_3.out.cells.2.2.2.2.1
        have g7_4 := Nx7_3.out.thaw.2.2.2.2.1
        have Nx7_4 := Lib.hid (Nx7_3.out.set4 mi)
        have Nc7_4 := Lib.hid (Nc7_3.out.other (C := w6.heap.size) (i := 4) (by omega) (.int .i64 mi))
        have Nd7_4 := Lib.hid (Nd7_3.out.other (C := w6.heap.size) (i := 4) (by omega) (.int .i64 mi))
        have E7_4 := Lib.hid (below_set (C := w6.heap.size) (i := 4) E7_3.out (by omega) (.int .i64 mi))
        obtain ⟨S7_4, hS7_4⟩ : ∃ W, S7_3.setCell ⟨w6.heap.size, 4, none⟩ (.int .i64 mi) = W := ⟨_, rfl⟩
        rw [hS7_4] at Nx7_4 Nc7_4 Nd7_4 E7_4
        clear Nx7_3 Nc7_3 Nd7_3 E7_3
        have r7_5 := Nx7_4.out.cells.2.2.2.2.2.1
        have g7_5 := Nx7_4.out.thaw.2.2.2.2.2.1
        have Nx7_5 := Lib.hid (Nx7_4.out.set5 s)
        have Nc7_5 := Lib.hid (Nc7_4.out.other (C := w6.heap.size) (i := 5) (by omega) (.int .i64 s))
        have Nd7_5 := Lib.hid (Nd7_4.out.other (C := w6.heap.size) (i := 5) (by omega) (.int .i64 s))
        have E7_5 := Lib.hid (below_set (C := w6.heap.size) (i := 5) E7_4.out (by omega) (.int .i64 s))
        obtain ⟨S7_5, hS7_5⟩ : ∃ W, S7_4.setCell ⟨w6.heap.size, 5, none⟩ (.int .i64 s) = W := ⟨_, rfl⟩
        rw [hS7_5] at Nx7_5 Nc7_5 Nd7_5 E7_5
        clear Nx7_4 Nc7_4 Nd7_4 E7_4
        have r7_6 := Nx7_5.out.cells.2.2.2.2.2.2
        have g7_6 := Nx7_5.out.thaw.2.2.2.2.2.2
        have Nx7_6 := Lib.hid (Nx7_5.out.set6 0)
        have Nc7_6 := Lib.hid (Nc7_5.out.other (C := w6.heap.size) (i := 6) (by omega) (.int .i64 0))
        have Nd7_6 := Lib.hid (Nd7_5.out.other (C := w6.heap.size) (i := 6) (by omega) (.int .i64 0))
        have E7_6 := Lib.hid (below_set (C := w6.heap.size) (i := 6) E7_5.out (by omega) (.int .i64 0))
        obtain ⟨S7_6, hS7_6⟩ : ∃ W, S7_5.setCell ⟨w6.heap.size, 6, none⟩ (.int .i64 0) = W := ⟨_, rfl⟩
        rw [hS7_6] at Nx7_6 Nc7_6 Nd7_6 E7_6
        clear Nx7_5 Nc7_5 Nd7_5 E7_5
        clear Xc6 Xd6 B6
        have r8 := Nc7_6.out.cells.2.2.2.2.2.2
        have g8 := Nc7_6.out.thaw.2.2.2.2.2.2
        have Nc8 := Lib.hid (Nc7_6.out.set6 0)
        have Nd8 := Lib.hid (Nd7_6.out.other (C := w.heap.size) (i := 6) (by omega) (.int .i64 0))
        have Nx8 := Lib.hid (Nx7_6.out.other (C := w.heap.size) (i := 6) (by omega) (.int .i64 0))
        have E8 := Lib.hid (below_set (C := w.heap.size) (i := 6) E7_6.out (by omega) (.int .i64 0))
        obtain ⟨S8, hS8⟩ : ∃ W, S7_6.setCell ⟨w.heap.size, 6, none⟩ (.int .i64 0) = W := ⟨_, rfl⟩
        rw [hS8] at Nc8 Nd8 Nx8 E8
        clear Nc7_6 Nd7_6 Nx7_6 E7_6
        obtain ⟨c9_0, c9_1, c9_2, c9_3, c9_4, c9_5, c9_6⟩ := Nc8.out.cells
        obtain ⟨c10_0, c10_1, c10_2, c10_3, c10_4, c10_5, c10_6⟩ := Nx8.out.cells
        go_wp2_with fail
        clear hs7 r7_0 g7_0 hS7_0 r7_1 g7_1 hS7_1 r7_2 g7_2 hS7_2 r7_3 g7_3 hS7_3 r7_4 g7_4 hS7_4 r7_5 g7_5 hS7_5 r7_6 g7_6 hS7_6 r8 g8 hS8 c9_0 c9_1 c9_2 c9_3 c9_4 c9_5 c9_6 c10_0 c10_1 c10_2 c10_3 c10_4 c10_5 c10_6
        refine (awake5_any _ (show MT S8 from HT.out.below E8.out) (show Tab S8 from HP.out.below E8.out)).mono ?_
        rintro e w11 ⟨rfl, hb⟩
        have Xc11 := Lib.hid (Nc8.out.below hb Nc8.out.lt)
        have Xd11 := Lib.hid (Nd8.out.below hb Nd8.out.lt)
        have Xx11 := Lib.hid (Nx8.out.below hb Nx8.out.lt)
        have B11 := Lib.hid (E8.out.trans (hb.mono E8.out.size))
        have hz11 := hb.size
        clear hb Nc8 Nd8 Nx8 E8
        go_wp2_with fail
        go_ret
        exact ⟨rfl, B11.out⟩
      · have HO := Lib.hid hc
        clear hc
        refine (sec_out y m d hh mi s n _ (show MT S2_6 from HT.out.below E2_6.out) HO.out).mono ?_
        rintro e w5 ⟨rfl, hb⟩
        have Xc5 := Lib.hid (Nc2_6.out.below hb Nc2_6.out.lt)
        have Xd5 := Lib.hid (Nd2_6.out.below hb Nd2_6.out.lt)
        have B5 := Lib.hid (E2_6.out.trans (hb.mono E2_6.out.size))
        have hz5 := hb.size
        clear hb Nc2_6 Nd2_6 E2_6
        go_wp2_with fail
        clear hs2 r2_0 g2_0 hS2_0 r2_1 g2_1 hS2_1 r2_2 g2_2 hS2_2 r2_3 g2_3 hS2_3 r2_4 g2_4 hS2_4 r2_5 g2_5 hS2_5 r2_6 g2_6 hS2_6 c3_0 c3_1 c3_2 c3_3 c3_4 c3_5 c3_6 c4_0 c4_1 c4_2 c4_3 c4_4 c4_5 c4_6
        refine (awake5_any _ (show MT w5 from HT.out.below B5.out) (show Tab w5 from HP.out.below B5.out)).mono ?_
        rintro e w6 ⟨rfl, hb⟩
        have Xc6 := Lib.hid (Xc5.out.below hb Xc5.out.lt)
        have Xd6 := Lib.hid (Xd5.out.below hb Xd5.out.lt)
        have B6 := Lib.hid (B5.out.trans (hb.mono B5.out.size))
        have hz6 := hb.size
        clear hb Xc5 Xd5 B5
        go_wp2_with fail
        go_ret
        exact ⟨rfl, B6.out⟩
    · have hi : 8000000000 < t := by omega
      have d1 : decide (t < -8000000000) = false := decide_eq_false lo
      clear hin
      obtain ⟨c4_0, c4_1, c4_2, c4_3, c4_4, c4_5, c4_6⟩ := Nc2_6.out.cells
      go_wp2_with fail
      by_cases hc : okC y m d hh mi s n = true ∧ inS (secN y m d hh mi s) = true
      · have HO := Lib.hid hc
        obtain ⟨c0, c1, c2, c3, c4, c5, c6, c7, c8, c9, c10, c11, c12, c13⟩ := okC_iff.1 hc.1
        have hof := of_sec (y := y) (m := m) (d := d) (hh := hh) (mi := mi) (s := s) ⟨c2, c3, c4, c5⟩ c6 c7 c8 c9 c10 c11 rfl
        obtain ⟨N, hN⟩ : ∃ N, secN y m d hh mi s = N := ⟨_, rfl⟩
        have HN := Lib.hid hN
        rw [hN] at hof
        have HF := Lib.hid hof
        clear hc hN hof c0 c1 c2 c3 c4 c5 c6 c7 c8 c9 c10 c11 c12 c13
        refine (sec_in y m d hh mi s n _ (show MT S2_6 from HT.out.below E2_6.out) HO.out.1 HO.out.2).mono ?_
        rintro e w5 ⟨rfl, hb⟩
        have Xc5 := Lib.hid (Nc2_6.out.below hb Nc2_6.out.lt)
        have Xd5 := Lib.hid (Nd2_6.out.below hb Nd2_6.out.lt)
        have B5 := Lib.hid (E2_6.out.trans (hb.mono E2_6.out.size))
        have hz5 := hb.size
        clear hb Nc2_6 Nd2_6 E2_6
        rw [HN.out]
        go_wp2_with fail
        clear hs2 r2_0 g2_0 hS2_0 r2_1 g2_1 hS2_1 r2_2 g2_2 hS2_2 r2_3 g2_3 hS2_3 r2_4 g2_4 hS2_4 r2_5 g2_5 hS2_5 r2_6 g2_6 hS2_6 c3_0 c3_1 c3_2 c3_3 c3_4 c3_5 c3_6 c4_0 c4_1 c4_2 c4_3 c4_4 c4_5 c4_6
        refine (of_in N _ (show MT w5 from HT.out.below B5.out) (by rw [← HN.out]; exact HO.out.2)).mono ?_
        rintro e w6 ⟨rfl, hb⟩
        have Xc6 := Lib.hid (Xc5.out.below hb Xc5.out.lt)
        have Xd6 := Lib.hid (Xd5.out.below hb Xd5.out.lt)
        have B6 := Lib.hid (B5.out.trans (hb.mono B5.out.size))
        have hz6 := hb.size
        clear hb Xc5 Xd5 B5
        rw [HF.out.1, HF.out.2.1, HF.out.2.2.1, HF.out.2.2.2.1, HF.out.2.2.2.2.1, HF.out.2.2.2.2.2]
        have Yx7 := Lib.hid (bx7_new w6 0 0 0 0 0 0 0)
        have lc7 := Xc6.out.lt
        have Yc7 := Lib.hid (Xc6.out.alloc (.cells #[.int .i64 0, .int .i64 0, .int .i64 0, .int .i64 0, .int .i64 0, .int .i64 0, .int .i64 0] 23))
        have ld7 := Xd6.out.lt
        have Yd7 := Lib.hid (Xd6.out.alloc (.cells #[.int .i64 0, .int .i64 0, .int .i64 0, .int .i64 0, .int .i64 0, .int .i64 0, .int .i64 0] 23))
        have D7 := Lib.hid (B6.out.alloc B6.out.size (.cells #[.int .i64 0, .int .i64 0, .int .i64 0, .int .i64 0, .int .i64 0, .int .i64 0, .int .i64 0] 23))
        have hs7 := B6.out.size
        have r7_0 := Yx7.out.cells.1
        have g7_0 := Yx7.out.thaw.1
        have Nx7_0 := Lib.hid (Yx7.out.set0 y)
        have Nc7_0 := Lib.hid (Yc7.out.other (C := w6.heap.size) (i := 0) (by omega) (.int .i64 y))
        have Nd7_0 := Lib.hid (Yd7.out.other (C := w6.heap.size) (i := 0) (by omega) (.int .i64 y))
        have E7_0 := Lib.hid (below_set (C := w6.heap.size) (i := 0) D7.out (by omega) (.int .i64 y))
        obtain ⟨S7_0, hS7_0⟩ : ∃ W, (w6.alloc (.cells #[.int .i64 0, .int .i64 0, .int .i64 0, .int .i64 0, .int .i64 0, .int .i64 0, .int .i64 0] 23)).setCell ⟨w6.heap.size, 0, none⟩ (.int .i64 y) = W := ⟨_, rfl⟩
        rw [hS7_0] at Nx7_0 Nc7_0 Nd7_0 E7_0
        clear Yx7 Yc7 Yd7 D7
        have r7_1 := Nx7_0.out.cells.2.1
        have g7_1 := Nx7_0.out.thaw.2.1
        have Nx7_1 := Lib.hid (Nx7_0.out.set1 m)
        have Nc7_1 := Lib.hid (Nc7_0.out.other (C := w6.heap.size) (i := 1) (by omega) (.int .i64 m))
        have Nd7_1 := Lib.hid (Nd7_0.out.other (C := w6.heap.size) (i := 1) (by omega) (.int .i64 m))
        have E7_1 := Lib.hid (below_set (C := w6.heap.size) (i := 1) E7_0.out (by omega) (.int .i64 m))
        obtain ⟨S7_1, hS7_1⟩ : ∃ W, S7_0.setCell ⟨w6.heap.size, 1, none⟩ (.int .i64 m) = W := ⟨_, rfl⟩
        rw [hS7_1] at Nx7_1 Nc7_1 Nd7_1 E7_1
        clear Nx7_0 Nc7_0 Nd7_0 E7_0
        have r7_2 := Nx7_1.out.cells.2.2.1
        have g7_2 := Nx7_1.out.thaw.2.2.1
        have Nx7_2 := Lib.hid (Nx7_1.out.set2 d)
        have Nc7_2 := Lib.hid (Nc7_1.out.other (C := w6.heap.size) (i := 2) (by omega) (.int .i64 d))
        have Nd7_2 := Lib.hid (Nd7_1.out.other (C := w6.heap.size) (i := 2) (by omega) (.int .i64 d))
        have E7_2 := Lib.hid (below_set (C := w6.heap.size) (i := 2) E7_1.out (by omega) (.int .i64 d))
        obtain ⟨S7_2, hS7_2⟩ : ∃ W, S7_1.setCell ⟨w6.heap.size, 2, none⟩ (.int .i64 d) = W := ⟨_, rfl⟩
        rw [hS7_2] at Nx7_2 Nc7_2 Nd7_2 E7_2
        clear Nx7_1 Nc7_1 Nd7_1 E7_1
        have r7_3 := Nx7_2.out.cells.2.2.2.1
        have g7_3 := Nx7_2.out.thaw.2.2.2.1
        have Nx7_3 := Lib.hid (Nx7_2.out.set3 hh)
        have Nc7_3 := Lib.hid (Nc7_2.out.other (C := w6.heap.size) (i := 3) (by omega) (.int .i64 hh))
        have Nd7_3 := Lib.hid (Nd7_2.out.other (C := w6.heap.size) (i := 3) (by omega) (.int .i64 hh))
        have E7_3 := Lib.hid (below_set (C := w6.heap.size) (i := 3) E7_2.out (by omega) (.int .i64 hh))
        obtain ⟨S7_3, hS7_3⟩ : ∃ W, S7_2.setCell ⟨w6.heap.size, 3, none⟩ (.int .i64 hh) = W := ⟨_, rfl⟩
        rw [hS7_3] at Nx7_3 Nc7_3 Nd7_3 E7_3
        clear Nx7_2 Nc7_2 Nd7_2 E7_2
        have r7_4 := Nx7_3.out.cells.2.2.2.2.1
        have g7_4 := Nx7_3.out.thaw.2.2.2.2.1
        have Nx7_4 := Lib.hid (Nx7_3.out.set4 mi)
        have Nc7_4 := Lib.hid (Nc7_3.out.other (C := w6.heap.size) (i := 4) (by omega) (.int .i64 mi))
        have Nd7_4 := Lib.hid (Nd7_3.out.other (C := w6.heap.size) (i := 4) (by omega) (.int .i64 mi))
        have E7_4 := Lib.hid (below_set (C := w6.heap.size) (i := 4) E7_3.out (by omega) (.int .i64 mi))
        obtain ⟨S7_4, hS7_4⟩ : ∃ W, S7_3.setCell ⟨w6.heap.size, 4, none⟩ (.int .i64 mi) = W := ⟨_, rfl⟩
        rw [hS7_4] at Nx7_4 Nc7_4 Nd7_4 E7_4
        clear Nx7_3 Nc7_3 Nd7_3 E7_3
        have r7_5 := Nx7_4.out.cells.2.2.2.2.2.1
        have g7_5 := Nx7_4.out.thaw.2.2.2.2.2.1
        have Nx7_5 := Lib.hid (Nx7_4.out.set5 s)
        have Nc7_5 := Lib.hid (Nc7_4.out.other (C := w6.heap.size) (i := 5) (by omega) (.int .i64 s))
        have Nd7_5 := Lib.hid (Nd7_4.out.other (C := w6.heap.size) (i := 5) (by omega) (.int .i64 s))
        have E7_5 := Lib.hid (below_set (C := w6.heap.size) (i := 5) E7_4.out (by omega) (.int .i64 s))
        obtain ⟨S7_5, hS7_5⟩ : ∃ W, S7_4.setCell ⟨w6.heap.size, 5, none⟩ (.int .i64 s) = W := ⟨_, rfl⟩
        rw [hS7_5] at Nx7_5 Nc7_5 Nd7_5 E7_5
        clear Nx7_4 Nc7_4 Nd7_4 E7_4
        have r7_6 := Nx7_5.out.cells.2.2.2.2.2.2
        have g7_6 := Nx7_5.out.thaw.2.2.2.2.2.2
        have Nx7_6 := Lib.hid (Nx7_5.out.set6 0)
        have Nc7_6 := Lib.hid (Nc7_5.out.other (C := w6.heap.size) (i := 6) (by omega) (.int .i64 0))
        have Nd7_6 := Lib.hid (Nd7_5.out.other (C := w6.heap.size) (i := 6) (by omega) (.int .i64 0))
        have E7_6 := Lib.hid (below_set (C := w6.heap.size) (i := 6) E7_5.out (by omega) (.int .i64 0))
        obtain ⟨S7_6, hS7_6⟩ : ∃ W, S7_5.setCell ⟨w6.heap.size, 6, none⟩ (.int .i64 0) = W := ⟨_, rfl⟩
        rw [hS7_6] at Nx7_6 Nc7_6 Nd7_6 E7_6
        clear Nx7_5 Nc7_5 Nd7_5 E7_5
        clear Xc6 Xd6 B6
        have r8 := Nc7_6.out.cells.2.2.2.2.2.2
        have g8 := Nc7_6.out.thaw.2.2.2.2.2.2
        have Nc8 := Lib.hid (Nc7_6.out.set6 0)
        have Nd8 := Lib.hid (Nd7_6.out.other (C := w.heap.size) (i := 6) (by omega) (.int .i64 0))
        have Nx8 := Lib.hid (Nx7_6.out.other (C := w.heap.size) (i := 6) (by omega) (.int .i64 0))
        have E8 := Lib.hid (below_set (C := w.heap.size) (i := 6) E7_6.out (by omega) (.int .i64 0))
        obtain ⟨S8, hS8⟩ : ∃ W, S7_6.setCell ⟨w.heap.size, 6, none⟩ (.int .i64 0) = W := ⟨_, rfl⟩
        rw [hS8] at Nc8 Nd8 Nx8 E8
        clear Nc7_6 Nd7_6 Nx7_6 E7_6
        obtain ⟨c9_0, c9_1, c9_2, c9_3, c9_4, c9_5, c9_6⟩ := Nc8.out.cells
        obtain ⟨c10_0, c10_1, c10_2, c10_3, c10_4, c10_5, c10_6⟩ := Nx8.out.cells
        go_wp2_with fail
        clear hs7 r7_0 g7_0 hS7_0 r7_1 g7_1 hS7_1 r7_2 g7_2 hS7_2 r7_3 g7_3 hS7_3 r7_4 g7_4 hS7_4 r7_5 g7_5 hS7_5 r7_6 g7_6 hS7_6 r8 g8 hS8 c9_0 c9_1 c9_2 c9_3 c9_4 c9_5 c9_6 c10_0 c10_1 c10_2 c10_3 c10_4 c10_5 c10_6
        refine (awake5_any _ (show MT S8 from HT.out.below E8.out) (show Tab S8 from HP.out.below E8.out)).mono ?_
        rintro e w11 ⟨rfl, hb⟩
        have Xc11 := Lib.hid (Nc8.out.below hb Nc8.out.lt)
        have Xd11 := Lib.hid (Nd8.out.below hb Nd8.out.lt)
        have Xx11 := Lib.hid (Nx8.out.below hb Nx8.out.lt)
        have B11 := Lib.hid (E8.out.trans (hb.mono E8.out.size))
        have hz11 := hb.size
        clear hb Nc8 Nd8 Nx8 E8
        go_wp2_with fail
        go_ret
        exact ⟨rfl, B11.out⟩
      · have HO := Lib.hid hc
        clear hc
        refine (sec_out y m d hh mi s n _ (show MT S2_6 from HT.out.below E2_6.out) HO.out).mono ?_
        rintro e w5 ⟨rfl, hb⟩
        have Xc5 := Lib.hid (Nc2_6.out.below hb Nc2_6.out.lt)
        have Xd5 := Lib.hid (Nd2_6.out.below hb Nd2_6.out.lt)
        have B5 := Lib.hid (E2_6.out.trans (hb.mono E2_6.out.size))
        have hz5 := hb.size
        clear hb Nc2_6 Nd2_6 E2_6
        go_wp2_with fail
        clear hs2 r2_0 g2_0 hS2_0 r2_1 g2_1 hS2_1 r2_2 g2_2 hS2_2 r2_3 g2_3 hS2_3 r2_4 g2_4 hS2_4 r2_5 g2_5 hS2_5 r2_6 g2_6 hS2_6 c3_0 c3_1 c3_2 c3_3 c3_4 c3_5 c3_6 c4_0 c4_1 c4_2 c4_3 c4_4 c4_5 c4_6
        refine (awake5_any _ (show MT w5 from HT.out.below B5.out) (show Tab w5 from HP.out.below B5.out)).mono ?_
        rintro e w6 ⟨rfl, hb⟩
        have Xc6 := Lib.hid (Xc5.out.below hb Xc5.out.lt)
        have Xd6 := Lib.hid (Xd5.out.below hb Xd5.out.lt)
        have B6 := Lib.hid (B5.out.trans (hb.mono B5.out.size))
        have hz6 := hb.size
        clear hb Xc5 Xd5 B5
        go_wp2_with fail
        go_ret
        exact ⟨rfl, B6.out⟩
end Go.Proofs.YtnhaflnlhcabpaaDoor
