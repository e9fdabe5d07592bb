/- Layer 5: CivilCycle. -/
import Derived.Test.YtnhaflnlhcabpaaDoorCivV
namespace Go.Proofs.YtnhaflnlhcabpaaDoor
open Go.RowKit Fx Cv Pt

/-- The days of the months up to a month, from month 0 on. -/
def Cv.msum (y : Int) : Nat → Int
  | 0 => 0
  | k + 1 => msum y k + md y k
theorem Cv.msum_bound (y : Int) : ∀ k : Nat, k ≤ 14 → 0 ≤ msum y k ∧ msum y k ≤ 31 * k := by
  intro k
  induction k with
  | zero => intro _; simp [msum]
  | succ k ih =>
    intro h
    have := ih (by omega)
    have hm : 0 ≤ md y k ∧ md y k ≤ 31 := by
      by_cases h0 : (k : Int) < 1 ∨ 12 < (k : Int)
      · rw [md_zero h0]; omega
      · have := md_bound (y := y) (m := k) (by omega) (by omega); omega
    simp only [msum]; omega
theorem Cv.msum_14 (y : Int) : msum y 14 = yd y := by
  have h := md_sum y
  have h0 := md_zero (y := y) (m := 0) (by omega)
  have h13 := md_zero (y := y) (m := 13) (by omega)
  simp only [msum]
  simp only [Int.cast_ofNat_Int] at *
  omega
/-- The year, as the statement cuts it. -/
theorem Cv.year_cut (y : Int) : -1099511627776 < y.tmod 1099511627776 ∧ y.tmod 1099511627776 < 1099511627776 := by
  have b := Int.tmod_lt_of_pos y (show (0 : Int) < 1099511627776 by decide)
  refine ⟨?_, b⟩
  rcases Int.le_total 0 y with h | h
  · have := Int.tmod_nonneg 1099511627776 h; omega
  · have := Int.tmod_lt_of_pos (-y) (show (0 : Int) < 1099511627776 by decide)
    rw [Int.neg_tmod] at this; omega

theorem cyc_facts (t : Int) (h0 : -8000000000 ≤ t) (h1 : t ≤ -4622780800) : ∃ Y M D H I S R J : Int, (∀ u : World, MT u → Calls Tryd.prog 16 #[.int .i64 t] u fun e w' => e = .returned (.tuple #[.agg #[.int .i64 Y, .int .i64 M, .int .i64 D, .int .i64 H, .int .i64 I, .int .i64 S, .int .i64 0], .int .i64 0]) ∧ Below u.heap.size u w') ∧
    (∀ u : World, MT u → Calls Tryd.prog 16 #[.int .i64 (t + 12622780800)] u fun e w' => e = .returned (.tuple #[.agg #[.int .i64 (Y + 400), .int .i64 M, .int .i64 D, .int .i64 H, .int .i64 I, .int .i64 S, .int .i64 0], .int .i64 0]) ∧ Below u.heap.size u w') ∧
    t / 86400 % 7 = R ∧ (t + 12622780800) / 86400 % 7 = R ∧ t / 86400 + 15020 = J ∧ (t + 12622780800) / 86400 + 15020 = J + 146097 ∧ 1600 ≤ Y ∧ Y ≤ 2200 ∧ -200000 ≤ J ∧ J ≤ 200000 := by
  have ha := inS_iff.2 (⟨h0, by omega⟩ : -8000000000 ≤ t ∧ t ≤ 8000000000)
  have hb := inS_iff.2 (⟨by omega, by omega⟩ : -8000000000 ≤ t + 12622780800 ∧ t + 12622780800 ≤ 8000000000)
  have hk := okC_iff.1 (of_ok ha)
  obtain ⟨f1, f2, f3, f4, f5, f6⟩ := of_400 t
  refine ⟨_, _, _, _, _, _, _, _, fun u hu => of_in t u hu ha, fun u hu => ?_, rfl, by omega, rfl, by omega, hk.1, hk.2.1, by omega, by omega⟩
  have h := of_in (t + 12622780800) u hu hb
  rw [f1, f2, f3, f4, f5, f6] at h; exact h

set_option maxRecDepth 100000 in
set_option maxHeartbeats 4000000 in
theorem cycle_law (t y0 : Int) (w : World) (ht : MT w) (hp : Tab w) (t0 : -9223372036854775808 ≤ t) (t1 : t ≤ 9223372036854775807) :
    Calls Tryd.prog 10 #[.int .i64 t, .int .i64 y0] w fun e w' => e = .returned (.bool true) ∧ Below w.heap.size w w' := by
  have HT := Lib.hid ht
  have HP := Lib.hid hp
  have BB0 := Lib.hid (Below.refl w.heap.size w)
  obtain ⟨y, hy⟩ : ∃ y, y0.tmod 1099511627776 = y := ⟨_, rfl⟩
  have hyb := year_cut y0
  rw [hy] at hyb
  obtain ⟨yb0, yb1⟩ := hyb
  clear ht hp
  go_enter Tryd.func10, Tryd.ntmps10
  go_wp2_with fail
  go_loop [5, 15] (fun dv mv => ∃ (k : Nat) (D : Int), mv = .int .i64 k ∧ dv = .int .i64 D ∧ k ≤ 14 ∧ 0 ≤ D ∧ D ≤ 500 ∧ Hid (D = msum y k)) (fun _ mv => 14 - (intOf mv).toNat)
  case atStart => exact ⟨0, 0, rfl, rfl, by omega, by omega, by omega, Lib.hid rfl⟩
  case round =>
    obtain ⟨k, D, rfl, rfl, hk, D0, D1, HD⟩ := hrel
    by_cases hlt : k < 14
    · have hki : (k : Int) < 14 := by omega
      obtain ⟨M, hM⟩ : ∃ M, md y k = M := ⟨_, rfl⟩
      have hM4 : md (y + 400) k = M := by rw [md_400, hM]
      have hb := msum_bound y (k + 1) (by omega)
      have HN : Hid (D + M = msum y (k + 1)) := Lib.hid (by rw [HD.out, ← hM]; rfl)
      have hDM : 0 ≤ D + M ∧ D + M ≤ 500 := by rw [HN.out]; omega
      have hMb : 0 ≤ M ∧ M ≤ 31 := by
        rw [← hM]
        by_cases h0 : (k : Int) < 1 ∨ 12 < (k : Int)
        · rw [md_zero h0]; omega
        · have := md_bound (y := y) (m := k) (by omega) (by omega); omega
      have hz : ((k : Int) = 0 ∨ (k : Int) = 13) → M = 0 := by
        intro h; rw [← hM]; exact md_zero (by omega)
      have HM := Lib.hid hM
      have HM4 := Lib.hid hM4
      clear hM hM4 hb
      by_cases h0 : (k : Int) = 0
      · have hM0 := hz (.inl h0)
        obtain rfl : k = 0 := by omega
        subst hM0
        clear h0 hz
        go_wp2_with fail
        refine (pmd_any y 0 _ HT.out (by omega) (by omega)).mono ?_
        rintro e w' ⟨rfl, hw'⟩; subst w'
        rw [show md y 0 = _ from HM.out]
        go_wp2_with fail
        refine (pmd_any (y + 400) 0 _ HT.out (by omega) (by omega)).mono ?_
        rintro e w' ⟨rfl, hw'⟩; subst w'
        rw [show md (y + 400) 0 = _ from HM4.out]
        go_wp2_with fail
        go_round
        case rel => exact ⟨1, D + 0, by go_num, by go_num, by omega, by omega, by omega, HN⟩
        case measure => simp [intOf]
      · by_cases h13 : (k : Int) = 13
        · have hM0 := hz (.inr h13)
          obtain rfl : k = 13 := by omega
          subst hM0
          clear h13 hz h0
          go_wp2_with fail
          refine (pmd_any y 13 _ HT.out (by omega) (by omega)).mono ?_
          rintro e w' ⟨rfl, hw'⟩; subst w'
          rw [show md y 13 = _ from HM.out]
          go_wp2_with fail
          refine (pmd_any (y + 400) 13 _ HT.out (by omega) (by omega)).mono ?_
          rintro e w' ⟨rfl, hw'⟩; subst w'
          rw [show md (y + 400) 13 = _ from HM4.out]
          go_wp2_with fail
          go_round
          case rel => exact ⟨14, D + 0, by go_num, by go_num, by omega, by omega, by omega, HN⟩
          case measure => simp [intOf]
        · have f0 : decide ((k : Int) = 0) = false := decide_eq_false h0
          have f1 : ((k : Int) == 0) = false := by simpa using h0
          have f2 : decide ((k : Int) = 13) = false := decide_eq_false h13
          have f3 : ((k : Int) == 13) = false := by simpa using h13
          clear hz
          go_wp2_with fail
          refine (pmd_any y k _ HT.out (by omega) (by omega)).mono ?_
          rintro e w' ⟨rfl, hw'⟩; subst w'
          rw [HM.out]
          go_wp2_with fail
          refine (pmd_any (y + 400) k _ HT.out (by omega) (by omega)).mono ?_
          rintro e w' ⟨rfl, hw'⟩; subst w'
          rw [HM4.out]
          go_wp2_with fail
          go_round
          case rel => exact ⟨(k + 1), D + M, by go_num, by go_num, by omega, by omega, by omega, HN⟩
          case measure => simp [intOf]; omega
    · obtain rfl : k = 14 := by omega
      have HY : Hid (D = yd y) := Lib.hid (by rw [HD.out]; exact msum_14 y)
      clear HD D0 D1 hlt
      have e4 := tmod_zero y (k := 4)
      have e100 := tmod_zero y (k := 100)
      have e400 := tmod_zero y (k := 400)
      by_cases a : y % 4 = 0
      · have A := e4.2 a
        by_cases b : y % 100 = 0
        · have B := e100.2 b
          by_cases c : y % 400 = 0
          · have C := e400.2 c
            obtain rfl : D = 366 := by rw [HY.out]; simp [yd, (isL_iff y).2 ⟨a, .inr c⟩]
            clear e4 e100 e400 a b c HY
            by_cases lo : t < -8000000000
            · go_wp2_with fail
              refine (awake5_any _ HT.out HP.out).mono ?_
              rintro e w1 ⟨rfl, hb⟩
              have B1 := Lib.hid (BB0.out.trans (hb.mono BB0.out.size))
              have hz1 := hb.size
              clear hb BB0
              go_wp2_with fail
              go_ret
              exact ⟨rfl, B1.out⟩
            have l1 : decide (t < -8000000000) = false := decide_eq_false lo
            by_cases hi : -4622780800 < t
            · go_wp2_with fail
              refine (awake5_any _ HT.out HP.out).mono ?_
              rintro e w1 ⟨rfl, hb⟩
              have B1 := Lib.hid (BB0.out.trans (hb.mono BB0.out.size))
              have hz1 := hb.size
              clear hb BB0
              go_wp2_with fail
              go_ret
              exact ⟨rfl, B1.out⟩
            have l2 : decide (-4622780800 < t) = false := decide_eq_false hi
            obtain ⟨Y, M, D, H, I, S, R, J, hO1, hO2, hR, hR2, hJ, hJ2, Y0, Y1, J0, J1⟩ := cyc_facts t (by omega) (by omega)
            have HO1 := Lib.hid hO1
            have HO2 := Lib.hid hO2
            have HR := Lib.hid hR
            have HR2 := Lib.hid hR2
            have HJ := Lib.hid hJ
            have HJ2 := Lib.hid hJ2
            clear hO1 hO2 hR hR2 hJ hJ2
            have tl : -8000000000 ≤ t := by omega
            have th : t ≤ -4622780800 := by omega
            go_wp2_with fail
            clear l1 l2 lo hi t0 t1
            refine (HO1.out _ (show MT w from HT.out.below BB0.out)).mono ?_
            rintro e w1 ⟨rfl, hb⟩
            have B1 := Lib.hid (BB0.out.trans (hb.mono BB0.out.size))
            have hz1 := hb.size
            clear hb BB0
            have Ya2 := Lib.hid (bx7_new w1 0 0 0 0 0 0 0)
            have D2 := Lib.hid (B1.out.alloc B1.out.size (.cells #[.int .i64 0, .int .i64 0, .int .i64 0, .int .i64 0, .int .i64 0, .int .i64 0, .int .i64 0] 23))
            have hs2 := B1.out.size
            have r2_0 := Ya2.out.cells.1
            have g2_0 := Ya2.out.thaw.1
            have Na2_0 := Lib.hid (Ya2.out.set0 Y)
            have E2_0 := Lib.hid (below_set (C := w1.heap.size) (i := 0) D2.out (by omega) (.int .i64 Y))
            obtain ⟨S2_0, hS2_0⟩ : ∃ W, (w1.alloc (.cells #[.int .i64 0, .int .i64 0, .int .i64 0, .int .i64 0, .int .i64 0, .int .i64 0, .int .i64 0] 23)).setCell ⟨w1.heap.size, 0, none⟩ (.int .i64 Y) = W := ⟨_, rfl⟩
            rw [hS2_0] at Na2_0 E2_0
            clear Ya2 D2
            have r2_1 := Na2_0.out.cells.2.1
            have g2_1 := Na2_0.out.thaw.2.1
            have Na2_1 := Lib.hid (Na2_0.out.set1 M)
            have E2_1 := Lib.hid (below_set (C := w1.heap.size) (i := 1) E2_0.out (by omega) (.int .i64 M))
            obtain ⟨S2_1, hS2_1⟩ : ∃ W, S2_0.setCell ⟨w1.heap.size, 1, none⟩ (.int .i64 M) = W := ⟨_, rfl⟩
            rw [hS2_1] at Na2_1 E2_1
            clear Na2_0 E2_0
            have r2_2 := Na2_1.out.cells.2.2.1
            have g2_2 := Na2_1.out.thaw.2.2.1
            have Na2_2 := Lib.hid (Na2_1.out.set2 D)
            have E2_2 := Lib.hid (below_set (C := w1.heap.size) (i := 2) E2_1.out (by omega) (.int .i64 D))
            obtain ⟨S2_2, hS2_2⟩ : ∃ W, S2_1.setCell ⟨w1.heap.size, 2, none⟩ (.int .i64 D) = W := ⟨_, rfl⟩
            rw [hS2_2] at Na2_2 E2_2
            clear Na2_1 E2_1
            have r2_3 := Na2_2.out.cells.2.2.2.1
            have g2_3 := Na2_2.out.thaw.2.2.2.1
            have Na2_3 := Lib.hid (Na2_2.out.set3 H)
            have E2_3 := Lib.hid (below_set (C := w1.heap.size) (i := 3) E2_2.out (by omega) (.int .i64 H))
            obtain ⟨S2_3, hS2_3⟩ : ∃ W, S2_2.setCell ⟨w1.heap.size, 3, none⟩ (.int .i64 H) = W := ⟨_, rfl⟩
            rw [hS2_3] at Na2_3 E2_3
            clear Na2_2 E2_2
            have r2_4 := Na2_3.out.cells.2.2.2.2.1
            have g2_4 := Na2_3.out.thaw.2.2.2.2.1
            have Na2_4 := Lib.hid (Na2_3.out.set4 I)
            have E2_4 := Lib.hid (below_set (C := w1.heap.size) (i := 4) E2_3.out (by omega) (.int .i64 I))
            obtain ⟨S2_4, hS2_4⟩ : ∃ W, S2_3.setCell ⟨w1.heap.size, 4, none⟩ (.int .i64 I) = W := ⟨_, rfl⟩
            rw [hS2_4] at Na2_4 E2_4
            clear Na2_3 E2_3
            have r2_5 := Na2_4.out.cells.2.2.2.2.2.1
            have g2_5 := Na2_4.out.thaw.2.2.2.2.2.1
            have Na2_5 := Lib.hid (Na2_4.out.set5 S)
            have E2_5 := Lib.hid (below_set (C := w1.heap.size) (i := 5) E2_4.out (by omega) (.int .i64 S))
            obtain ⟨S2_5, hS2_5⟩ : ∃ W, S2_4.setCell ⟨w1.heap.size, 5, none⟩ (.int .i64 S) = W := ⟨_, rfl⟩
            rw [hS2_5] at Na2_5 E2_5
            clear Na2_4 E2_4
            have r2_6 := Na2_5.out.cells.2.2.2.2.2.2
            have g2_6 := Na2_5.out.thaw.2.2.2.2.2.2
            have Na2_6 := Lib.hid (Na2_5.out.set6 0)
            have E2_6 := Lib.hid (below_set (C := w1.heap.size) (i := 6) E2_5.out (by omega) (.int .i64 0))
            obtain ⟨S2_6, hS2_6⟩ : ∃ W, S2_5.setCell ⟨w1.heap.size, 6, none⟩ (.int .i64 0) = W := ⟨_, rfl⟩
            rw [hS2_6] at Na2_6 E2_6
            clear Na2_5 E2_5
            clear B1
            go_wp2_with fail
            clear hs2 r2_0 g2_0 hS2_0 r2_1 g2_1 hS2_1 r2_2 g2_2 hS2_2 r2_3 g2_3 hS2_3 r2_4 g2_4 hS2_4 r2_5 g2_5 hS2_5 r2_6 g2_6 hS2_6
            refine (HO2.out _ (show MT S2_6 from HT.out.below E2_6.out)).mono ?_
            rintro e w3 ⟨rfl, hb⟩
            have Xa3 := Lib.hid (Na2_6.out.below hb Na2_6.out.lt)
            have B3 := Lib.hid (E2_6.out.trans (hb.mono E2_6.out.size))
            have hz3 := hb.size
            clear hb Na2_6 E2_6
            have Yb4 := Lib.hid (bx7_new w3 0 0 0 0 0 0 0)
            have la4 := Xa3.out.lt
            have Ya4 := Lib.hid (Xa3.out.alloc (.cells #[.int .i64 0, .int .i64 0, .int .i64 0, .int .i64 0, .int .i64 0, .int .i64 0, .int .i64 0] 23))
            have D4 := Lib.hid (B3.out.alloc B3.out.size (.cells #[.int .i64 0, .int .i64 0, .int .i64 0, .int .i64 0, .int .i64 0, .int .i64 0, .int .i64 0] 23))
            have hs4 := B3.out.size
            have r4_0 := Yb4.out.cells.1
            have g4_0 := Yb4.out.thaw.1
            have Nb4_0 := Lib.hid (Yb4.out.set0 (Y + 400))
            have Na4_0 := Lib.hid (Ya4.out.other (C := w3.heap.size) (i := 0) (by omega) (.int .i64 (Y + 400)))
            have E4_0 := Lib.hid (below_set (C := w3.heap.size) (i := 0) D4.out (by omega) (.int .i64 (Y + 400)))
            obtain ⟨S4_0, hS4_0⟩ : ∃ W, (w3.alloc (.cells #[.int .i64 0, .int .i64 0, .int .i64 0, .int .i64 0, .int .i64 0, .int .i64 0, .int .i64 0] 23)).setCell ⟨w3.heap.size, 0, none⟩ (.int .i64 (Y + 400)) = W := ⟨_, rfl⟩
            rw [hS4_0] at Nb4_0 Na4_0 E4_0
            clear Yb4 Ya4 D4
            have r4_1 := Nb4_0.out.cells.2.1
            have g4_1 := Nb4_0.out.thaw.2.1
            have Nb4_1 := Lib.hid (Nb4_0.out.set1 M)
            have Na4_1 := Lib.hid (Na4_0.out.other (C := w3.heap.size) (i := 1) (by omega) (.int .i64 M))
            have E4_1 := Lib.hid (below_set (C := w3.heap.size) (i := 1) E4_0.out (by omega) (.int .i64 M))
            obtain ⟨S4_1, hS4_1⟩ : ∃ W, S4_0.setCell ⟨w3.heap.size, 1, none⟩ (.int .i64 M) = W := ⟨_, rfl⟩
            rw [hS4_1] at Nb4_1 Na4_1 E4_1
            clear Nb4_0 Na4_0 E4_0
            have r4_2 := Nb4_1.out.cells.2.2.1
            have g4_2 := Nb4_1.out.thaw.2.2.1
            have Nb4_2 := Lib.hid (Nb4_1.out.set2 D)
            have Na4_2 := Lib.hid (Na4_1.out.other (C := w3.heap.size) (i := 2) (by omega) (.int .i64 D))
            have E4_2 := Lib.hid (below_set (C := w3.heap.size) (i := 2) E4_1.out (by omega) (.int .i64 D))
            obtain ⟨S4_2, hS4_2⟩ : ∃ W, S4_1.setCell ⟨w3.heap.size, 2, none⟩ (.int .i64 D) = W := ⟨_, rfl⟩
            rw [hS4_2] at Nb4_2 Na4_2 E4_2
            clear Nb4_1 Na4_1 E4_1
            have r4_3 := Nb4_2.out.cells.2.2.2.1
            have g4_3 := Nb4_2.out.thaw.2.2.2.1
            have Nb4_3 := Lib.hid (Nb4_2.out.set3 H)
            have Na4_3 := Lib.hid (Na4_2.out.other (C := w3.heap.size) (i := 3) (by omega) (.int .i64 H))
            have E4_3 := Lib.hid (below_set (C := w3.heap.size) (i := 3) E4_2.out (by omega) (.int .i64 H))
            obtain ⟨S4_3, hS4_3⟩ : ∃ W, S4_2.setCell ⟨w3.heap.size, 3, none⟩ (.int .i64 H) = W := ⟨_, rfl⟩
            rw [hS4_3] at Nb4_3 Na4_3 E4_3
            clear Nb4_2 Na4_2 E4_2
            have r4_4 := Nb4_3.out.cells.2.2.2.2.1
            have g4_4 := Nb4_3.out.thaw.2.2.2.2.1
            have Nb4_4 := Lib.hid (Nb4_3.out.set4 I)
            have Na4_4 := Lib.hid (Na4_3.out.other (C := w3.heap.size) (i := 4) (by omega) (.int .i64 I))
            have E4_4 := Lib.hid (below_set (C := w3.heap.size) (i := 4) E4_3.out (by omega) (.int .i64 I))
            obtain ⟨S4_4, hS4_4⟩ : ∃ W, S4_3.setCell ⟨w3.heap.size, 4, none⟩ (.int .i64 I) = W := ⟨_, rfl⟩
            rw [hS4_4] at Nb4_4 Na4_4 E4_4
            clear Nb4_3 Na4_3 E4_3
            have r4_5 := Nb4_4.out.cells.2.2.2.2.2.1
            have g4_5 := Nb4_4.out.thaw.2.2.2.2.2.1
            have Nb4_5 := Lib.hid (Nb4_4.out.set5 S)
            have Na4_5 := Lib.hid (Na4_4.out.other (C := w3.heap.size) (i := 5) (by omega) (.int .i64 S))
            have E4_5 := Lib.hid (below_set (C := w3.heap.size) (i := 5) E4_4.out (by omega) (.int .i64 S))
            obtain ⟨S4_5, hS4_5⟩ : ∃ W, S4_4.setCell ⟨w3.heap.size, 5, none⟩ (.int .i64 S) = W := ⟨_, rfl⟩
            rw [hS4_5] at Nb4_5 Na4_5 E4_5
            clear Nb4_4 Na4_4 E4_4
            have r4_6 := Nb4_5.out.cells.2.2.2.2.2.2
            have g4_6 := Nb4_5.out.thaw.2.2.2.2.2.2
            have Nb4_6 := Lib.hid (Nb4_5.out.set6 0)
            have Na4_6 := Lib.hid (Na4_5.out.other (C := w3.heap.size) (i := 6) (by omega) (.int .i64 0))
            have E4_6 := Lib.hid (below_set (C := w3.heap.size) (i := 6) E4_5.out (by omega) (.int .i64 0))
            obtain ⟨S4_6, hS4_6⟩ : ∃ W, S4_5.setCell ⟨w3.heap.size, 6, none⟩ (.int .i64 0) = W := ⟨_, rfl⟩
            rw [hS4_6] at Nb4_6 Na4_6 E4_6
            clear Nb4_5 Na4_5 E4_5
            clear Xa3 B3
            obtain ⟨c5_0, c5_1, c5_2, c5_3, c5_4, c5_5, c5_6⟩ := Na4_6.out.cells
            obtain ⟨c6_0, c6_1, c6_2, c6_3, c6_4, c6_5, c6_6⟩ := Nb4_6.out.cells
            have r7 := Na4_6.out.cells.1
            have g7 := Na4_6.out.thaw.1
            have Na7 := Lib.hid (Na4_6.out.set0 (Y + 400))
            have Nb7 := Lib.hid (Nb4_6.out.other (C := w1.heap.size) (i := 0) (by omega) (.int .i64 (Y + 400)))
            have E7 := Lib.hid (below_set (C := w1.heap.size) (i := 0) E4_6.out (by omega) (.int .i64 (Y + 400)))
            obtain ⟨S7, hS7⟩ : ∃ W, S4_6.setCell ⟨w1.heap.size, 0, none⟩ (.int .i64 (Y + 400)) = W := ⟨_, rfl⟩
            rw [hS7] at Na7 Nb7 E7
            clear Na4_6 Nb4_6 E4_6
            obtain ⟨c8_0, c8_1, c8_2, c8_3, c8_4, c8_5, c8_6⟩ := Na7.out.cells
            obtain ⟨c9_0, c9_1, c9_2, c9_3, c9_4, c9_5, c9_6⟩ := Nb7.out.cells
            go_wp2_with fail
            clear hs4 r4_0 g4_0 hS4_0 r4_1 g4_1 hS4_1 r4_2 g4_2 hS4_2 r4_3 g4_3 hS4_3 r4_4 g4_4 hS4_4 r4_5 g4_5 hS4_5 r4_6 g4_6 hS4_6 c5_0 c5_1 c5_2 c5_3 c5_4 c5_5 c5_6 c6_0 c6_1 c6_2 c6_3 c6_4 c6_5 c6_6 r7 g7 hS7 c8_0 c8_1 c8_2 c8_3 c8_4 c8_5 c8_6 c9_0 c9_1 c9_2 c9_3 c9_4 c9_5 c9_6
            refine (pwday_any t _ (by omega) (by omega)).mono ?_
            rintro e w' ⟨rfl, hw'⟩; subst w'
            rw [HR.out]
            go_wp2_with fail
            refine (pwday_any (t + 12622780800) _ (by omega) (by omega)).mono ?_
            rintro e w' ⟨rfl, hw'⟩; subst w'
            rw [HR2.out]
            go_wp2_with fail
            refine (pmjd_any (t + 12622780800) _ (by omega) (by omega)).mono ?_
            rintro e w' ⟨rfl, hw'⟩; subst w'
            rw [HJ2.out]
            go_wp2_with fail
            refine (pmjd_any t _ (by omega) (by omega)).mono ?_
            rintro e w' ⟨rfl, hw'⟩; subst w'
            rw [HJ.out]
            go_wp2_with fail
            refine (awake5_any _ (show MT S7 from HT.out.below E7.out) (show Tab S7 from HP.out.below E7.out)).mono ?_
            rintro e w10 ⟨rfl, hb⟩
            have Xa10 := Lib.hid (Na7.out.below hb Na7.out.lt)
            have Xb10 := Lib.hid (Nb7.out.below hb Nb7.out.lt)
            have B10 := Lib.hid (E7.out.trans (hb.mono E7.out.size))
            have hz10 := hb.size
            clear hb Na7 Nb7 E7
            go_wp2_with fail
            go_ret
            exact ⟨rfl, B10.out⟩
          · have C := fun h => c (e400.1 h)
            have C2 : (y.tmod 400 == 0) = false := by simpa using C
            obtain rfl : D = 365 := by rw [HY.out]; simp [yd, show isL y = false by simp [isL, a, b, c]]
            clear e4 e100 e400 a b c HY
            by_cases lo : t < -8000000000
            · go_wp2_with fail
              refine (awake5_any _ HT.out HP.out).mono ?_
              rintro e w1 ⟨rfl, hb⟩
              have B1 := Lib.hid (BB0.out.trans (hb.mono BB0.out.size))
              have hz1 := hb.size
              clear hb BB0
              go_wp2_with fail
              go_ret
              exact ⟨rfl, B1.out⟩
            have l1 : decide (t < -8000000000) = false := decide_eq_false lo
            by_cases hi : -4622780800 < t
            · go_wp2_with fail
              refine (awake5_any _ HT.out HP.out).mono ?_
              rintro e w1 ⟨rfl, hb⟩
              have B1 := Lib.hid (BB0.out.trans (hb.mono BB0.out.size))
              have hz1 := hb.size
              clear hb BB0
              go_wp2_with fail
              go_ret
              exact ⟨rfl, B1.out⟩
            have l2 : decide (-4622780800 < t) = false := decide_eq_false hi
            obtain ⟨Y, M, D, H, I, S, R, J, hO1, hO2, hR, hR2, hJ, hJ2, Y0, Y1, J0, J1⟩ := cyc_facts t (by omega) (by omega)
            have HO1 := Lib.hid hO1
            have HO2 := Lib.hid hO2
            have HR := Lib.hid hR
            have HR2 := Lib.hid hR2
            have HJ := Lib.hid hJ
            have HJ2 := Lib.hid hJ2
            clear hO1 hO2 hR hR2 hJ hJ2
            have tl : -8000000000 ≤ t := by omega
            have th : t ≤ -4622780800 := by omega
            go_wp2_with fail
            clear l1 l2 lo hi t0 t1
            refine (HO1.out _ (show MT w from HT.out.below BB0.out)).mono ?_
            rintro e w1 ⟨rfl, hb⟩
            have B1 := Lib.hid (BB0.out.trans (hb.mono BB0.out.size))
            have hz1 := hb.size
            clear hb BB0
            have Ya2 := Lib.hid (bx7_new w1 0 0 0 0 0 0 0)
            have D2 := Lib.hid (B1.out.alloc B1.out.size (.cells #[.int .i64 0, .int .i64 0, .int .i64 0, .int .i64 0, .int .i64 0, .int .i64 0, .int .i64 0] 23))
            have hs2 := B1.out.size
            have r2_0 := Ya2.out.cells.1
            have g2_0 := Ya2.out.thaw.1
            have Na2_0 := Lib.hid (Ya2.out.set0 Y)
            have E2_0 := Lib.hid (below_set (C := w1.heap.size) (i := 0) D2.out (by omega) (.int .i64 Y))
            obtain ⟨S2_0, hS2_0⟩ : ∃ W, (w1.alloc (.cells #[.int .i64 0, .int .i64 0, .int .i64 0, .int .i64 0, .int .i64 0, .int .i64 0, .int .i64 0] 23)).setCell ⟨w1.heap.size, 0, none⟩ (.int .i64 Y) = W := ⟨_, rfl⟩
            rw [hS2_0] at Na2_0 E2_0
            clear Ya2 D2
            have r2_1 := Na2_0.out.cells.2.1
            have g2_1 := Na2_0.out.thaw.2.1
            have Na2_1 := Lib.hid (Na2_0.out.set1 M)
            have E2_1 := Lib.hid (below_set (C := w1.heap.size) (i := 1) E2_0.out (by omega) (.int .i64 M))
            obtain ⟨S2_1, hS2_1⟩ : ∃ W, S2_0.setCell ⟨w1.heap.size, 1, none⟩ (.int .i64 M) = W := ⟨_, rfl⟩
            rw [hS2_1] at Na2_1 E2_1
            clear Na2_0 E2_0
            have r2_2 := Na2_1.out.cells.2.2.1
            have g2_2 := Na2_1.out.thaw.2.2.1
            have Na2_2 := Lib.hid (Na2_1.out.set2 D)
            have E2_2 := Lib.hid (below_set (C := w1.heap.size) (i := 2) E2_1.out (by omega) (.int .i64 D))
            obtain ⟨S2_2, hS2_2⟩ : ∃ W, S2_1.setCell ⟨w1.heap.size, 2, none⟩ (.int .i64 D) = W := ⟨_, rfl⟩
            rw [hS2_2] at Na2_2 E2_2
            clear Na2_1 E2_1
            have r2_3 := Na2_2.out.cells.2.2.2.1
            have g2_3 := Na2_2.out.thaw.2.2.2.1
            have Na2_3 := Lib.hid (Na2_2.out.set3 H)
            have E2_3 := Lib.hid (below_set (C := w1.heap.size) (i := 3) E2_2.out (by omega) (.int .i64 H))
            obtain ⟨S2_3, hS2_3⟩ : ∃ W, S2_2.setCell ⟨w1.heap.size, 3, none⟩ (.int .i64 H) = W := ⟨_, rfl⟩
            rw [hS2_3] at Na2_3 E2_3
            clear Na2_2 E2_2
            have r2_4 := Na2_3.out.cells.2.2.2.2.1
            have g2_4 := Na2_3.out.thaw.2.2.2.2.1
            have Na2_4 := Lib.hid (Na2_3.out.set4 I)
            have E2_4 := Lib.hid (below_set (C := w1.heap.size) (i := 4) E2_3.out (by omega) (.int .i64 I))
            obtain ⟨S2_4, hS2_4⟩ : ∃ W, S2_3.setCell ⟨w1.heap.size, 4, none⟩ (.int .i64 I) = W := ⟨_, rfl⟩
            rw [hS2_4] at Na2_4 E2_4
            clear Na2_3 E2_3
            have r2_5 := Na2_4.out.cells.2.2.2.2.2.1
            have g2_5 := Na2_4.out.thaw.2.2.2.2.2.1
            have Na2_5 := Lib.hid (Na2_4.out.set5 S)
            have E2_5 := Lib.hid (below_set (C := w1.heap.size) (i := 5) E2_4.out (by omega) (.int .i64 S))
            obtain ⟨S2_5, hS2_5⟩ : ∃ W, S2_4.setCell ⟨w1.heap.size, 5, none⟩ (.int .i64 S) = W := ⟨_, rfl⟩
            rw [hS2_5] at Na2_5 E2_5
            clear Na2_4 E2_4
            have r2_6 := Na2_5.out.cells.2.2.2.2.2.2
            have g2_6 := Na2_5.out.thaw.2.2.2.2.2.2
            have Na2_6 := Lib.hid (Na2_5.out.set6 0)
            have E2_6 := Lib.hid (below_set (C := w1.heap.size) (i := 6) E2_5.out (by omega) (.int .i64 0))
            obtain ⟨S2_6, hS2_6⟩ : ∃ W, S2_5.setCell ⟨w1.heap.size, 6, none⟩ (.int .i64 0) = W := ⟨_, rfl⟩
            rw [hS2_6] at Na2_6 E2_6
            clear Na2_5 E2_5
            clear B1
            go_wp2_with fail
            clear hs2 r2_0 g2_0 hS2_0 r2_1 g2_1 hS2_1 r2_2 g2_2 hS2_2 r2_3 g2_3 hS2_3 r2_4 g2_4 hS2_4 r2_5 g2_5 hS2_5 r2_6 g2_6 hS2_6
            refine (HO2.out _ (show MT S2_6 from HT.out.below E2_6.out)).mono ?_
            rintro e w3 ⟨rfl, hb⟩
            have Xa3 := Lib.hid (Na2_6.out.below hb Na2_6.out.lt)
            have B3 := Lib.hid (E2_6.out.trans (hb.mono E2_6.out.size))
            have hz3 := hb.size
            clear hb Na2_6 E2_6
            have Yb4 := Lib.hid (bx7_new w3 0 0 0 0 0 0 0)
            have la4 := Xa3.out.lt
            have Ya4 := Lib.hid (Xa3.out.alloc (.cells #[.int .i64 0, .int .i64 0, .int .i64 0, .int .i64 0, .int .i64 0, .int .i64 0, .int .i64 0] 23))
            have D4 := Lib.hid (B3.out.alloc B3.out.size (.cells #[.int .i64 0, .int .i64 0, .int .i64 0, .int .i64 0, .int .i64 0, .int .i64 0, .int .i64 0] 23))
            have hs4 := B3.out.size
            have r4_0 := Yb4.out.cells.1
            have g4_0 := Yb4.out.thaw.1
            have Nb4_0 := Lib.hid (Yb4.out.set0 (Y + 400))
            have Na4_0 := Lib.hid (Ya4.out.other (C := w3.heap.size) (i := 0) (by omega) (.int .i64 (Y + 400)))
            have E4_0 := Lib.hid (below_set (C := w3.heap.size) (i := 0) D4.out (by omega) (.int .i64 (Y + 400)))
            obtain ⟨S4_0, hS4_0⟩ : ∃ W, (w3.alloc (.cells #[.int .i64 0, .int .i64 0, .int .i64 0, .int .i64 0, .int .i64 0, .int .i64 0, .int .i64 0] 23)).setCell ⟨w3.heap.size, 0, none⟩ (.int .i64 (Y + 400)) = W := ⟨_, rfl⟩
            rw [hS4_0] at Nb4_0 Na4_0 E4_0
            clear Yb4 Ya4 D4
            have r4_1 := Nb4_0.out.cells.2.1
            have g4_1 := Nb4_0.out.thaw.2.1
            have Nb4_1 := Lib.hid (Nb4_0.out.set1 M)
            have Na4_1 := Lib.hid (Na4_0.out.other (C := w3.heap.size) (i := 1) (by omega) (.int .i64 M))
            have E4_1 := Lib.hid (below_set (C := w3.heap.size) (i := 1) E4_0.out (by omega) (.int .i64 M))
            obtain ⟨S4_1, hS4_1⟩ : ∃ W, S4_0.setCell ⟨w3.heap.size, 1, none⟩ (.int .i64 M) = W := ⟨_, rfl⟩
            rw [hS4_1] at Nb4_1 Na4_1 E4_1
            clear Nb4_0 Na4_0 E4_0
            have r4_2 := Nb4_1.out.cells.2.2.1
            have g4_2 := Nb4_1.out.thaw.2.2.1
            have Nb4_2 := Lib.hid (Nb4_1.out.set2 D)
            have Na4_2 := Lib.hid (Na4_1.out.other (C := w3.heap.size) (i := 2) (by omega) (.int .i64 D))
            have E4_2 := Lib.hid (below_set (C := w3.heap.size) (i := 2) E4_1.out (by omega) (.int .i64 D))
            obtain ⟨S4_2, hS4_2⟩ : ∃ W, S4_1.setCell ⟨w3.heap.size, 2, none⟩ (.int .i64 D) = W := ⟨_, rfl⟩
            rw [hS4_2] at Nb4_2 Na4_2 E4_2
            clear Nb4_1 Na4_1 E4_1
            have r4_3 := Nb4_2.out.cells.2.2.2.1
            have g4_3 := Nb4_2.out.thaw.2.2.2.1
            have Nb4_3 := Lib.hid (Nb4_2.out.set3 H)
            have Na4_3 := Lib.hid (Na4_2.out.other (C := w3.heap.size) (i := 3) (by omega) (.int .i64 H))
            have E4_3 := Lib.hid (below_set (C := w3.heap.size) (i := 3) E4_2.out (by omega) (.int .i64 H))
            obtain ⟨S4_3, hS4_3⟩ : ∃ W, S4_2.setCell ⟨w3.heap.size, 3, none⟩ (.int .i64 H) = W := ⟨_, rfl⟩
            rw [hS4_3] at Nb4_3 Na4_3 E4_3
            clear Nb4_2 Na4_2 E4_2
            have r4_4 := Nb4_3.out.cells.2.2.2.2.1
            have g4_4 := Nb4_3.out.thaw.2.2.2.2.1
            have Nb4_4 := Lib.hid (Nb4_3.out.set4 I)
            have Na4_4 := Lib.hid (Na4_3.out.other (C := w3.heap.size) (i := 4) (by omega) (.int .i64 I))
            have E4_4 := Lib.hid (below_set (C := w3.heap.size) (i := 4) E4_3.out (by omega) (.int .i64 I))
            obtain ⟨S4_4, hS4_4⟩ : ∃ W, S4_3.setCell ⟨w3.heap.size, 4, none⟩ (.int .i64 I) = W := ⟨_, rfl⟩
            rw [hS4_4] at Nb4_4 Na4_4 E4_4
            clear Nb4_3 Na4_3 E4_3
            have r4_5 := Nb4_4.out.cells.2.2.2.2.2.1
            have g4_5 := Nb4_4.out.thaw.2.2.2.2.2.1
            have Nb4_5 := Lib.hid (Nb4_4.out.set5 S)
            have Na4_5 := Lib.hid (Na4_4.out.other (C := w3.heap.size) (i := 5) (by omega) (.int .i64 S))
            have E4_5 := Lib.hid (below_set (C := w3.heap.size) (i := 5) E4_4.out (by omega) (.int .i64 S))
            obtain ⟨S4_5, hS4_5⟩ : ∃ W, S4_4.setCell ⟨w3.heap.size, 5, none⟩ (.int .i64 S) = W := ⟨_, rfl⟩
            rw [hS4_5] at Nb4_5 Na4_5 E4_5
            clear Nb4_4 Na4_4 E4_4
            have r4_6 := Nb4_5.out.cells.2.2.2.2.2.2
            have g4_6 := Nb4_5.out.thaw.2.2.2.2.2.2
            have Nb4_6 := Lib.hid (Nb4_5.out.set6 0)
            have Na4_6 := Lib.hid (Na4_5.out.other (C := w3.heap.size) (i := 6) (by omega) (.int .i64 0))
            have E4_6 := Lib.hid (below_set (C := w3.heap.size) (i := 6) E4_5.out (by omega) (.int .i64 0))
            obtain ⟨S4_6, hS4_6⟩ : ∃ W, S4_5.setCell ⟨w3.heap.size, 6, none⟩ (.int .i64 0) = W := ⟨_, rfl⟩
            rw [hS4_6] at Nb4_6 Na4_6 E4_6
            clear Nb4_5 Na4_5 E4_5
            clear Xa3 B3
            obtain ⟨c5_0, c5_1, c5_2, c5_3, c5_4, c5_5, c5_6⟩ := Na4_6.out.cells
            obtain ⟨c6_0, c6_1, c6_2, c6_3, c6_4, c6_5, c6_6⟩ := Nb4_6.out.cells
            have r7 := Na4_6.out.cells.1
            have g7 := Na4_6.out.thaw.1
            have Na7 := Lib.hid (Na4_6.out.set0 (Y + 400))
            have Nb7 := Lib.hid (Nb4_6.out.other (C := w1.heap.size) (i := 0) (by omega) (.int .i64 (Y + 400)))
            have E7 := Lib.hid (below_set (C := w1.heap.size) (i := 0) E4_6.out (by omega) (.int .i64 (Y + 400)))
            obtain ⟨S7, hS7⟩ : ∃ W, S4_6.setCell ⟨w1.heap.size, 0, none⟩ (.int .i64 (Y + 400)) = W := ⟨_, rfl⟩
            rw [hS7] at Na7 Nb7 E7
            clear Na4_6 Nb4_6 E4_6
            obtain ⟨c8_0, c8_1, c8_2, c8_3, c8_4, c8_5, c8_6⟩ := Na7.out.cells
            obtain ⟨c9_0, c9_1, c9_2, c9_3, c9_4, c9_5, c9_6⟩ := Nb7.out.cells
            go_wp2_with fail
            clear hs4 r4_0 g4_0 hS4_0 r4_1 g4_1 hS4_1 r4_2 g4_2 hS4_2 r4_3 g4_3 hS4_3 r4_4 g4_4 hS4_4 r4_5 g4_5 hS4_5 r4_6 g4_6 hS4_6 c5_0 c5_1 c5_2 c5_3 c5_4 c5_5 c5_6 c6_0 c6_1 c6_2 c6_3 c6_4 c6_5 c6_6 r7 g7 hS7 c8_0 c8_1 c8_2 c8_3 c8_4 c8_5 c8_6 c9_0 c9_1 c9_2 c9_3 c9_4 c9_5 c9_6
            refine (pwday_any t _ (by omega) (by omega)).mono ?_
            rintro e w' ⟨rfl, hw'⟩; subst w'
            rw [HR.out]
            go_wp2_with fail
            refine (pwday_any (t + 12622780800) _ (by omega) (by omega)).mono ?_
            rintro e w' ⟨rfl, hw'⟩; subst w'
            rw [HR2.out]
            go_wp2_with fail
            refine (pmjd_any (t + 12622780800) _ (by omega) (by omega)).mono ?_
            rintro e w' ⟨rfl, hw'⟩; subst w'
            rw [HJ2.out]
            go_wp2_with fail
            refine (pmjd_any t _ (by omega) (by omega)).mono ?_
            rintro e w' ⟨rfl, hw'⟩; subst w'
            rw [HJ.out]
            go_wp2_with fail
            refine (awake5_any _ (show MT S7 from HT.out.below E7.out) (show Tab S7 from HP.out.below E7.out)).mono ?_
            rintro e w10 ⟨rfl, hb⟩
            have Xa10 := Lib.hid (Na7.out.below hb Na7.out.lt)
            have Xb10 := Lib.hid (Nb7.out.below hb Nb7.out.lt)
            have B10 := Lib.hid (E7.out.trans (hb.mono E7.out.size))
            have hz10 := hb.size
            clear hb Na7 Nb7 E7
            go_wp2_with fail
            go_ret
            exact ⟨rfl, B10.out⟩
        · have B := fun h => b (e100.1 h)
          have B2 : (y.tmod 100 == 0) = false := by simpa using B
          obtain rfl : D = 366 := by rw [HY.out]; simp [yd, (isL_iff y).2 ⟨a, .inl b⟩]
          clear e4 e100 e400 a b HY
          by_cases lo : t < -8000000000
          · go_wp2_with fail
            refine (awake5_any _ HT.out HP.out).mono ?_
            rintro e w1 ⟨rfl, hb⟩
            have B1 := Lib.hid (BB0.out.trans (hb.mono BB0.out.size))
            have hz1 := hb.size
            clear hb BB0
            go_wp2_with fail
            go_ret
            exact ⟨rfl, B1.out⟩
          have l1 : decide (t < -8000000000) = false := decide_eq_false lo
          by_cases hi : -4622780800 < t
          · go_wp2_with fail
            refine (awake5_any _ HT.out HP.out).mono ?_
            rintro e w1 ⟨rfl, hb⟩
            have B1 := Lib.hid (BB0.out.trans (hb.mono BB0.out.size))
            have hz1 := hb.size
            clear hb BB0
            go_wp2_with fail
            go_ret
            exact ⟨rfl, B1.out⟩
          have l2 : decide (-4622780800 < t) = false := decide_eq_false hi
          obtain ⟨Y, M, D, H, I, S, R, J, hO1, hO2, hR, hR2, hJ, hJ2, Y0, Y1, J0, J1⟩ := cyc_facts t (by omega) (by omega)
          have HO1 := Lib.hid hO1
          have HO2 := Lib.hid hO2
          have HR := Lib.hid hR
          have HR2 := Lib.hid hR2
          have HJ := Lib.hid hJ
          have HJ2 := Lib.hid hJ2
          clear hO1 hO2 hR hR2 hJ hJ2
          have tl : -8000000000 ≤ t := by omega
          have th : t ≤ -4622780800 := by omega
          go_wp2_with fail
          clear l1 l2 lo hi t0 t1
          refine (HO1.out _ (show MT w from HT.out.below BB0.out)).mono ?_
          rintro e w1 ⟨rfl, hb⟩
          have B1 := Lib.hid (BB0.out.trans (hb.mono BB0.out.size))
          have hz1 := hb.size
          clear hb BB0
          have Ya2 := Lib.hid (bx7_new w1 0 0 0 0 0 0 0)
          have D2 := Lib.hid (B1.out.alloc B1.out.size (.cells #[.int .i64 0, .int .i64 0, .int .i64 0, .int .i64 0, .int .i64 0, .int .i64 0, .int .i64 0] 23))
          have hs2 := B1.out.size
          have r2_0 := Ya2.out.cells.1
          have g2_0 := Ya2.out.thaw.1
          have Na2_0 := Lib.hid (Ya2.out.set0 Y)
          have E2_0 := Lib.hid (below_set (C := w1.heap.size) (i := 0) D2.out (by omega) (.int .i64 Y))
          obtain ⟨S2_0, hS2_0⟩ : ∃ W, (w1.alloc (.cells #[.int .i64 0, .int .i64 0, .int .i64 0, .int .i64 0, .int .i64 0, .int .i64 0, .int .i64 0] 23)).setCell ⟨w1.heap.size, 0, none⟩ (.int .i64 Y) = W := ⟨_, rfl⟩
          rw [hS2_0] at Na2_0 E2_0
          clear Ya2 D2
          have r2_1 := Na2_0.out.cells.2.1
          have g2_1 := Na2_0.out.thaw.2.1
          have Na2_1 := Lib.hid (Na2_0.out.set1 M)
          have E2_1 := Lib.hid (below_set (C := w1.heap.size) (i := 1) E2_0.out (by omega) (.int .i64 M))
          obtain ⟨S2_1, hS2_1⟩ : ∃ W, S2_0.setCell ⟨w1.heap.size, 1, none⟩ (.int .i64 M) = W := ⟨_, rfl⟩
          rw [hS2_1] at Na2_1 E2_1
          clear Na2_0 E2_0
          have r2_2 := Na2_1.out.cells.2.2.1
          have g2_2 := Na2_1.out.thaw.2.2.1
          have Na2_2 := Lib.hid (Na2_1.out.set2 D)
          have E2_2 := Lib.hid (below_set (C := w1.heap.size) (i := 2) E2_1.out (by omega) (.int .i64 D))
          obtain ⟨S2_2, hS2_2⟩ : ∃ W, S2_1.setCell ⟨w1.heap.size, 2, none⟩ (.int .i64 D) = W := ⟨_, rfl⟩
          rw [hS2_2] at Na2_2 E2_2
          clear Na2_1 E2_1
          have r2_3 := Na2_2.out.cells.2.2.2.1
          have g2_3 := Na2_2.out.thaw.2.2.2.1
          have Na2_3 := Lib.hid (Na2_2.out.set3 H)
          have E2_3 := Lib.hid (below_set (C := w1.heap.size) (i := 3) E2_2.out (by omega) (.int .i64 H))
          obtain ⟨S2_3, hS2_3⟩ : ∃ W, S2_2.setCell ⟨w1.heap.size, 3, none⟩ (.int .i64 H) = W := ⟨_, rfl⟩
          rw [hS2_3] at Na2_3 E2_3
          clear Na2_2 E2_2
          have r2_4 := Na2_3.out.cells.2.2.2.2.1
          have g2_4 := Na2_3.out.thaw.2.2.2.2.1
          have Na2_4 := Lib.hid (Na2_3.out.set4 I)
          have E2_4 := Lib.hid (below_set (C := w1.heap.size) (i := 4) E2_3.out (by omega) (.int .i64 I))
          obtain ⟨S2_4, hS2_4⟩ : ∃ W, S2_3.setCell ⟨w1.heap.size, 4, none⟩ (.int .i64 I) = W := ⟨_, rfl⟩
          rw [hS2_4] at Na2_4 E2_4
          clear Na2_3 E2_3
          have r2_5 := Na2_4.out.cells.2.2.2.2.2.1
          have g2_5 := Na2_4.out.thaw.2.2.2.2.2.1
          have Na2_5 := Lib.hid (Na2_4.out.set5 S)
          have E2_5 := Lib.hid (below_set (C := w1.heap.size) (i := 5) E2_4.out (by omega) (.int .i64 S))
          obtain ⟨S2_5, hS2_5⟩ : ∃ W, S2_4.setCell ⟨w1.heap.size, 5, none⟩ (.int .i64 S) = W := ⟨_, rfl⟩
          rw [hS2_5] at Na2_5 E2_5
          clear Na2_4 E2_4
          have r2_6 := Na2_5.out.cells.2.2.2.2.2.2
          have g2_6 := Na2_5.out.thaw.2.2.2.2.2.2
          have Na2_6 := Lib.hid (Na2_5.out.set6 0)
          have E2_6 := Lib.hid (below_set (C := w1.heap.size) (i := 6) E2_5.out (by omega) (.int .i64 0))
          obtain ⟨S2_6, hS2_6⟩ : ∃ W, S2_5.setCell ⟨w1.heap.size, 6, none⟩ (.int .i64 0) = W := ⟨_, rfl⟩
          rw [hS2_6] at Na2_6 E2_6
          clear Na2_5 E2_5
          clear B1
          go_wp2_with fail
          clear hs2 r2_0 g2_0 hS2_0 r2_1 g2_1 hS2_1 r2_2 g2_2 hS2_2 r2_3 g2_3 hS2_3 r2_4 g2_4 hS2_4 r2_5 g2_5 hS2_5 r2_6 g2_6 hS2_6
          refine (HO2.out _ (show MT S2_6 from HT.out.below E2_6.out)).mono ?_
          rintro e w3 ⟨rfl, hb⟩
          have Xa3 := Lib.hid (Na2_6.out.below hb Na2_6.out.lt)
          have B3 := Lib.hid (E2_6.out.trans (hb.mono E2_6.out.size))
          have hz3 := hb.size
          clear hb Na2_6 E2_6
          have Yb4 := Lib.hid (bx7_new w3 0 0 0 0 0 0 0)
          have la4 := Xa3.out.lt
          have Ya4 := Lib.hid (Xa3.out.alloc (.cells #[.int .i64 0, .int .i64 0, .int .i64 0, .int .i64 0, .int .i64 0, .int .i64 0, .int .i64 0] 23))
          have D4 := Lib.hid (B3.out.alloc B3.out.size (.cells #[.int .i64 0, .int .i64 0, .int .i64 0, .int .i64 0, .int .i64 0, .int .i64 0, .int .i64 0] 23))
          have hs4 := B3.out.size
          have r4_0 := Yb4.out.cells.1
          have g4_0 := Yb4.out.thaw.1
          have Nb4_0 := Lib.hid (Yb4.out.set0 (Y + 400))
          have Na4_0 := Lib.hid (Ya4.out.other (C := w3.heap.size) (i := 0) (by omega) (.int .i64 (Y + 400)))
          have E4_0 := Lib.hid (below_set (C := w3.heap.size) (i := 0) D4.out (by omega) (.int .i64 (Y + 400)))
          obtain ⟨S4_0, hS4_0⟩ : ∃ W, (w3.alloc (.cells #[.int .i64 0, .int .i64 0, .int .i64 0, .int .i64 0, .int .i64 0, .int .i64 0, .int .i64 0] 23)).setCell ⟨w3.heap.size, 0, none⟩ (.int .i64 (Y + 400)) = W := ⟨_, rfl⟩
          rw [hS4_0] at Nb4_0 Na4_0 E4_0
          clear Yb4 Ya4 D4
          have r4_1 := Nb4_0.out.cells.2.1
          have g4_1 := Nb4_0.out.thaw.2.1
          have Nb4_1 := Lib.hid (Nb4_0.out.set1 M)
          have Na4_1 := Lib.hid (Na4_0.out.other (C := w3.heap.size) (i := 1) (by omega) (.int .i64 M))
          have E4_1 := Lib.hid (below_set (C := w3.heap.size) (i := 1) E4_0.out (by omega) (.int .i64 M))
          obtain ⟨S4_1, hS4_1⟩ : ∃ W, S4_0.setCell ⟨w3.heap.size, 1, none⟩ (.int .i64 M) = W := ⟨_, rfl⟩
          rw [hS4_1] at Nb4_1 Na4_1 E4_1
          clear Nb4_0 Na4_0 E4_0
          have r4_2 := Nb4_1.out.cells.2.2.1
          have g4_2 := Nb4_1.out.thaw.2.2.1
          have Nb4_2 := Lib.hid (Nb4_1.out.set2 D)
          have Na4_2 := Lib.hid (Na4_1.out.other (C := w3.heap.size) (i := 2) (by omega) (.int .i64 D))
          have E4_2 := Lib.hid (below_set (C := w3.heap.size) (i := 2) E4_1.out (by omega) (.int .i64 D))
          obtain ⟨S4_2, hS4_2⟩ : ∃ W, S4_1.setCell ⟨w3.heap.size, 2, none⟩ (.int .i64 D) = W := ⟨_, rfl⟩
          rw [hS4_2] at Nb4_2 Na4_2 E4_2
          clear Nb4_1 Na4_1 E4_1
          have r4_3 := Nb4_2.out.cells.2.2.2.1
          have g4_3 := Nb4_2.out.thaw.2.2.2.1
          have Nb4_3 := Lib.hid (Nb4_2.out.set3 H)
          have Na4_3 := Lib.hid (Na4_2.out.other (C := w3.heap.size) (i := 3) (by omega) (.int .i64 H))
          have E4_3 := Lib.hid (below_set (C := w3.heap.size) (i := 3) E4_2.out (by omega) (.int .i64 H))
          obtain ⟨S4_3, hS4_3⟩ : ∃ W, S4_2.setCell ⟨w3.heap.size, 3, none⟩ (.int .i64 H) = W := ⟨_, rfl⟩
          rw [hS4_3] at Nb4_3 Na4_3 E4_3
          clear Nb4_2 Na4_2 E4_2
          have r4_4 := Nb4_3.out.cells.2.2.2.2.1
          have g4_4 := Nb4_3.out.thaw.2.2.2.2.1
          have Nb4_4 := Lib.hid (Nb4_3.out.set4 I)
          have Na4_4 := Lib.hid (Na4_3.out.other (C := w3.heap.size) (i := 4) (by omega) (.int .i64 I))
          have E4_4 := Lib.hid (below_set (C := w3.heap.size) (i := 4) E4_3.out (by omega) (.int .i64 I))
          obtain ⟨S4_4, hS4_4⟩ : ∃ W, S4_3.setCell ⟨w3.heap.size, 4, none⟩ (.int .i64 I) = W := ⟨_, rfl⟩
          rw [hS4_4] at Nb4_4 Na4_4 E4_4
          clear Nb4_3 Na4_3 E4_3
          have r4_5 := Nb4_4.out.cells.2.2.2.2.2.1
          have g4_5 := Nb4_4.out.thaw.2.2.2.2.2.1
          have Nb4_5 := Lib.hid (Nb4_4.out.set5 S)
          have Na4_5 := Lib.hid (Na4_4.out.other (C := w3.heap.size) (i := 5) (by omega) (.int .i64 S))
          have E4_5 := Lib.hid (below_set (C := w3.heap.size) (i := 5) E4_4.out (by omega) (.int .i64 S))
          obtain ⟨S4_5, hS4_5⟩ : ∃ W, S4_4.setCell ⟨w3.heap.size, 5, none⟩ (.int .i64 S) = W := ⟨_, rfl⟩
          rw [hS4_5] at Nb4_5 Na4_5 E4_5
          clear Nb4_4 Na4_4 E4_4
          have r4_6 := Nb4_5.out.cells.2.2.2.2.2.2
          have g4_6 := Nb4_5.out.thaw.2.2.2.2.2.2
          have Nb4_6 := Lib.hid (Nb4_5.out.set6 0)
          have Na4_6 := Lib.hid (Na4_5.out.other (C := w3.heap.size) (i := 6) (by omega) (.int .i64 0))
          have E4_6 := Lib.hid (below_set (C := w3.heap.size) (i := 6) E4_5.out (by omega) (.int .i64 0))
          obtain ⟨S4_6, hS4_6⟩ : ∃ W, S4_5.setCell ⟨w3.heap.size, 6, none⟩ (.int .i64 0) = W := ⟨_, rfl⟩
          rw [hS4_6] at Nb4_6 Na4_6 E4_6
          clear Nb4_5 Na4_5 E4_5
          clear Xa3 B3
          obtain ⟨c5_0, c5_1, c5_2, c5_3, c5_4, c5_5, c5_6⟩ := Na4_6.out.cells
          obtain ⟨c6_0, c6_1, c6_2, c6_3, c6_4, c6_5, c6_6⟩ := Nb4_6.out.cells
          have r7 := Na4_6.out.cells.1
          have g7 := Na4_6.out.thaw.1
          have Na7 := Lib.hid (Na4_6.out.set0 (Y + 400))
          have Nb7 := Lib.hid (Nb4_6.out.other (C := w1.heap.size) (i := 0) (by omega) (.int .i64 (Y + 400)))
          have E7 := Lib.hid (below_set (C := w1.heap.size) (i := 0) E4_6.out (by omega) (.int .i64 (Y + 400)))
          obtain ⟨S7, hS7⟩ : ∃ W, S4_6.setCell ⟨w1.heap.size, 0, none⟩ (.int .i64 (Y + 400)) = W := ⟨_, rfl⟩
          rw [hS7] at Na7 Nb7 E7
          clear Na4_6 Nb4_6 E4_6
          obtain ⟨c8_0, c8_1, c8_2, c8_3, c8_4, c8_5, c8_6⟩ := Na7.out.cells
          obtain ⟨c9_0, c9_1, c9_2, c9_3, c9_4, c9_5, c9_6⟩ := Nb7.out.cells
          go_wp2_with fail
          clear hs4 r4_0 g4_0 hS4_0 r4_1 g4_1 hS4_1 r4_2 g4_2 hS4_2 r4_3 g4_3 hS4_3 r4_4 g4_4 hS4_4 r4_5 g4_5 hS4_5 r4_6 g4_6 hS4_6 c5_0 c5_1 c5_2 c5_3 c5_4 c5_5 c5_6 c6_0 c6_1 c6_2 c6_3 c6_4 c6_5 c6_6 r7 g7 hS7 c8_0 c8_1 c8_2 c8_3 c8_4 c8_5 c8_6 c9_0 c9_1 c9_2 c9_3 c9_4 c9_5 c9_6
          refine (pwday_any t _ (by omega) (by omega)).mono ?_
          rintro e w' ⟨rfl, hw'⟩; subst w'
          rw [HR.out]
          go_wp2_with fail
          refine (pwday_any (t + 12622780800) _ (by omega) (by omega)).mono ?_
          rintro e w' ⟨rfl, hw'⟩; subst w'
          rw [HR2.out]
          go_wp2_with fail
          refine (pmjd_any (t + 12622780800) _ (by omega) (by omega)).mono ?_
          rintro e w' ⟨rfl, hw'⟩; subst w'
          rw [HJ2.out]
          go_wp2_with fail
          refine (pmjd_any t _ (by omega) (by omega)).mono ?_
          rintro e w' ⟨rfl, hw'⟩; subst w'
          rw [HJ.out]
          go_wp2_with fail
          refine (awake5_any _ (show MT S7 from HT.out.below E7.out) (show Tab S7 from HP.out.below E7.out)).mono ?_
          rintro e w10 ⟨rfl, hb⟩
          have Xa10 := Lib.hid (Na7.out.below hb Na7.out.lt)
          have Xb10 := Lib.hid (Nb7.out.below hb Nb7.out.lt)
          have B10 := Lib.hid (E7.out.trans (hb.mono E7.out.size))
          have hz10 := hb.size
          clear hb Na7 Nb7 E7
          go_wp2_with fail
          go_ret
          exact ⟨rfl, B10.out⟩
      · have A := fun h => a (e4.1 h)
        have A2 : (y.tmod 4 == 0) = false := by simpa using A
        obtain rfl : D = 365 := by rw [HY.out]; simp [yd, show isL y = false by simp [isL, a]]
        clear e4 e100 e400 a HY
        by_cases lo : t < -8000000000
        · go_wp2_with fail
          refine (awake5_any _ HT.out HP.out).mono ?_
          rintro e w1 ⟨rfl, hb⟩
          have B1 := Lib.hid (BB0.out.trans (hb.mono BB0.out.size))
          have hz1 := hb.size
          clear hb BB0
          go_wp2_with fail
          go_ret
          exact ⟨rfl, B1.out⟩
        have l1 : decide (t < -8000000000) = false := decide_eq_false lo
        by_cases hi : -4622780800 < t
        · go_wp2_with fail
          refine (awake5_any _ HT.out HP.out).mono ?_
          rintro e w1 ⟨rfl, hb⟩
          have B1 := Lib.hid (BB0.out.trans (hb.mono BB0.out.size))
          have hz1 := hb.size
          clear hb BB0
          go_wp2_with fail
          go_ret
          exact ⟨rfl, B1.out⟩
        have l2 : decide (-4622780800 < t) = false := decide_eq_false hi
        obtain ⟨Y, M, D, H, I, S, R, J, hO1, hO2, hR, hR2, hJ, hJ2, Y0, Y1, J0, J1⟩ := cyc_facts t (by omega) (by omega)
        have HO1 := Lib.hid hO1
        have HO2 := Lib.hid hO2
        have HR := Lib.hid hR
        have HR2 := Lib.hid hR2
        have HJ := Lib.hid hJ
        have HJ2 := Lib.hid hJ2
        clear hO1 hO2 hR hR2 hJ hJ2
        have tl : -8000000000 ≤ t := by omega
        have th : t ≤ -4622780800 := by omega
        go_wp2_with fail
        clear l1 l2 lo hi t0 t1
        refine (HO1.out _ (show MT w from HT.out.below BB0.out)).mono ?_
        rintro e w1 ⟨rfl, hb⟩
        have B1 := Lib.hid (BB0.out.trans (hb.mono BB0.out.size))
        have hz1 := hb.size
        clear hb BB0
        have Ya2 := Lib.hid (bx7_new w1 0 0 0 0 0 0 0)
        have D2 := Lib.hid (B1.out.alloc B1.out.size (.cells #[.int .i64 0, .int .i64 0, .int .i64 0, .int .i64 0, .int .i64 0, .int .i64 0, .int .i64 0] 23))
        have hs2 := B1.out.size
        have r2_0 := Ya2.out.cells.1
        have g2_0 := Ya2.out.thaw.1
        have Na2_0 := Lib.hid (Ya2.out.set0 Y)
        have E2_0 := Lib.hid (below_set (C := w1.heap.size) (i := 0) D2.out (by omega) (.int .i64 Y))
        obtain ⟨S2_0, hS2_0⟩ : ∃ W, (w1.alloc (.cells #[.int .i64 0, .int .i64 0, .int .i64 0, .int .i64 0, .int .i64 0, .int .i64 0, .int .i64 0] 23)).setCell ⟨w1.heap.size, 0, none⟩ (.int .i64 Y) = W := ⟨_, rfl⟩
        rw [hS2_0] at Na2_0 E2_0
        clear Ya2 D2
        have r2_1 := Na2_0.out.cells.2.1
        have g2_1 := Na2_0.out.thaw.2.1
        have Na2_1 := Lib.hid (Na2_0.out.set1 M)
        have E2_1 := Lib.hid (below_set (C := w1.heap.size) (i := 1) E2_0.out (by omega) (.int .i64 M))
        obtain ⟨S2_1, hS2_1⟩ : ∃ W, S2_0.setCell ⟨w1.heap.size, 1, none⟩ (.int .i64 M) = W := ⟨_, rfl⟩
        rw [hS2_1] at Na2_1 E2_1
        clear Na2_0 E2_0
        have r2_2 := Na2_1.out.cells.2.2.1
        have g2_2 := Na2_1.out.thaw.2.2.1
        have Na2_2 := Lib.hid (Na2_1.out.set2 D)
        have E2_2 := Lib.hid (below_set (C := w1.heap.size) (i := 2) E2_1.out (by omega) (.int .i64 D))
        obtain ⟨S2_2, hS2_2⟩ : ∃ W, S2_1.setCell ⟨w1.heap.size, 2, none⟩ (.int .i64 D) = W := ⟨_, rfl⟩
        rw [hS2_2] at Na2_2 E2_2
        clear Na2_1 E2_1
        have r2_3 := Na2_2.out.cells.2.2.2.1
        have g2_3 := Na2_2.out.thaw.2.2.2.1
        have Na2_3 := Lib.hid (Na2_2.out.set3 H)
        have E2_3 := Lib.hid (below_set (C := w1.heap.size) (i := 3) E2_2.out (by omega) (.int .i64 H))
        obtain ⟨S2_3, hS2_3⟩ : ∃ W, S2_2.setCell ⟨w1.heap.size, 3, none⟩ (.int .i64 H) = W := ⟨_, rfl⟩
        rw [hS2_3] at Na2_3 E2_3
        clear Na2_2 E2_2
        have r2_4 := Na2_3.out.cells.2.2.2.2.1
        have g2_4 := Na2_3.out.thaw.2.2.2.2.1
        have Na2_4 := Lib.hid (Na2_3.out.set4 I)
        have E2_4 := Lib.hid (below_set (C := w1.heap.size) (i := 4) E2_3.out (by omega) (.int .i64 I))
        obtain ⟨S2_4, hS2_4⟩ : ∃ W, S2_3.setCell ⟨w1.heap.size, 4, none⟩ (.int .i64 I) = W := ⟨_, rfl⟩
        rw [hS2_4] at Na2_4 E2_4
        clear Na2_3 E2_3
        have r2_5 := Na2_4.out.cells.2.2.2.2.2.1
        have g2_5 := Na2_4.out.thaw.2.2.2.2.2.1
        have Na2_5 := Lib.hid (Na2_4.out.set5 S)
        have E2_5 := Lib.hid (below_set (C := w1.heap.size) (i := 5) E2_4.out (by omega) (.int .i64 S))
        obtain ⟨S2_5, hS2_5⟩ : ∃ W, S2_4.setCell ⟨w1.heap.size, 5, none⟩ (.int .i64 S) = W := ⟨_, rfl⟩
        rw [hS2_5] at Na2_5 E2_5
        clear Na2_4 E2_4
        have r2_6 := Na2_5.out.cells.2.2.2.2.2.2
        have g2_6 := Na2_5.out.thaw.2.2.2.2.2.2
        have Na2_6 := Lib.hid (Na2_5.out.set6 0)
        have E2_6 := Lib.hid (below_set (C := w1.heap.size) (i := 6) E2_5.out (by omega) (.int .i64 0))
        obtain ⟨S2_6, hS2_6⟩ : ∃ W, S2_5.setCell ⟨w1.heap.size, 6, none⟩ (.int .i64 0) = W := ⟨_, rfl⟩
        rw [hS2_6] at Na2_6 E2_6
        clear Na2_5 E2_5
        clear B1
        go_wp2_with fail
        clear hs2 r2_0 g2_0 hS2_0 r2_1 g2_1 hS2_1 r2_2 g2_2 hS2_2 r2_3 g2_3 hS2_3 r2_4 g2_4 hS2_4 r2_5 g2_5 hS2_5 r2_6 g2_6 hS2_6
        refine (HO2.out _ (show MT S2_6 from HT.out.below E2_6.out)).mono ?_
        rintro e w3 ⟨rfl, hb⟩
        have Xa3 := Lib.hid (Na2_6.out.below hb Na2_6.out.lt)
        have B3 := Lib.hid (E2_6.out.trans (hb.mono E2_6.out.size))
        have hz3 := hb.size
        clear hb Na2_6 E2_6
        have Yb4 := Lib.hid (bx7_new w3 0 0 0 0 0 0 0)
        have la4 := Xa3.out.lt
        have Ya4 := Lib.hid (Xa3.out.alloc (.cells #[.int .i64 0, .int .i64 0, .int .i64 0, .int .i64 0, .int .i64 0, .int .i64 0, .int .i64 0] 23))
        have D4 := Lib.hid (B3.out.alloc B3.out.size (.cells #[.int .i64 0, .int .i64 0, .int .i64 0, .int .i64 0, .int .i64 0, .int .i64 0, .int .i64 0] 23))
        have hs4 := B3.out.size
        have r4_0 := Yb4.out.cells.1
        have g4_0 := Yb4.out.thaw.1
        have Nb4_0 := Lib.hid (Yb4.out.set0 (Y + 400))
        have Na4_0 := Lib.hid (Ya4.out.other (C := w3.heap.size) (i := 0) (by omega) (.int .i64 (Y + 400)))
        have E4_0 := Lib.hid (below_set (C := w3.heap.size) (i := 0) D4.out (by omega) (.int .i64 (Y + 400)))
        obtain ⟨S4_0, hS4_0⟩ : ∃ W, (w3.alloc (.cells #[.int .i64 0, .int .i64 0, .int .i64 0, .int .i64 0, .int .i64 0, .int .i64 0, .int .i64 0] 23)).setCell ⟨w3.heap.size, 0, none⟩ (.int .i64 (Y + 400)) = W := ⟨_, rfl⟩
        rw [hS4_0] at Nb4_0 Na4_0 E4_0
        clear Yb4 Ya4 D4
        have r4_1 := Nb4_0.out.cells.2.1
        have g4_1 := Nb4_0.out.thaw.2.1
        have Nb4_1 := Lib.hid (Nb4_0.out.set1 M)
        have Na4_1 := Lib.hid (Na4_0.out.other (C := w3.heap.size) (i := 1) (by omega) (.int .i64 M))
        have E4_1 := Lib.hid (below_set (C := w3.heap.size) (i := 1) E4_0.out (by omega) (.int .i64 M))
        obtain ⟨S4_1, hS4_1⟩ : ∃ W, S4_0.setCell ⟨w3.heap.size, 1, none⟩ (.int .i64 M) = W := ⟨_, rfl⟩
        rw [hS4_1] at Nb4_1 Na4_1 E4_1
        clear Nb4_0 Na4_0 E4_0
        have r4_2 := Nb4_1.out.cells.2.2.1
        have g4_2 := Nb4_1.out.thaw.2.2.1
        have Nb4_2 := Lib.hid (Nb4_1.out.set2 D)
        have Na4_2 := Lib.hid (Na4_1.out.other (C := w3.heap.size) (i := 2) (by omega) (.int .i64 D))
        have E4_2 := Lib.hid (below_set (C := w3.heap.size) (i := 2) E4_1.out (by omega) (.int .i64 D))
        obtain ⟨S4_2, hS4_2⟩ : ∃ W, S4_1.setCell ⟨w3.heap.size, 2, none⟩ (.int .i64 D) = W := ⟨_, rfl⟩
        rw [hS4_2] at Nb4_2 Na4_2 E4_2
        clear Nb4_1 Na4_1 E4_1
        have r4_3 := Nb4_2.out.cells.2.2.2.1
        have g4_3 := Nb4_2.out.thaw.2.2.2.1
        have Nb4_3 := Lib.hid (Nb4_2.out.set3 H)
        have Na4_3 := Lib.hid (Na4_2.out.other (C := w3.heap.size) (i := 3) (by omega) (.int .i64 H))
        have E4_3 := Lib.hid (below_set (C := w3.heap.size) (i := 3) E4_2.out (by omega) (.int .i64 H))
        obtain ⟨S4_3, hS4_3⟩ : ∃ W, S4_2.setCell ⟨w3.heap.size, 3, none⟩ (.int .i64 H) = W := ⟨_, rfl⟩
        rw [hS4_3] at Nb4_3 Na4_3 E4_3
        clear Nb4_2 Na4_2 E4_2
        have r4_4 := Nb4_3.out.cells.2.2.2.2.1
        have g4_4 := Nb4_3.out.thaw.2.2.2.2.1
        have Nb4_4 := Lib.hid (Nb4_3.out.set4 I)
        have Na4_4 := Lib.hid (Na4_3.out.other (C := w3.heap.size) (i := 4) (by omega) (.int .i64 I))
        have E4_4 := Lib.hid (below_set (C := w3.heap.size) (i := 4) E4_3.out (by omega) (.int .i64 I))
        obtain ⟨S4_4, hS4_4⟩ : ∃ W, S4_3.setCell ⟨w3.heap.size, 4, none⟩ (.int .i64 I) = W := ⟨_, rfl⟩
        rw [hS4_4] at Nb4_4 Na4_4 E4_4
        clear Nb4_3 Na4_3 E4_3
        have r4_5 := Nb4_4.out.cells.2.2.2.2.2.1
        have g4_5 := Nb4_4.out.thaw.2.2.2.2.2.1
        have Nb4_5 := Lib.hid (Nb4_4.out.set5 S)
        have Na4_5 := Lib.hid (Na4_4.out.other (C := w3.heap.size) (i := 5) (by omega) (.int .i64 S))
        have E4_5 := Lib.hid (below_set (C := w3.heap.size) (i := 5) E4_4.out (by omega) (.int .i64 S))
        obtain ⟨S4_5, hS4_5⟩ : ∃ W, S4_4.setCell ⟨w3.heap.size, 5, none⟩ (.int .i64 S) = W := ⟨_, rfl⟩
        rw [hS4_5] at Nb4_5 Na4_5 E4_5
        clear Nb4_4 Na4_4 E4_4
        have r4_6 := Nb4_5.out.cells.2.2.2.2.2.2
        have g4_6 := Nb4_5.out.thaw.2.2.2.2.2.2
        have Nb4_6 := Lib.hid (Nb4_5.out.set6 0)
        have Na4_6 := Lib.hid (Na4_5.out.other (C := w3.heap.size) (i := 6) (by omega) (.int .i64 0))
        have E4_6 := Lib.hid (below_set (C := w3.heap.size) (i := 6) E4_5.out (by omega) (.int .i64 0))
        obtain ⟨S4_6, hS4_6⟩ : ∃ W, S4_5.setCell ⟨w3.heap.size, 6, none⟩ (.int .i64 0) = W := ⟨_, rfl⟩
        rw [hS4_6] at Nb4_6 Na4_6 E4_6
        clear Nb4_5 Na4_5 E4_5
        clear Xa3 B3
        obtain ⟨c5_0, c5_1, c5_2, c5_3, c5_4, c5_5, c5_6⟩ := Na4_6.out.cells
        obtain ⟨c6_0, c6_1, c6_2, c6_3, c6_4, c6_5, c6_6⟩ := Nb4_6.out.cells
        have r7 := Na4_6.out.cells.1
        have g7 := Na4_6.out.thaw.1
        have Na7 := Lib.hid (Na4_6.out.set0 (Y + 400))
        have Nb7 := Lib.hid (Nb4_6.out.other (C := w1.heap.size) (i := 0) (by omega) (.int .i64 (Y + 400)))
        have E7 := Lib.hid (below_set (C := w1.heap.size) (i := 0) E4_6.out (by omega) (.int .i64 (Y + 400)))
        obtain ⟨S7, hS7⟩ : ∃ W, S4_6.setCell ⟨w1.heap.size, 0, none⟩ (.int .i64 (Y + 400)) = W := ⟨_, rfl⟩
        rw [hS7] at Na7 Nb7 E7
        clear Na4_6 Nb4_6 E4_6
        obtain ⟨c8_0, c8_1, c8_2, c8_3, c8_4, c8_5, c8_6⟩ := Na7.out.cells
        obtain ⟨c9_0, c9_1, c9_2, c9_3, c9_4, c9_5, c9_6⟩ := Nb7.out.cells
        go_wp2_with fail
        clear hs4 r4_0 g4_0 hS4_0 r4_1 g4_1 hS4_1 r4_2 g4_2 hS4_2 r4_3 g4_3 hS4_3 r4_4 g4_4 hS4_4 r4_5 g4_5 hS4_5 r4_6 g4_6 hS4_6 c5_0 c5_1 c5_2 c5_3 c5_4 c5_5 c5_6 c6_0 c6_1 c6_2 c6_3 c6_4 c6_5 c6_6 r7 g7 hS7 c8_0 c8_1 c8_2 c8_3 c8_4 c8_5 c8_6 c9_0 c9_1 c9_2 c9_3 c9_4 c9_5 c9_6
        refine (pwday_any t _ (by omega) (by omega)).mono ?_
        rintro e w' ⟨rfl, hw'⟩; subst w'
        rw [HR.out]
        go_wp2_with fail
        refine (pwday_any (t + 12622780800) _ (by omega) (by omega)).mono ?_
        rintro e w' ⟨rfl, hw'⟩; subst w'
        rw [HR2.out]
        go_wp2_with fail
        refine (pmjd_any (t + 12622780800) _ (by omega) (by omega)).mono ?_
        rintro e w' ⟨rfl, hw'⟩; subst w'
        rw [HJ2.out]
        go_wp2_with fail
        refine (pmjd_any t _ (by omega) (by omega)).mono ?_
        rintro e w' ⟨rfl, hw'⟩; subst w'
        rw [HJ.out]
        go_wp2_with fail
        refine (awake5_any _ (show MT S7 from HT.out.below E7.out) (show Tab S7 from HP.out.below E7.out)).mono ?_
        rintro e w10 ⟨rfl, hb⟩
        have Xa10 := Lib.hid (Na7.out.below hb Na7.out.lt)
        have Xb10 := Lib.hid (Nb7.out.below hb Nb7.out.lt)
        have B10 := Lib.hid (E7.out.trans (hb.mono E7.out.size))
        have hz10 := hb.size
        clear hb Na7 Nb7 E7
        go_wp2_with fail
        go_ret
        exact ⟨rfl, B10.out⟩
end Go.Proofs.YtnhaflnlhcabpaaDoor
