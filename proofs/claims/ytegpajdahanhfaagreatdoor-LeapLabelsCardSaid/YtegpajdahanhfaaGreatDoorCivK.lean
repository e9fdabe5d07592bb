/- Contracts of layer 5: the program's Check, dateOf, Of, Seconds. -/
import Derived.Test.YtegpajdahanhfaaGreatDoorCivJ
import Derived.Test.YtegpajdahanhfaaGreatDoorCivI
namespace Go.Proofs.YtegpajdahanhfaaGreatDoor
open Go.RowKit Fx Cv

theorem Cv.MT.drewN {w : World} (h : MT w) (k : Nat) : MT (w.drewN k) := h
/-- The date and the time of day of a civil time are right. -/
def Cv.dateB (y m d : Int) : Bool := decide (1600 ≤ y ∧ y ≤ 2200 ∧ 1 ≤ m ∧ m ≤ 12 ∧ 1 ≤ d ∧ d ≤ md y m)
def Cv.timeB (hh mi s n : Int) : Bool := decide (0 ≤ hh ∧ hh ≤ 23 ∧ 0 ≤ mi ∧ mi ≤ 59 ∧ 0 ≤ s ∧ s ≤ 59 ∧ 0 ≤ n ∧ n ≤ 999999999)
theorem Cv.date_time (y m d hh mi s n : Int) : okC y m d hh mi s n = (dateB y m d && timeB hh mi s n) := by
  unfold okC dateB timeB; rw [← Bool.decide_and]; apply decide_eq_decide.2; constructor <;> intro h <;> omega

theorem Cv.flo_pos (x : Int) {k : Int} (h : 0 < k) : flo x k = x / k := by unfold flo; rw [if_pos h]
theorem Cv.cy_lt {q Y : Int} (h : q < ys Y) : cy q < Y := by
  rcases Int.lt_or_le (cy q) Y with h2 | h2
  · exact h2
  · have := ys_mono h2; have := (cy_in q).1; omega
theorem Cv.cy_ge {q Y : Int} (h : ys Y ≤ q) : Y ≤ cy q := by
  rcases Int.lt_or_le (cy q) Y with h2 | h2
  · have := ys_mono (y := cy q + 1) (z := Y) (by omega); have := (cy_in q).2; omega
  · exact h2
theorem Cv.cy_bound {q : Int} (q0 : -93000 ≤ q) (q1 : q ≤ 93000) : 1600 ≤ cy q ∧ cy q ≤ 2200 :=
  ⟨cy_ge (by rw [ys_1600]; omega), by have := cy_lt (q := q) (Y := 2200) (by rw [ys_2200]; omega); omega⟩
theorem Cv.date_end {q Y M D : Int} (h : D + ys Y + ms Y M = q) (h0 : 0 ≤ D) (h1 : D < md Y M) (m0 : 1 ≤ M) (m1 : M ≤ 12) : cy q = Y ∧ cm q = M ∧ cd q = D + 1 := by
  have hd : Dat Y M (D + 1) := ⟨m0, m1, by omega, by omega⟩
  have hn : num Y M (D + 1) = q := by simp only [num]; omega
  have := civ_num hd
  rw [hn] at this
  exact this

set_option maxRecDepth 100000 in
set_option maxHeartbeats 1000000 in
theorem dateof_any (q : Int) (w : World) (ht : MT w) (q0 : -93000 ≤ q) (q1 : q ≤ 93000) :
    Calls Tryz.prog 50 #[.int .i64 q] w fun e w' => e = .returned (.agg #[.int .i64 (cy q), .int .i64 (cm q), .int .i64 (cd q), .int .i64 0, .int .i64 0, .int .i64 0, .int .i64 0]) ∧ Below w.heap.size w w' := by
  have X0 := Lib.hid (bx7_new w 0 0 0 0 0 0 0)
  have B0 := Lib.hid ((Below.refl w.heap.size w).alloc (Nat.le_refl _) (.cells #[.int .i64 0, .int .i64 0, .int .i64 0, .int .i64 0, .int .i64 0, .int .i64 0, .int .i64 0] 48))
  obtain ⟨W0, hW0⟩ : ∃ W, w.alloc (.cells #[.int .i64 0, .int .i64 0, .int .i64 0, .int .i64 0, .int .i64 0, .int .i64 0, .int .i64 0] 48) = W := ⟨_, rfl⟩
  rw [hW0] at X0 B0
  have HW0 := Lib.hid hW0
  have HT := Lib.hid (ht.below B0.out)
  clear hW0 ht
  have HC := Lib.hid (cy_bound q0 q1)
  obtain ⟨p, hp⟩ : ∃ p, q * 400 / 146097 = p := ⟨_, rfl⟩
  have p0 : -255 ≤ p := by omega
  have p1 : p ≤ 255 := by omega
  have hf : flo (q * 400) 146097 = q * 400 / 146097 := flo_pos _ (by decide)
  have HK := Lib.hid (show qok (q * 400) 146097 = true by rw [qok_okI (by decide), hf]; exact okI_yes (by omega) (by omega))
  have HF := Lib.hid (hf.trans hp)
  clear hf hp
  go_enter Tryz.func50, Tryz.ntmps50
  go_wp2_with fail
  rw [HW0.out]
  refine (floor_yes (q * 400) 146097 _ (by omega) (by omega) (by decide) (by decide) HK.out).mono ?_
  rintro e w' ⟨rfl, hw'⟩; subst w'
  rw [HF.out]
  go_wp2_with fail
  clear HW0
  go_loop [5] (fun yv => ∃ Y : Int, yv = .int .i64 Y ∧ 1600 ≤ Y ∧ Y ≤ 2300) (fun yv => (intOf yv).toNat)
  case atStart => exact ⟨_, rfl, by omega, by omega⟩
  case round =>
    obtain ⟨Y, rfl, Y0, Y1⟩ := hrel
    by_cases hlt : q < ys Y
    · have h2 := cy_lt hlt
      have h3 := HC.out.1
      go_wp2_with fail
      refine (ybegin_any Y _ (by omega) (by omega)).mono ?_
      rintro e w' ⟨rfl, hw'⟩; subst w'
      go_wp2_with fail
      go_round
      case rel => exact ⟨Y - 1, by go_num, by omega, by omega⟩
      case measure => simp [intOf]; omega
    · have HG := Lib.hid (cy_ge (show ys Y ≤ q by omega))
      go_wp2_with fail
      refine (ybegin_any Y _ (by omega) (by omega)).mono ?_
      rintro e w' ⟨rfl, hw'⟩; subst w'
      go_wp2_with fail
      clear hlt
      go_loop [5] (fun yv => ∃ Y : Int, yv = .int .i64 Y ∧ 1600 ≤ Y ∧ Y ≤ 2200 ∧ Hid (Y ≤ cy q)) (fun yv => 3000 - (intOf yv).toNat)
      case atStart => exact ⟨_, rfl, by omega, by have := HC.out; have := HG.out; omega, HG⟩
      case round =>
        clear HG Y0 Y1
        obtain ⟨Y, rfl, Y0, Y1, HG⟩ := hrel
        by_cases hge : ys (Y + 1) ≤ q
        · have h2 := cy_ge hge
          have h3 := HC.out.2
          go_wp2_with fail
          refine (ybegin_any (Y + 1) _ (by omega) (by omega)).mono ?_
          rintro e w' ⟨rfl, hw'⟩; subst w'
          go_wp2_with fail
          go_round
          case rel => exact ⟨Y + 1, by go_num, by omega, by omega, Lib.hid h2⟩
          case measure => simp [intOf]; omega
        · have hY : cy q = Y := by have := cy_lt (show q < ys (Y + 1) by omega); have := HG.out; omega
          obtain ⟨B, hB⟩ : ∃ B, ys Y = B := ⟨_, rfl⟩
          have hin := cy_in q
          rw [hY] at hin
          have hyd := yd_bound Y
          have hsu := ys_succ Y
          have r0 : 0 ≤ q - B ∧ q - B < 366 := by omega
          have hD3 : Hid (q - B + ys Y + ms Y 1 = q) := Lib.hid (by rw [ms_one]; omega)
          have hD4 : Hid (q - B + ms Y 1 < yd Y) := Lib.hid (by rw [ms_one]; omega)
          have HBB := Lib.hid hB
          have bB := ys_bound Y0 Y1
          rw [hB] at bB
          clear hY hin hsu hB HG hyd
          go_wp2_with fail
          refine (ybegin_any (Y + 1) _ (by omega) (by omega)).mono ?_
          rintro e w' ⟨rfl, hw'⟩; subst w'
          go_wp2_with fail
          clear hge
          refine (ybegin_any Y _ (by omega) (by omega)).mono ?_
          rintro e w' ⟨rfl, hw'⟩; subst w'
          rw [HBB.out]
          go_wp2_with fail
          go_loop [6, 7] (fun dv mv => ∃ D M : Int, dv = .int .i64 D ∧ mv = .int .i64 M ∧ 1 ≤ M ∧ M ≤ 12 ∧ 0 ≤ D ∧ D ≤ 400 ∧ Hid (D + ys Y + ms Y M = q) ∧ Hid (D + ms Y M < yd Y)) (fun dv _ => (intOf dv).toNat)
          case atStart => exact ⟨_, _, rfl, rfl, by omega, by omega, by omega, by omega, hD3, hD4⟩
          case round =>
            clear hD3 hD4 r0 bB HBB
            obtain ⟨D, M, rfl, rfl, M0, M1, D0, D1, HD, HL⟩ := hrel
            by_cases hge : md Y M ≤ D
            · obtain ⟨n0, n1, n2, n3⟩ := of_round3 HD.out HL.out M0 M1 hge
              have hmd := md_bound (y := Y) M0 M1
              have HDN := Lib.hid n0
              have HLN := Lib.hid n1
              clear n0 n1
              go_wp2_with fail
              refine (pmd_any Y M _ HT.out (by omega) (by omega)).mono ?_
              rintro e w' ⟨rfl, hw'⟩; subst w'
              go_wp2_with fail
              refine (pmd_any Y M _ HT.out (by omega) (by omega)).mono ?_
              rintro e w' ⟨rfl, hw'⟩; subst w'
              go_wp2_with fail
              go_round
              case rel => exact ⟨D - md Y M, M + 1, by go_num, by go_num, by omega, by omega, by omega, by omega, HDN, HLN⟩
              case measure => simp [intOf]; omega
            · have HE := Lib.hid (date_end HD.out D0 (by omega) M0 M1)
              go_wp2_with fail
              refine (pmd_any Y M _ HT.out (by omega) (by omega)).mono ?_
              rintro e w' ⟨rfl, hw'⟩; subst w'
              have r0 := X0.out.cells.1
              have g0 := X0.out.thaw.1
              have XS0 := Lib.hid (X0.out.set0 Y)
              have HB1 := Lib.hid (below_set (C := w.heap.size) (i := 0) B0.out (by omega) (.int .i64 Y))
              obtain ⟨S0, hS0⟩ : ∃ W, W0.setCell ⟨w.heap.size, 0, none⟩ (.int .i64 Y) = W := ⟨_, rfl⟩
              rw [hS0] at XS0 HB1
              have r1 := XS0.out.cells.2.1
              have g1 := XS0.out.thaw.2.1
              have XS1 := Lib.hid (XS0.out.set1 M)
              have HB2 := Lib.hid (below_set (C := w.heap.size) (i := 1) HB1.out (by omega) (.int .i64 M))
              obtain ⟨S1, hS1⟩ : ∃ W, S0.setCell ⟨w.heap.size, 1, none⟩ (.int .i64 M) = W := ⟨_, rfl⟩
              rw [hS1] at XS1 HB2
              have r2 := XS1.out.cells.2.2.1
              have g2 := XS1.out.thaw.2.2.1
              have XS2 := Lib.hid (XS1.out.set2 (D + 1))
              have HB3 := Lib.hid (below_set (C := w.heap.size) (i := 2) HB2.out (by omega) (.int .i64 (D + 1)))
              obtain ⟨S2, hS2⟩ : ∃ W, S1.setCell ⟨w.heap.size, 2, none⟩ (.int .i64 (D + 1)) = W := ⟨_, rfl⟩
              rw [hS2] at XS2 HB3
              have r3 := XS2.out.cells.2.2.2.1
              have g3 := XS2.out.thaw.2.2.2.1
              have XS3 := Lib.hid (XS2.out.set3 0)
              have HB4 := Lib.hid (below_set (C := w.heap.size) (i := 3) HB3.out (by omega) (.int .i64 0))
              obtain ⟨S3, hS3⟩ : ∃ W, S2.setCell ⟨w.heap.size, 3, none⟩ (.int .i64 0) = W := ⟨_, rfl⟩
              rw [hS3] at XS3 HB4
              have r4 := XS3.out.cells.2.2.2.2.1
              have g4 := XS3.out.thaw.2.2.2.2.1
              have XS4 := Lib.hid (XS3.out.set4 0)
              have HB5 := Lib.hid (below_set (C := w.heap.size) (i := 4) HB4.out (by omega) (.int .i64 0))
              obtain ⟨S4, hS4⟩ : ∃ W, S3.setCell ⟨w.heap.size, 4, none⟩ (.int .i64 0) = W := ⟨_, rfl⟩
              rw [hS4] at XS4 HB5
              have r5 := XS4.out.cells.2.2.2.2.2.1
              have g5 := XS4.out.thaw.2.2.2.2.2.1
              have XS5 := Lib.hid (XS4.out.set5 0)
              have HB6 := Lib.hid (below_set (C := w.heap.size) (i := 5) HB5.out (by omega) (.int .i64 0))
              obtain ⟨S5, hS5⟩ : ∃ W, S4.setCell ⟨w.heap.size, 5, none⟩ (.int .i64 0) = W := ⟨_, rfl⟩
              rw [hS5] at XS5 HB6
              have r6 := XS5.out.cells.2.2.2.2.2.2
              have g6 := XS5.out.thaw.2.2.2.2.2.2
              have XS6 := Lib.hid (XS5.out.set6 0)
              have HB7 := Lib.hid (below_set (C := w.heap.size) (i := 6) HB6.out (by omega) (.int .i64 0))
              obtain ⟨S6, hS6⟩ : ∃ W, S5.setCell ⟨w.heap.size, 6, none⟩ (.int .i64 0) = W := ⟨_, rfl⟩
              rw [hS6] at XS6 HB7
              obtain ⟨k0, k1, k2, k3, k4, k5, k6⟩ := XS6.out.cells
              go_wp2_with fail
              rw [HE.out.1, HE.out.2.1, HE.out.2.2]
              exact bodyPost_ret (v := .agg #[.int .i64 Y, .int .i64 M, .int .i64 (D + 1), .int .i64 0, .int .i64 0, .int .i64 0, .int .i64 0]) (by simp [results, Tryz.results50, go_sem, k0, k1, k2, k3, k4, k5, k6]) rfl ⟨rfl, HB7.out⟩

set_option maxRecDepth 100000 in
theorem pof_no (t : Int) (w : World) (h : inS t = false) :
    Calls Tryz.prog 26 #[.int .i64 t] w fun e w' => e = .returned (.tuple #[.agg #[.int .i64 0, .int .i64 0, .int .i64 0, .int .i64 0, .int .i64 0, .int .i64 0, .int .i64 0], .int .i64 3]) ∧ Below w.heap.size w w' := by
  have X0 := Lib.hid (bx7_new w 0 0 0 0 0 0 0)
  have B0 := Lib.hid ((Below.refl w.heap.size w).alloc (Nat.le_refl _) (.cells #[.int .i64 0, .int .i64 0, .int .i64 0, .int .i64 0, .int .i64 0, .int .i64 0, .int .i64 0] 48))
  obtain ⟨W0, hW0⟩ : ∃ W, w.alloc (.cells #[.int .i64 0, .int .i64 0, .int .i64 0, .int .i64 0, .int .i64 0, .int .i64 0, .int .i64 0] 48) = W := ⟨_, rfl⟩
  rw [hW0] at X0 B0
  have HW0 := Lib.hid hW0
  have HS := Lib.hid h
  clear hW0 h
  go_enter Tryz.func26, Tryz.ntmps26
  go_wp2_with fail
  rw [HW0.out]
  refine (issec_any t _).mono ?_
  rintro e w' ⟨rfl, hw'⟩; subst w'
  rw [HS.out]
  have r0 := X0.out.cells.1
  have g0 := X0.out.thaw.1
  have XS0 := Lib.hid (X0.out.set0 0)
  have HB1 := Lib.hid (below_set (C := w.heap.size) (i := 0) B0.out (by omega) (.int .i64 0))
  obtain ⟨S0, hS0⟩ : ∃ W, W0.setCell ⟨w.heap.size, 0, none⟩ (.int .i64 0) = W := ⟨_, rfl⟩
  rw [hS0] at XS0 HB1
  have r1 := XS0.out.cells.2.1
  have g1 := XS0.out.thaw.2.1
  have XS1 := Lib.hid (XS0.out.set1 0)
  have HB2 := Lib.hid (below_set (C := w.heap.size) (i := 1) HB1.out (by omega) (.int .i64 0))
  obtain ⟨S1, hS1⟩ : ∃ W, S0.setCell ⟨w.heap.size, 1, none⟩ (.int .i64 0) = W := ⟨_, rfl⟩
  rw [hS1] at XS1 HB2
  have r2 := XS1.out.cells.2.2.1
  have g2 := XS1.out.thaw.2.2.1
  have XS2 := Lib.hid (XS1.out.set2 0)
  have HB3 := Lib.hid (below_set (C := w.heap.size) (i := 2) HB2.out (by omega) (.int .i64 0))
  obtain ⟨S2, hS2⟩ : ∃ W, S1.setCell ⟨w.heap.size, 2, none⟩ (.int .i64 0) = W := ⟨_, rfl⟩
  rw [hS2] at XS2 HB3
  have r3 := XS2.out.cells.2.2.2.1
  have g3 := XS2.out.thaw.2.2.2.1
  have XS3 := Lib.hid (XS2.out.set3 0)
  have HB4 := Lib.hid (below_set (C := w.heap.size) (i := 3) HB3.out (by omega) (.int .i64 0))
  obtain ⟨S3, hS3⟩ : ∃ W, S2.setCell ⟨w.heap.size, 3, none⟩ (.int .i64 0) = W := ⟨_, rfl⟩
  rw [hS3] at XS3 HB4
  have r4 := XS3.out.cells.2.2.2.2.1
  have g4 := XS3.out.thaw.2.2.2.2.1
  have XS4 := Lib.hid (XS3.out.set4 0)
  have HB5 := Lib.hid (below_set (C := w.heap.size) (i := 4) HB4.out (by omega) (.int .i64 0))
  obtain ⟨S4, hS4⟩ : ∃ W, S3.setCell ⟨w.heap.size, 4, none⟩ (.int .i64 0) = W := ⟨_, rfl⟩
  rw [hS4] at XS4 HB5
  have r5 := XS4.out.cells.2.2.2.2.2.1
  have g5 := XS4.out.thaw.2.2.2.2.2.1
  have XS5 := Lib.hid (XS4.out.set5 0)
  have HB6 := Lib.hid (below_set (C := w.heap.size) (i := 5) HB5.out (by omega) (.int .i64 0))
  obtain ⟨S5, hS5⟩ : ∃ W, S4.setCell ⟨w.heap.size, 5, none⟩ (.int .i64 0) = W := ⟨_, rfl⟩
  rw [hS5] at XS5 HB6
  have r6 := XS5.out.cells.2.2.2.2.2.2
  have g6 := XS5.out.thaw.2.2.2.2.2.2
  have XS6 := Lib.hid (XS5.out.set6 0)
  have HB7 := Lib.hid (below_set (C := w.heap.size) (i := 6) HB6.out (by omega) (.int .i64 0))
  obtain ⟨S6, hS6⟩ : ∃ W, S5.setCell ⟨w.heap.size, 6, none⟩ (.int .i64 0) = W := ⟨_, rfl⟩
  rw [hS6] at XS6 HB7
  obtain ⟨k0, k1, k2, k3, k4, k5, k6⟩ := XS6.out.cells
  go_wp2_with fail
  exact bodyPost_ret (v := .tuple #[.agg #[.int .i64 0, .int .i64 0, .int .i64 0, .int .i64 0, .int .i64 0, .int .i64 0, .int .i64 0], .int .i64 3]) (by simp [results, Tryz.results26, go_sem, k0, k1, k2, k3, k4, k5, k6]) rfl ⟨rfl, HB7.out⟩
theorem Cv.of_time {t q R H I S : Int} (hq : t / 86400 = q) (hR : t - q * 86400 = R) (hH : R / 3600 = H) (hI : R % 3600 / 60 = I) (hS : R % 60 = S) : oH t = H ∧ oI t = I ∧ oS t = S := by
  have e : t % 86400 = R := by omega
  simp only [oH, oI, oS]; rw [e]; exact ⟨hH, by omega, hS⟩
theorem Cv.of_date {t q : Int} (hq : t / 86400 = q) : oY t = cy q ∧ oM t = cm q ∧ oD t = cd q := by subst hq; exact ⟨rfl, rfl, rfl⟩

set_option maxRecDepth 100000 in
set_option maxHeartbeats 1000000 in
theorem pof_ok (t : Int) (w : World) (ht : MT w) (h : inS t = true) :
    Calls Tryz.prog 26 #[.int .i64 t] w fun e w' => e = .returned (.tuple #[.agg #[.int .i64 (oY t), .int .i64 (oM t), .int .i64 (oD t), .int .i64 (oH t), .int .i64 (oI t), .int .i64 (oS t), .int .i64 0], .int .i64 0]) ∧ Below w.heap.size w w' := by
  have X0 := Lib.hid (bx7_new w 0 0 0 0 0 0 0)
  have B0 := Lib.hid ((Below.refl w.heap.size w).alloc (Nat.le_refl _) (.cells #[.int .i64 0, .int .i64 0, .int .i64 0, .int .i64 0, .int .i64 0, .int .i64 0, .int .i64 0] 48))
  have z0 := sz_alloc w (.cells #[.int .i64 0, .int .i64 0, .int .i64 0, .int .i64 0, .int .i64 0, .int .i64 0, .int .i64 0] 48)
  obtain ⟨W0, hW0⟩ : ∃ W, w.alloc (.cells #[.int .i64 0, .int .i64 0, .int .i64 0, .int .i64 0, .int .i64 0, .int .i64 0, .int .i64 0] 48) = W := ⟨_, rfl⟩
  rw [hW0] at X0 B0 z0
  have HW0 := Lib.hid hW0
  have HT := Lib.hid (ht.below B0.out)
  have HS := Lib.hid h
  have hy : -8000000000 ≤ t ∧ t ≤ 8000000000 := by simpa [inS] using h
  obtain ⟨t0, t1⟩ := hy
  obtain ⟨q, hq⟩ : ∃ q, t / 86400 = q := ⟨_, rfl⟩
  obtain ⟨R, hR⟩ : ∃ R, t - q * 86400 = R := ⟨_, rfl⟩
  have R0 : 0 ≤ R := by omega
  have R1 : R < 86400 := by omega
  have q0 : -93000 ≤ q := by omega
  have q1 : q ≤ 93000 := by omega
  obtain ⟨H, hH⟩ : ∃ H, R / 3600 = H := ⟨_, rfl⟩
  obtain ⟨I, hI⟩ : ∃ I, R % 3600 / 60 = I := ⟨_, rfl⟩
  obtain ⟨S, hS⟩ : ∃ S, R % 60 = S := ⟨_, rfl⟩
  have HP := Lib.hid (of_time hq hR hH hI hS)
  have HQ := Lib.hid hq
  have HD := Lib.hid (of_date hq)
  obtain ⟨Y, hY⟩ : ∃ Y, cy q = Y := ⟨_, rfl⟩
  obtain ⟨M, hM⟩ : ∃ M, cm q = M := ⟨_, rfl⟩
  obtain ⟨D, hDD⟩ : ∃ D, cd q = D := ⟨_, rfl⟩
  have HE : Hid (cy q = Y ∧ cm q = M ∧ cd q = D) := Lib.hid ⟨hY, hM, hDD⟩
  rw [hY, hM, hDD] at HD
  rw [HD.out.1, HD.out.2.1, HD.out.2.2, HP.out.1, HP.out.2.1, HP.out.2.2]
  clear hW0 ht h hq t0 t1 hY hM hDD HP HD
  go_enter Tryz.func26, Tryz.ntmps26
  go_wp2_with fail
  rw [HW0.out]
  refine (issec_any t _).mono ?_
  rintro e w' ⟨rfl, hw'⟩; subst w'
  rw [HS.out]
  go_wp2_with fail
  refine (pday_any t _ (by have := HS.out; simp [inS] at this; omega) (by have := HS.out; simp [inS] at this; omega)).mono ?_
  rintro e w' ⟨rfl, hw'⟩; subst w'
  rw [HQ.out]
  go_wp2_with fail
  refine (dateof_any q _ HT.out q0 q1).mono ?_
  rintro e w1 ⟨rfl, hb⟩
  rw [HE.out.1, HE.out.2.1, HE.out.2.2]
  have B1 := Lib.hid (B0.out.trans (hb.mono (by omega)))
  have X01 := Lib.hid (X0.out.below hb (by omega))
  have z1 := hb.size
  have X1 := Lib.hid (bx7_new w1 0 0 0 0 0 0 0)
  have X02 := Lib.hid (X01.out.alloc (.cells #[.int .i64 0, .int .i64 0, .int .i64 0, .int .i64 0, .int .i64 0, .int .i64 0, .int .i64 0] 48))
  have B2 := Lib.hid (B1.out.alloc (by omega) (.cells #[.int .i64 0, .int .i64 0, .int .i64 0, .int .i64 0, .int .i64 0, .int .i64 0, .int .i64 0] 48))
  have hlt : w.heap.size < w1.heap.size := by omega
  clear hb X0 B0 X01 B1 z0 z1
  have pr0 := X1.out.cells.1
  have pg0 := X1.out.thaw.1
  have pX0 := Lib.hid (X1.out.set0 Y)
  have pY0 := Lib.hid (X02.out.other (C := w1.heap.size) (i := 0) (by omega) (.int .i64 Y))
  have pB0 := Lib.hid (below_set (C := w1.heap.size) (i := 0) B2.out (by omega) (.int .i64 Y))
  obtain ⟨pS0, hpS0⟩ : ∃ W, (w1.alloc (.cells #[.int .i64 0, .int .i64 0, .int .i64 0, .int .i64 0, .int .i64 0, .int .i64 0, .int .i64 0] 48)).setCell ⟨w1.heap.size, 0, none⟩ (.int .i64 Y) = W := ⟨_, rfl⟩
  rw [hpS0] at pX0 pY0 pB0
  have pr1 := pX0.out.cells.2.1
  have pg1 := pX0.out.thaw.2.1
  have pX1 := Lib.hid (pX0.out.set1 M)
  have pY1 := Lib.hid (pY0.out.other (C := w1.heap.size) (i := 1) (by omega) (.int .i64 M))
  have pB1 := Lib.hid (below_set (C := w1.heap.size) (i := 1) pB0.out (by omega) (.int .i64 M))
  obtain ⟨pS1, hpS1⟩ : ∃ W, pS0.setCell ⟨w1.heap.size, 1, none⟩ (.int .i64 M) = W := ⟨_, rfl⟩
  rw [hpS1] at pX1 pY1 pB1
  have pr2 := pX1.out.cells.2.2.1
  have pg2 := pX1.out.thaw.2.2.1
  have pX2 := Lib.hid (pX1.out.set2 D)
  have pY2 := Lib.hid (pY1.out.other (C := w1.heap.size) (i := 2) (by omega) (.int .i64 D))
  have pB2 := Lib.hid (below_set (C := w1.heap.size) (i := 2) pB1.out (by omega) (.int .i64 D))
  obtain ⟨pS2, hpS2⟩ : ∃ W, pS1.setCell ⟨w1.heap.size, 2, none⟩ (.int .i64 D) = W := ⟨_, rfl⟩
  rw [hpS2] at pX2 pY2 pB2
  have pr3 := pX2.out.cells.2.2.2.1
  have pg3 := pX2.out.thaw.2.2.2.1
  have pX3 := Lib.hid (pX2.out.set3 0)
  have pY3 := Lib.hid (pY2.out.other (C := w1.heap.size) (i := 3) (by omega) (.int .i64 0))
  have pB3 := Lib.hid (below_set (C := w1.heap.size) (i := 3) pB2.out (by omega) (.int .i64 0))
  obtain ⟨pS3, hpS3⟩ : ∃ W, pS2.setCell ⟨w1.heap.size, 3, none⟩ (.int .i64 0) = W := ⟨_, rfl⟩
  rw [hpS3] at pX3 pY3 pB3
  have pr4 := pX3.out.cells.2.2.2.2.1
  have pg4 := pX3.out.thaw.2.2.2.2.1
  have pX4 := Lib.hid (pX3.out.set4 0)
  have pY4 := Lib.hid (pY3.out.other (C := w1.heap.size) (i := 4) (by omega) (.int .i64 0))
  have pB4 := Lib.hid (below_set (C := w1.heap.size) (i := 4) pB3.out (by omega) (.int .i64 0))
  obtain ⟨pS4, hpS4⟩ : ∃ W, pS3.setCell ⟨w1.heap.size, 4, none⟩ (.int .i64 0) = W := ⟨_, rfl⟩
  rw [hpS4] at pX4 pY4 pB4
  have pr5 := pX4.out.cells.2.2.2.2.2.1
  have pg5 := pX4.out.thaw.2.2.2.2.2.1
  have pX5 := Lib.hid (pX4.out.set5 0)
  have pY5 := Lib.hid (pY4.out.other (C := w1.heap.size) (i := 5) (by omega) (.int .i64 0))
  have pB5 := Lib.hid (below_set (C := w1.heap.size) (i := 5) pB4.out (by omega) (.int .i64 0))
  obtain ⟨pS5, hpS5⟩ : ∃ W, pS4.setCell ⟨w1.heap.size, 5, none⟩ (.int .i64 0) = W := ⟨_, rfl⟩
  rw [hpS5] at pX5 pY5 pB5
  have pr6 := pX5.out.cells.2.2.2.2.2.2
  have pg6 := pX5.out.thaw.2.2.2.2.2.2
  have pX6 := Lib.hid (pX5.out.set6 0)
  have pY6 := Lib.hid (pY5.out.other (C := w1.heap.size) (i := 6) (by omega) (.int .i64 0))
  have pB6 := Lib.hid (below_set (C := w1.heap.size) (i := 6) pB5.out (by omega) (.int .i64 0))
  obtain ⟨pS6, hpS6⟩ : ∃ W, pS5.setCell ⟨w1.heap.size, 6, none⟩ (.int .i64 0) = W := ⟨_, rfl⟩
  rw [hpS6] at pX6 pY6 pB6
  have pr7 := pX6.out.cells.2.2.2.1
  have pg7 := pX6.out.thaw.2.2.2.1
  have pX7 := Lib.hid (pX6.out.set3 H)
  have pY7 := Lib.hid (pY6.out.other (C := w1.heap.size) (i := 3) (by omega) (.int .i64 H))
  have pB7 := Lib.hid (below_set (C := w1.heap.size) (i := 3) pB6.out (by omega) (.int .i64 H))
  obtain ⟨pS7, hpS7⟩ : ∃ W, pS6.setCell ⟨w1.heap.size, 3, none⟩ (.int .i64 H) = W := ⟨_, rfl⟩
  rw [hpS7] at pX7 pY7 pB7
  have pr8 := pX7.out.cells.2.2.2.2.1
  have pg8 := pX7.out.thaw.2.2.2.2.1
  have pX8 := Lib.hid (pX7.out.set4 I)
  have pY8 := Lib.hid (pY7.out.other (C := w1.heap.size) (i := 4) (by omega) (.int .i64 I))
  have pB8 := Lib.hid (below_set (C := w1.heap.size) (i := 4) pB7.out (by omega) (.int .i64 I))
  obtain ⟨pS8, hpS8⟩ : ∃ W, pS7.setCell ⟨w1.heap.size, 4, none⟩ (.int .i64 I) = W := ⟨_, rfl⟩
  rw [hpS8] at pX8 pY8 pB8
  have pr9 := pX8.out.cells.2.2.2.2.2.1
  have pg9 := pX8.out.thaw.2.2.2.2.2.1
  have pX9 := Lib.hid (pX8.out.set5 S)
  have pY9 := Lib.hid (pY8.out.other (C := w1.heap.size) (i := 5) (by omega) (.int .i64 S))
  have pB9 := Lib.hid (below_set (C := w1.heap.size) (i := 5) pB8.out (by omega) (.int .i64 S))
  obtain ⟨pS9, hpS9⟩ : ∃ W, pS8.setCell ⟨w1.heap.size, 5, none⟩ (.int .i64 S) = W := ⟨_, rfl⟩
  rw [hpS9] at pX9 pY9 pB9
  obtain ⟨v0, v1, v2, v3, v4, v5, v6⟩ := pX9.out.cells
  have r0 := pY9.out.cells.1
  have g0 := pY9.out.thaw.1
  have XS0 := Lib.hid (pY9.out.set0 Y)
  have HB1 := Lib.hid (below_set (C := w.heap.size) (i := 0) pB9.out (by omega) (.int .i64 Y))
  obtain ⟨S0, hS0⟩ : ∃ W, pS9.setCell ⟨w.heap.size, 0, none⟩ (.int .i64 Y) = W := ⟨_, rfl⟩
  rw [hS0] at XS0 HB1
  have r1 := XS0.out.cells.2.1
  have g1 := XS0.out.thaw.2.1
  have XS1 := Lib.hid (XS0.out.set1 M)
  have HB2 := Lib.hid (below_set (C := w.heap.size) (i := 1) HB1.out (by omega) (.int .i64 M))
  obtain ⟨S1, hS1⟩ : ∃ W, S0.setCell ⟨w.heap.size, 1, none⟩ (.int .i64 M) = W := ⟨_, rfl⟩
  rw [hS1] at XS1 HB2
  have r2 := XS1.out.cells.2.2.1
  have g2 := XS1.out.thaw.2.2.1
  have XS2 := Lib.hid (XS1.out.set2 D)
  have HB3 := Lib.hid (below_set (C := w.heap.size) (i := 2) HB2.out (by omega) (.int .i64 D))
  obtain ⟨S2, hS2⟩ : ∃ W, S1.setCell ⟨w.heap.size, 2, none⟩ (.int .i64 D) = W := ⟨_, rfl⟩
  rw [hS2] at XS2 HB3
  have r3 := XS2.out.cells.2.2.2.1
  have g3 := XS2.out.thaw.2.2.2.1
  have XS3 := Lib.hid (XS2.out.set3 H)
  have HB4 := Lib.hid (below_set (C := w.heap.size) (i := 3) HB3.out (by omega) (.int .i64 H))
  obtain ⟨S3, hS3⟩ : ∃ W, S2.setCell ⟨w.heap.size, 3, none⟩ (.int .i64 H) = W := ⟨_, rfl⟩
  rw [hS3] at XS3 HB4
  have r4 := XS3.out.cells.2.2.2.2.1
  have g4 := XS3.out.thaw.2.2.2.2.1
  have XS4 := Lib.hid (XS3.out.set4 I)
  have HB5 := Lib.hid (below_set (C := w.heap.size) (i := 4) HB4.out (by omega) (.int .i64 I))
  obtain ⟨S4, hS4⟩ : ∃ W, S3.setCell ⟨w.heap.size, 4, none⟩ (.int .i64 I) = W := ⟨_, rfl⟩
  rw [hS4] at XS4 HB5
  have r5 := XS4.out.cells.2.2.2.2.2.1
  have g5 := XS4.out.thaw.2.2.2.2.2.1
  have XS5 := Lib.hid (XS4.out.set5 S)
  have HB6 := Lib.hid (below_set (C := w.heap.size) (i := 5) HB5.out (by omega) (.int .i64 S))
  obtain ⟨S5, hS5⟩ : ∃ W, S4.setCell ⟨w.heap.size, 5, none⟩ (.int .i64 S) = W := ⟨_, rfl⟩
  rw [hS5] at XS5 HB6
  have r6 := XS5.out.cells.2.2.2.2.2.2
  have g6 := XS5.out.thaw.2.2.2.2.2.2
  have XS6 := Lib.hid (XS5.out.set6 0)
  have HB7 := Lib.hid (below_set (C := w.heap.size) (i := 6) HB6.out (by omega) (.int .i64 0))
  obtain ⟨S6, hS6⟩ : ∃ W, S5.setCell ⟨w.heap.size, 6, none⟩ (.int .i64 0) = W := ⟨_, rfl⟩
  rw [hS6] at XS6 HB7
  obtain ⟨k0, k1, k2, k3, k4, k5, k6⟩ := XS6.out.cells
  go_wp2_with fail
  exact bodyPost_ret (v := .tuple #[.agg #[.int .i64 Y, .int .i64 M, .int .i64 D, .int .i64 H, .int .i64 I, .int .i64 S, .int .i64 0], .int .i64 0]) (by simp [results, Tryz.results26, go_sem, k0, k1, k2, k3, k4, k5, k6]) rfl ⟨rfl, HB7.out⟩
end Go.Proofs.YtegpajdahanhfaaGreatDoor
