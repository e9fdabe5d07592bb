/- Contracts of layer 5: boxes of civil times; Of of the specification. -/
import Derived.Test.YtegpajdahanhfaaGreatDoorCivC
namespace Go.Proofs.YtegpajdahanhfaaGreatDoor
open Go.RowKit Fx Cv

/-- Block B is the box of a civil time. -/
def Cv.Bx7 (w : World) (B : Nat) (y m d hh mi s n : Int) : Prop := w.heap[B]? = some (.cells #[.int .i64 y, .int .i64 m, .int .i64 d, .int .i64 hh, .int .i64 mi, .int .i64 s, .int .i64 n] 48 (0, 0))
theorem Cv.Bx7.lt {w : World} {B : Nat} {y m d hh mi s n : Int} (h : Bx7 w B y m d hh mi s n) : B < w.heap.size := by
  rcases Nat.lt_or_ge B w.heap.size with hlt | hge
  · exact hlt
  · unfold Bx7 at h; rw [Array.getElem?_eq_none hge] at h; cases h
theorem Cv.Bx7.cells {w : World} {B : Nat} {y m d hh mi s n : Int} (h : Bx7 w B y m d hh mi s n) :
    w.cell? ⟨B, 0, none⟩ = some (.int .i64 y) ∧ w.cell? ⟨B, 1, none⟩ = some (.int .i64 m) ∧ w.cell? ⟨B, 2, none⟩ = some (.int .i64 d) ∧ w.cell? ⟨B, 3, none⟩ = some (.int .i64 hh) ∧ w.cell? ⟨B, 4, none⟩ = some (.int .i64 mi) ∧ w.cell? ⟨B, 5, none⟩ = some (.int .i64 s) ∧ w.cell? ⟨B, 6, none⟩ = some (.int .i64 n) := seven_cells h
theorem Cv.Bx7.thaw {w : World} {B : Nat} {y m d hh mi s n : Int} (h : Bx7 w B y m d hh mi s n) :
    w.frozen? ⟨B, 0, none⟩ = false ∧ w.frozen? ⟨B, 1, none⟩ = false ∧ w.frozen? ⟨B, 2, none⟩ = false ∧ w.frozen? ⟨B, 3, none⟩ = false ∧ w.frozen? ⟨B, 4, none⟩ = false ∧ w.frozen? ⟨B, 5, none⟩ = false ∧ w.frozen? ⟨B, 6, none⟩ = false := by
  unfold Bx7 at h; simp [World.frozen?, h]
theorem Cv.Bx7.below {w w' : World} {B D : Nat} {y m d hh mi s n : Int} (h : Bx7 w B y m d hh mi s n) (hb : Below D w w') (hB : B < D) : Bx7 w' B y m d hh mi s n := (hb.block B hB).trans h
theorem Cv.Bx7.alloc {w : World} {B : Nat} {y m d hh mi s n : Int} (h : Bx7 w B y m d hh mi s n) (o : Obj) : Bx7 (w.alloc o) B y m d hh mi s n := (Below.heap_alloc _ _ _ h.lt).trans h
theorem Cv.bx7_new (w : World) (y m d hh mi s n : Int) : Bx7 (w.alloc (.cells #[.int .i64 y, .int .i64 m, .int .i64 d, .int .i64 hh, .int .i64 mi, .int .i64 s, .int .i64 n] 48)) w.heap.size y m d hh mi s n := heap_alloc_new w _
theorem Cv.Bx7.set0 {w : World} {B : Nat} {y m d hh mi s n : Int} (h : Bx7 w B y m d hh mi s n) (v : Int) : Bx7 (w.setCell ⟨B, 0, none⟩ (.int .i64 v)) B v m d hh mi s n := by
  unfold Bx7 at *; simp [World.setCell, Array.getElem?_modify, h]
theorem Cv.Bx7.set1 {w : World} {B : Nat} {y m d hh mi s n : Int} (h : Bx7 w B y m d hh mi s n) (v : Int) : Bx7 (w.setCell ⟨B, 1, none⟩ (.int .i64 v)) B y v d hh mi s n := by
  unfold Bx7 at *; simp [World.setCell, Array.getElem?_modify, h]
theorem Cv.Bx7.set2 {w : World} {B : Nat} {y m d hh mi s n : Int} (h : Bx7 w B y m d hh mi s n) (v : Int) : Bx7 (w.setCell ⟨B, 2, none⟩ (.int .i64 v)) B y m v hh mi s n := by
  unfold Bx7 at *; simp [World.setCell, Array.getElem?_modify, h]
theorem Cv.Bx7.set3 {w : World} {B : Nat} {y m d hh mi s n : Int} (h : Bx7 w B y m d hh mi s n) (v : Int) : Bx7 (w.setCell ⟨B, 3, none⟩ (.int .i64 v)) B y m d v mi s n := by
  unfold Bx7 at *; simp [World.setCell, Array.getElem?_modify, h]
theorem Cv.Bx7.set4 {w : World} {B : Nat} {y m d hh mi s n : Int} (h : Bx7 w B y m d hh mi s n) (v : Int) : Bx7 (w.setCell ⟨B, 4, none⟩ (.int .i64 v)) B y m d hh v s n := by
  unfold Bx7 at *; simp [World.setCell, Array.getElem?_modify, h]
theorem Cv.Bx7.set5 {w : World} {B : Nat} {y m d hh mi s n : Int} (h : Bx7 w B y m d hh mi s n) (v : Int) : Bx7 (w.setCell ⟨B, 5, none⟩ (.int .i64 v)) B y m d hh mi v n := by
  unfold Bx7 at *; simp [World.setCell, Array.getElem?_modify, h]
theorem Cv.Bx7.set6 {w : World} {B : Nat} {y m d hh mi s n : Int} (h : Bx7 w B y m d hh mi s n) (v : Int) : Bx7 (w.setCell ⟨B, 6, none⟩ (.int .i64 v)) B y m d hh mi s v := by
  unfold Bx7 at *; simp [World.setCell, Array.getElem?_modify, h]
theorem Cv.Bx7.store {w : World} {B : Nat} {y m d hh mi s n : Int} (h : Bx7 w B y m d hh mi s n) (y' m' d' hh' mi' s' n' : Int) :
    Bx7 (((((((w.setCell ⟨B, 0, none⟩ (.int .i64 y')).setCell ⟨B, 1, none⟩ (.int .i64 m')).setCell ⟨B, 2, none⟩ (.int .i64 d')).setCell ⟨B, 3, none⟩ (.int .i64 hh')).setCell ⟨B, 4, none⟩ (.int .i64 mi')).setCell ⟨B, 5, none⟩ (.int .i64 s')).setCell ⟨B, 6, none⟩ (.int .i64 n')) B y' m' d' hh' mi' s' n' := by
  unfold Bx7 at *; simp [World.setCell, Array.getElem?_modify, h]
theorem Cv.Bx7.other {w : World} {B C i : Nat} {y m d hh mi s n : Int} (h : Bx7 w B y m d hh mi s n) (hne : B ≠ C) (v : Value) : Bx7 (w.setCell ⟨C, i, none⟩ v) B y m d hh mi s n :=
  (Below.heap_setCell w ⟨C, i, none⟩ v B (fun e => hne (by rw [e]))).trans h
theorem Cv.below_set {a w : World} {B C i : Nat} (h : Below B a w) (hC : B ≤ C) (v : Value) : Below B a (w.setCell ⟨C, i, none⟩ v) :=
  h.trans ⟨rfl, rfl, rfl, by simp [World.setCell], fun k hk => Below.heap_setCell w ⟨C, i, none⟩ v k (fun e => by simp at e; omega)⟩

/-- The parts of a second. -/
def Cv.oY (t : Int) : Int := cy (t / 86400)
def Cv.oM (t : Int) : Int := cm (t / 86400)
def Cv.oD (t : Int) : Int := cd (t / 86400)
def Cv.oH (t : Int) : Int := t % 86400 / 3600
def Cv.oI (t : Int) : Int := t % 86400 / 60 % 60
def Cv.oS (t : Int) : Int := t % 86400 % 60
theorem Cv.of_end {t Y M D : Int} (h : D + ys Y + ms Y M = t / 86400) (h0 : 0 ≤ D) (h1 : D < md Y M) (m0 : 1 ≤ M) (m1 : M ≤ 12) : oY t = Y ∧ oM t = M ∧ oD t = D + 1 := by
  have hd : Dat Y M (D + 1) := ⟨m0, m1, by omega, by omega⟩
  have hn : num Y M (D + 1) = t / 86400 := by simp only [num]; omega
  have := civ_num hd
  rw [hn] at this
  exact this
theorem Cv.ys_low {y : Int} (h : -100000 ≤ ys y) : 1600 ≤ y := by
  rcases Int.lt_or_le y 1600 with h2 | h2
  · have := ys_mono (y := y) (z := 1600) (by omega); rw [ys_1600] at this; omega
  · exact h2
theorem Cv.ys_high {y : Int} (h : ys y ≤ 100000) : y ≤ 2200 := by
  rcases Int.lt_or_le 2200 y with h2 | h2
  · have := ys_mono (y := 2200) (z := y) (by omega); rw [ys_2200] at this; omega
  · exact h2
theorem Cv.of_round1 {D Y q : Int} (h : D + ys Y = q) (q0 : -93000 ≤ q) (hD : D < 0) : D + yd (Y - 1) + ys (Y - 1) = q ∧ 1600 ≤ Y - 1 ∧ D + yd (Y - 1) < 366 := by
  have e := ys_succ (Y - 1)
  rw [show Y - 1 + 1 = Y by omega] at e
  have b := yd_bound (Y - 1)
  exact ⟨by omega, ys_low (by omega), by omega⟩
theorem Cv.of_round2 {D Y q : Int} (h : D + ys Y = q) (q1 : q ≤ 93000) (hD : yd Y ≤ D) : D - yd Y + ys (Y + 1) = q ∧ Y + 1 ≤ 2200 ∧ 0 ≤ D - yd Y := by
  have e := ys_succ Y
  exact ⟨by omega, ys_high (by omega), by omega⟩
theorem Cv.of_round3 {D Y M q : Int} (h : D + ys Y + ms Y M = q) (hb : D + ms Y M < yd Y) (m0 : 1 ≤ M) (m1 : M ≤ 12) (hD : md Y M ≤ D) : D - md Y M + ys Y + ms Y (M + 1) = q ∧ D - md Y M + ms Y (M + 1) < yd Y ∧ M + 1 ≤ 12 ∧ 0 ≤ D - md Y M := by
  have e := ms_succ (y := Y) m0 m1
  have e13 := ms_13 Y
  refine ⟨by omega, by omega, ?_, by omega⟩
  rcases (show M ≤ 11 ∨ M = 12 by omega) with h12 | rfl
  · omega
  · rw [show (12 + 1 : Int) = 13 from rfl] at e; omega
theorem Cv.ret_ce {y m d hh mi s n y' m' d' hh' mi' s' n' e e' : Int} (h1 : y = y') (h2 : m = m') (h3 : d = d') (h4 : hh = hh') (h5 : mi = mi') (h6 : s = s') (h7 : n = n') (h8 : e = e') :
    Ending.returned (.tuple #[.agg #[.int .i64 y, .int .i64 m, .int .i64 d, .int .i64 hh, .int .i64 mi, .int .i64 s, .int .i64 n], .int .i64 e]) = .returned (.tuple #[.agg #[.int .i64 y', .int .i64 m', .int .i64 d', .int .i64 hh', .int .i64 mi', .int .i64 s', .int .i64 n'], .int .i64 e']) := by subst h1 h2 h3 h4 h5 h6 h7 h8; rfl

set_option maxRecDepth 100000 in
theorem rof_no (t : Int) (w : World) (h : t < -8000000000 ∨ 8000000000 < t) :
    Calls Tryz.prog 53 #[.int .i64 t] w fun e w' => e = .returned (.tuple #[.agg #[.int .i64 0, .int .i64 0, .int .i64 0, .int .i64 0, .int .i64 0, .int .i64 0, .int .i64 0], .int .i64 3]) ∧ Below w.heap.size w w' := by
  have X0 := Lib.hid (bx7_new w 0 0 0 0 0 0 0)
  have B0 := Lib.hid ((Below.refl w.heap.size w).alloc (Nat.le_refl _) (.cells #[.int .i64 0, .int .i64 0, .int .i64 0, .int .i64 0, .int .i64 0, .int .i64 0, .int .i64 0] 48))
  obtain ⟨c0, c1, c2, c3, c4, c5, c6⟩ := X0.out.cells
  by_cases h1 : t < -8000000000
  · clear h
    go_enter Tryz.func53, Tryz.ntmps53
    go_wp2_with fail
    all_goals exact bodyPost_ret (v := .tuple #[.agg #[.int .i64 0, .int .i64 0, .int .i64 0, .int .i64 0, .int .i64 0, .int .i64 0, .int .i64 0], .int .i64 3]) (by simp [results, Tryz.results53, go_sem, c0, c1, c2, c3, c4, c5, c6]) rfl ⟨rfl, B0.out⟩
  · have h2 : 8000000000 < t := by omega
    have d1 : decide (t < -8000000000) = false := decide_eq_false h1
    clear h
    go_enter Tryz.func53, Tryz.ntmps53
    go_wp2_with fail
    all_goals exact bodyPost_ret (v := .tuple #[.agg #[.int .i64 0, .int .i64 0, .int .i64 0, .int .i64 0, .int .i64 0, .int .i64 0, .int .i64 0], .int .i64 3]) (by simp [results, Tryz.results53, go_sem, c0, c1, c2, c3, c4, c5, c6]) rfl ⟨rfl, B0.out⟩

set_option maxRecDepth 100000 in
set_option maxHeartbeats 1000000 in
theorem rof_ok (t : Int) (w : World) (h0 : -8000000000 ≤ t) (h1 : t ≤ 8000000000) :
    Calls Tryz.prog 53 #[.int .i64 t] w fun e w' => e = .returned (.tuple #[.agg #[.int .i64 (oY t), .int .i64 (oM t), .int .i64 (oD t), .int .i64 (oH t), .int .i64 (oI t), .int .i64 (oS t), .int .i64 0], .int .i64 0]) ∧ Below w.heap.size w w' := by
  have X0 := Lib.hid (bx7_new w 0 0 0 0 0 0 0)
  have B0 := Lib.hid ((Below.refl w.heap.size w).alloc (Nat.le_refl _) (.cells #[.int .i64 0, .int .i64 0, .int .i64 0, .int .i64 0, .int .i64 0, .int .i64 0, .int .i64 0] 48))
  have z0 := sz_alloc w (.cells #[.int .i64 0, .int .i64 0, .int .i64 0, .int .i64 0, .int .i64 0, .int .i64 0, .int .i64 0] 48)
  obtain ⟨W0, hW0⟩ : ∃ W, w.alloc (.cells #[.int .i64 0, .int .i64 0, .int .i64 0, .int .i64 0, .int .i64 0, .int .i64 0, .int .i64 0] 48) = W := ⟨_, rfl⟩
  rw [hW0] at X0 B0 z0
  have HW0 := Lib.hid hW0
  clear hW0
  have d1 : decide (t < -8000000000) = false := decide_eq_false (by omega)
  have d2 : decide (8000000000 < t) = false := decide_eq_false (by omega)
  have l1 : ¬ t < -8000000000 := by omega
  have l2 : ¬ 8000000000 < t := by omega
  obtain ⟨q, hq⟩ : ∃ q, t / 86400 = q := ⟨_, rfl⟩
  obtain ⟨R, hR⟩ : ∃ R, t - q * 86400 = R := ⟨_, rfl⟩
  have hR2 : R = t % 86400 := by omega
  have R0 : 0 ≤ R := by omega
  have R1 : R < 86400 := by omega
  have q0 : -93000 ≤ q := by omega
  have q1 : q ≤ 93000 := by omega
  have HQ := Lib.hid hq
  have HR := Lib.hid hR2
  obtain ⟨H, hH⟩ : ∃ H, R / 3600 = H := ⟨_, rfl⟩
  obtain ⟨I, hI⟩ : ∃ I, R / 60 % 60 = I := ⟨_, rfl⟩
  obtain ⟨S, hS⟩ : ∃ S, R % 60 = S := ⟨_, rfl⟩
  have HH : Hid (oH t = H ∧ oI t = I ∧ oS t = S) := Lib.hid (by simp only [oH, oI, oS]; rw [← hR2]; exact ⟨hH, hI, hS⟩)
  have X1 := Lib.hid (bx7_new W0 1900 1 0 H I S 0)
  have X01 := Lib.hid (X0.out.alloc (.cells #[.int .i64 1900, .int .i64 1, .int .i64 0, .int .i64 H, .int .i64 I, .int .i64 S, .int .i64 0] 48))
  have B1 := Lib.hid (B0.out.alloc (by omega) (.cells #[.int .i64 1900, .int .i64 1, .int .i64 0, .int .i64 H, .int .i64 I, .int .i64 S, .int .i64 0] 48))
  obtain ⟨W1, hW1⟩ : ∃ W, W0.alloc (.cells #[.int .i64 1900, .int .i64 1, .int .i64 0, .int .i64 H, .int .i64 I, .int .i64 S, .int .i64 0] 48) = W := ⟨_, rfl⟩
  rw [hW1] at X1 X01 B1
  rw [z0] at X1
  have HW1 := Lib.hid hW1
  clear hW1 hq hR2 X0 B0
  go_enter Tryz.func53, Tryz.ntmps53
  go_wp2_with fail
  rw [HW0.out]
  refine (rday_any t _ (by omega) (by omega)).mono ?_
  rintro e w' ⟨rfl, rfl⟩
  rw [HQ.out]
  go_wp2_with fail
  rw [HW1.out]
  clear z0 l1 l2 d1 d2 hR R0 R1 hH hI hS HW1 HW0
  go_loopw [4] (fun dv wr => ∃ D Y : Int, dv = .int .i64 D ∧ 1600 ≤ Y ∧ Y ≤ 1900 ∧ -100000 ≤ D ∧ D ≤ 100000 ∧ Hid (D + ys Y = q) ∧ Hid (Bx7 wr w.heap.size 0 0 0 0 0 0 0) ∧ Hid (Bx7 wr (w.heap.size + 1) Y 1 0 H I S 0) ∧ Hid (Below w.heap.size w wr)) (fun dv _ => (-(intOf dv)).toNat)
  case atStart => exact ⟨_, _, rfl, by omega, by omega, by omega, by omega, Lib.hid (by rw [ys_1900]; omega), X01, X1, B1⟩
  case round =>
    obtain ⟨D, Y, rfl, Y0, Y1, D0, D1, HD, XR, XB, HB⟩ := hrel
    clear X01 X1 B1
    obtain ⟨b0, b1, b2, b3, b4, b5, b6⟩ := XB.out.cells
    obtain ⟨f0, f1, f2, f3, f4, f5, f6⟩ := XB.out.thaw
    by_cases hlt : D < 0
    · obtain ⟨n0, n1, n2⟩ := of_round1 HD.out q0 hlt
      have hyd := yd_bound (Y - 1)
      have XN := Lib.hid (XB.out.set0 (Y - 1))
      obtain ⟨e0, _, _, _, _, _, _⟩ := XN.out.cells
      have XRN := Lib.hid (XR.out.other (C := w.heap.size + 1) (i := 0) (by omega) (.int .i64 (Y - 1)))
      have HBN := Lib.hid (below_set (C := w.heap.size + 1) (i := 0) HB.out (by omega) (.int .i64 (Y - 1)))
      have HDN := Lib.hid n0
      clear n0
      go_wp2_with fail
      refine (ryd_any (Y - 1) _ (by omega) (by omega)).mono ?_
      rintro e w' ⟨rfl, rfl⟩
      go_wp2_with fail
      go_round
      case rel => exact ⟨_, _, by go_num, by omega, by omega, by omega, by omega, HDN, XRN, XN, HBN⟩
      case measure => simp [intOf]; omega
    · have D2 : 0 ≤ D := by omega
      clear hlt
      go_wp2_with fail
      go_loopw [4] (fun dv wr => ∃ D Y : Int, dv = .int .i64 D ∧ 1600 ≤ Y ∧ Y ≤ 2200 ∧ 0 ≤ D ∧ D ≤ 100000 ∧ Hid (D + ys Y = q) ∧ Hid (Bx7 wr w.heap.size 0 0 0 0 0 0 0) ∧ Hid (Bx7 wr (w.heap.size + 1) Y 1 0 H I S 0) ∧ Hid (Below w.heap.size w wr)) (fun dv _ => (intOf dv).toNat)
      case atStart => exact ⟨_, _, rfl, by omega, by omega, by omega, by omega, HD, XR, XB, HB⟩
      case round =>
        clear b0 b1 b2 b3 b4 b5 b6 f0 f1 f2 f3 f4 f5 f6 HD XR XB HB Y0 Y1 D0 D1 D2
        obtain ⟨D, Y, rfl, Y0, Y1, D0, D1, HD, XR, XB, HB⟩ := hrel
        obtain ⟨b0, b1, b2, b3, b4, b5, b6⟩ := XB.out.cells
        obtain ⟨f0, f1, f2, f3, f4, f5, f6⟩ := XB.out.thaw
        by_cases hge : yd Y ≤ D
        · obtain ⟨n0, n1, n2⟩ := of_round2 HD.out q1 hge
          have hyd := yd_bound Y
          have XN := Lib.hid (XB.out.set0 (Y + 1))
          have XRN := Lib.hid (XR.out.other (C := w.heap.size + 1) (i := 0) (by omega) (.int .i64 (Y + 1)))
          have HBN := Lib.hid (below_set (C := w.heap.size + 1) (i := 0) HB.out (by omega) (.int .i64 (Y + 1)))
          have HDN := Lib.hid n0
          clear n0
          go_wp2_with fail
          refine (ryd_any Y _ (by omega) (by omega)).mono ?_
          rintro e w' ⟨rfl, rfl⟩
          go_wp2_with fail
          refine (ryd_any Y _ (by omega) (by omega)).mono ?_
          rintro e w' ⟨rfl, rfl⟩
          go_wp2_with fail
          go_round
          case rel => exact ⟨_, _, by go_num, by omega, by omega, by omega, by omega, HDN, XRN, XN, HBN⟩
          case measure => simp [intOf]; omega
        · have h13 := ms_13 Y
          have hD3 : Hid (D + ys Y + ms Y 1 = q) := Lib.hid (by rw [ms_one]; have := HD.out; omega)
          have hD4 : Hid (D + ms Y 1 < yd Y) := Lib.hid (by rw [ms_one]; omega)
          clear h13
          go_wp2_with fail
          refine (ryd_any Y _ (by omega) (by omega)).mono ?_
          rintro e w' ⟨rfl, rfl⟩
          go_wp2_with fail
          clear hge
          go_loopw [4] (fun dv wr => ∃ D M : Int, dv = .int .i64 D ∧ 1 ≤ M ∧ M ≤ 12 ∧ 0 ≤ D ∧ D ≤ 100000 ∧ Hid (D + ys Y + ms Y M = q) ∧ Hid (D + ms Y M < yd Y) ∧ Hid (Bx7 wr w.heap.size 0 0 0 0 0 0 0) ∧ Hid (Bx7 wr (w.heap.size + 1) Y M 0 H I S 0) ∧ Hid (Below w.heap.size w wr)) (fun dv _ => (intOf dv).toNat)
          case atStart => exact ⟨_, _, rfl, by omega, by omega, by omega, by omega, hD3, hD4, XR, XB, HB⟩
          case round =>
            clear b0 b1 b2 b3 b4 b5 b6 f0 f1 f2 f3 f4 f5 f6 HD XR XB HB D0 D1 hD3 hD4
            obtain ⟨D, M, rfl, M0, M1, D0, D1, HD, HL, XR, XB, HB⟩ := hrel
            obtain ⟨b0, b1, b2, b3, b4, b5, b6⟩ := XB.out.cells
            obtain ⟨f0, f1, f2, f3, f4, f5, f6⟩ := XB.out.thaw
            by_cases hge : md Y M ≤ D
            · obtain ⟨n0, n1, n2, n3⟩ := of_round3 HD.out HL.out M0 M1 hge
              have hmd := md_bound (y := Y) M0 M1
              have XN := Lib.hid (XB.out.set1 (M + 1))
              have XRN := Lib.hid (XR.out.other (C := w.heap.size + 1) (i := 1) (by omega) (.int .i64 (M + 1)))
              have HBN := Lib.hid (below_set (C := w.heap.size + 1) (i := 1) HB.out (by omega) (.int .i64 (M + 1)))
              have HDN := Lib.hid n0
              have HLN := Lib.hid n1
              clear n0 n1
              go_wp2_with fail
              refine (rmd_any Y M _ (by omega) (by omega)).mono ?_
              rintro e w' ⟨rfl, rfl⟩
              go_wp2_with fail
              refine (rmd_any Y M _ (by omega) (by omega)).mono ?_
              rintro e w' ⟨rfl, rfl⟩
              go_wp2_with fail
              go_round
              case rel => exact ⟨_, _, by go_num, by omega, by omega, by omega, by omega, HDN, HLN, XRN, XN, HBN⟩
              case measure => simp [intOf]; omega
            · have HE := Lib.hid (of_end (t := t) (Y := Y) (M := M) (D := D) (by rw [HQ.out]; exact HD.out) D0 (by omega) M0 M1)
              have XN := Lib.hid (XB.out.set2 (D + 1))
              have XRN := Lib.hid (XR.out.other (C := w.heap.size + 1) (i := 2) (by omega) (.int .i64 (D + 1)))
              have HBN := Lib.hid (below_set (C := w.heap.size + 1) (i := 2) HB.out (by omega) (.int .i64 (D + 1)))
              obtain ⟨WN, hWN⟩ : ∃ W, wr.setCell ⟨w.heap.size + 1, 2, none⟩ (.int .i64 (D + 1)) = W := ⟨_, rfl⟩
              rw [hWN] at XN XRN HBN
              obtain ⟨e0, e1, e2, e3, e4, e5, e6⟩ := XN.out.cells
              have r0 := XRN.out.cells.1
              have g0 := XRN.out.thaw.1
              have XS0 := Lib.hid (XRN.out.set0 Y)
              have HB1 := Lib.hid (below_set (C := w.heap.size) (i := 0) HBN.out (by omega) (.int .i64 Y))
              obtain ⟨S0, hS0⟩ : ∃ W, WN.setCell ⟨w.heap.size, 0, none⟩ (.int .i64 Y) = W := ⟨_, rfl⟩
              rw [hS0] at XS0 HB1
              have r1 := XS0.out.cells.2.1
              have g1 := XS0.out.thaw.2.1
              have XS1 := Lib.hid (XS0.out.set1 M)
              have HB2 := Lib.hid (below_set (C := w.heap.size) (i := 1) HB1.out (by omega) (.int .i64 M))
              obtain ⟨S1, hS1⟩ : ∃ W, S0.setCell ⟨w.heap.size, 1, none⟩ (.int .i64 M) = W := ⟨_, rfl⟩
              rw [hS1] at XS1 HB2
              have r2 := XS1.out.cells.2.2.1
              have g2 := XS1.out.thaw.2.2.1
              have XS2 := Lib.hid (XS1.out.set2 (D + 1))
              have HB3 := Lib.hid (below_set (C := w.heap.size) (i := 2) HB2.out (by omega) (.int .i64 (D + 1)))
              obtain ⟨S2, hS2⟩ : ∃ W, S1.setCell ⟨w.heap.size, 2, none⟩ (.int .i64 (D + 1)) = W := ⟨_, rfl⟩
              rw [hS2] at XS2 HB3
              have r3 := XS2.out.cells.2.2.2.1
              have g3 := XS2.out.thaw.2.2.2.1
              have XS3 := Lib.hid (XS2.out.set3 H)
              have HB4 := Lib.hid (below_set (C := w.heap.size) (i := 3) HB3.out (by omega) (.int .i64 H))
              obtain ⟨S3, hS3⟩ : ∃ W, S2.setCell ⟨w.heap.size, 3, none⟩ (.int .i64 H) = W := ⟨_, rfl⟩
              rw [hS3] at XS3 HB4
              have r4 := XS3.out.cells.2.2.2.2.1
              have g4 := XS3.out.thaw.2.2.2.2.1
              have XS4 := Lib.hid (XS3.out.set4 I)
              have HB5 := Lib.hid (below_set (C := w.heap.size) (i := 4) HB4.out (by omega) (.int .i64 I))
              obtain ⟨S4, hS4⟩ : ∃ W, S3.setCell ⟨w.heap.size, 4, none⟩ (.int .i64 I) = W := ⟨_, rfl⟩
              rw [hS4] at XS4 HB5
              have r5 := XS4.out.cells.2.2.2.2.2.1
              have g5 := XS4.out.thaw.2.2.2.2.2.1
              have XS5 := Lib.hid (XS4.out.set5 S)
              have HB6 := Lib.hid (below_set (C := w.heap.size) (i := 5) HB5.out (by omega) (.int .i64 S))
              obtain ⟨S5, hS5⟩ : ∃ W, S4.setCell ⟨w.heap.size, 5, none⟩ (.int .i64 S) = W := ⟨_, rfl⟩
              rw [hS5] at XS5 HB6
              have r6 := XS5.out.cells.2.2.2.2.2.2
              have g6 := XS5.out.thaw.2.2.2.2.2.2
              have XS6 := Lib.hid (XS5.out.set6 0)
              have HB7 := Lib.hid (below_set (C := w.heap.size) (i := 6) HB6.out (by omega) (.int .i64 0))
              obtain ⟨S6, hS6⟩ : ∃ W, S5.setCell ⟨w.heap.size, 6, none⟩ (.int .i64 0) = W := ⟨_, rfl⟩
              rw [hS6] at XS6 HB7
              obtain ⟨k0, k1, k2, k3, k4, k5, k6⟩ := XS6.out.cells
              go_wp2_with fail
              refine (rmd_any Y M _ (by omega) (by omega)).mono ?_
              rintro e w' ⟨rfl, rfl⟩
              go_wp2_with fail
              clear hge HL HD
              rw [HE.out.1, HE.out.2.1, HE.out.2.2, HH.out.1, HH.out.2.1, HH.out.2.2]
              exact bodyPost_ret (v := .tuple #[.agg #[.int .i64 Y, .int .i64 M, .int .i64 (D + 1), .int .i64 H, .int .i64 I, .int .i64 S, .int .i64 0], .int .i64 0]) (by simp [results, Tryz.results53, go_sem, k0, k1, k2, k3, k4, k5, k6]) rfl ⟨rfl, HB7.out⟩
end Go.Proofs.YtegpajdahanhfaaGreatDoor
