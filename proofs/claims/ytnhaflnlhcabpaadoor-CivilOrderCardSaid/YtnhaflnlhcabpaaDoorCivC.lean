/- Contracts of layer 5: Seconds of the specification. -/
import Derived.Test.YtnhaflnlhcabpaaDoorCivB
import Derived.Test.YtnhaflnlhcabpaaDoorFixG
namespace Go.Proofs.YtnhaflnlhcabpaaDoor
open Go.RowKit Fx Cv

/-- The second of a civil time. -/
def Cv.secN (y m d hh mi s : Int) : Int := num y m d * 86400 + hh * 3600 + mi * 60 + s
/-- Is it one of the seconds that have a civil time? -/
def Cv.inS (t : Int) : Bool := decide (-8000000000 ≤ t ∧ t ≤ 8000000000)
def Cv.secE (y m d hh mi s n : Int) : Int := if okC y m d hh mi s n = true ∧ inS (secN y m d hh mi s) = true then 0 else 3
def Cv.secV (y m d hh mi s n : Int) : Int := if secE y m d hh mi s n = 0 then secN y m d hh mi s else 0
theorem Cv.sec_no {y m d hh mi s n : Int} (h : ¬ (okC y m d hh mi s n = true ∧ inS (secN y m d hh mi s) = true)) : secE y m d hh mi s n = 3 ∧ secV y m d hh mi s n = 0 := by
  have e : secE y m d hh mi s n = 3 := by unfold secE; rw [if_neg h]
  exact ⟨e, by unfold secV; rw [e, if_neg (by decide)]⟩
theorem Cv.sec_yes {y m d hh mi s n : Int} (h : okC y m d hh mi s n = true) (h2 : inS (secN y m d hh mi s) = true) : secE y m d hh mi s n = 0 ∧ secV y m d hh mi s n = secN y m d hh mi s := by
  have e : secE y m d hh mi s n = 0 := by unfold secE; rw [if_pos ⟨h, h2⟩]
  exact ⟨e, by unfold secV; rw [if_pos e]⟩
theorem Cv.ret_ii {a b c d : Int} (h : a = b) (h' : c = d) : Ending.returned (.tuple #[.int .i64 a, .int .i64 c]) = .returned (.tuple #[.int .i64 b, .int .i64 d]) := by rw [h, h']
theorem Cv.blwn {B : Nat} {a w : World} (h : Below B a w) (n : Nat) : Below B a (w.drewN n) := ⟨h.os, h.tape, h.output, h.size, h.block⟩
theorem Cv.sz_alloc (w : World) (o : Obj) : (w.alloc o).heap.size = w.heap.size + 1 := by simp
theorem Cv.ys_1600 : ys 1600 = -109573 := by decide
theorem Cv.ys_2200 : ys 2200 = 109573 := by decide
theorem Cv.ys_bound {y : Int} (h : 1600 ≤ y) (h2 : y ≤ 2200) : -109573 ≤ ys y ∧ ys y ≤ 109573 := by
  have a := ys_mono h
  have b := ys_mono h2
  rw [ys_1600] at a; rw [ys_2200] at b
  omega
theorem Cv.ms_bound {y m : Int} (h : 1 ≤ m) (h2 : m ≤ 12) : 0 ≤ ms y m ∧ ms y m ≤ 366 := by
  have a := ms_mono (y := y) (m := 1) (k := m) (by omega) h (by omega)
  have b := ms_mono (y := y) (m := m) (k := 13) h (by omega) (by omega)
  have := yd_bound y
  rw [ms_one] at a; rw [ms_13] at b
  omega

set_option maxRecDepth 100000 in
theorem rsec_no (y m d hh mi s n : Int) (w : World) (y1 : y ≤ 9223372036854775807) (h : okC y m d hh mi s n = false) :
    Calls Tryd.prog 12 #[.agg #[.int .i64 y, .int .i64 m, .int .i64 d, .int .i64 hh, .int .i64 mi, .int .i64 s, .int .i64 n]] w fun e w' => e = .returned (.tuple #[.int .i64 (secV y m d hh mi s n), .int .i64 (secE y m d hh mi s n)]) ∧ Below w.heap.size w w' := by
  have hS := sec_no (y := y) (m := m) (d := d) (hh := hh) (mi := mi) (s := s) (n := n) (by rw [h]; simp)
  have HE := Lib.hid hS.1
  have HV := Lib.hid hS.2
  have HK := Lib.hid (show chkC y m d hh mi s n = 3 by unfold chkC; rw [h]; rfl)
  rw [HE.out, HV.out]
  clear hS h
  have B1 := Lib.hid ((Below.refl w.heap.size w).alloc (Nat.le_refl _) (.cells #[.int .i64 y, .int .i64 m, .int .i64 d, .int .i64 hh, .int .i64 mi, .int .i64 s, .int .i64 n] 23))
  go_enter Tryd.func12, Tryd.ntmps12
  go_wp2_with fail
  refine (rcchk_any y m d hh mi s n _ y1).mono ?_
  rintro e w' ⟨rfl, k, rfl⟩
  rw [HK.out]
  go_wp2_with fail
  go_ret2
  exact ⟨rfl, blwn (B1.out.alloc (by simp) _) k⟩

set_option maxRecDepth 100000 in
theorem rsec_ok (y m d hh mi s n : Int) (w : World) (h : okC y m d hh mi s n = true) :
    Calls Tryd.prog 12 #[.agg #[.int .i64 y, .int .i64 m, .int .i64 d, .int .i64 hh, .int .i64 mi, .int .i64 s, .int .i64 n]] w fun e w' => e = .returned (.tuple #[.int .i64 (secV y m d hh mi s n), .int .i64 (secE y m d hh mi s n)]) ∧ Below w.heap.size w w' := by
  obtain ⟨y0, y1, m0, m1, d0, d1, h0, h1, i0, i1, s0, s1, n0, n1⟩ := okC_iff.1 h
  have HK := Lib.hid (chk_ok h)
  have HO := Lib.hid h
  have hmd := (md_bound (y := y) m0 m1).2
  have d2 : d ≤ 31 := by omega
  have hys := ys_bound y0 y1
  have hms := ms_bound (y := y) m0 m1
  clear h hmd d1 n0 n1
  have B1 := Lib.hid ((Below.refl w.heap.size w).alloc (Nat.le_refl _) (.cells #[.int .i64 y, .int .i64 m, .int .i64 d, .int .i64 hh, .int .i64 mi, .int .i64 s, .int .i64 n] 23))
  have X1 := Lib.hid (heap_alloc_new w (.cells #[.int .i64 y, .int .i64 m, .int .i64 d, .int .i64 hh, .int .i64 mi, .int .i64 s, .int .i64 n] 23))
  obtain ⟨W1, hW1⟩ : ∃ W, w.alloc (.cells #[.int .i64 y, .int .i64 m, .int .i64 d, .int .i64 hh, .int .i64 mi, .int .i64 s, .int .i64 n] 23) = W := ⟨_, rfl⟩
  have z1 := sz_alloc w (.cells #[.int .i64 y, .int .i64 m, .int .i64 d, .int .i64 hh, .int .i64 mi, .int .i64 s, .int .i64 n] 23)
  rw [hW1] at B1 X1 z1
  have HW1 := Lib.hid hW1
  clear hW1
  go_enter Tryd.func12, Tryd.ntmps12
  go_wp2_with fail
  rw [HW1.out]
  refine (rcchk_any y m d hh mi s n _ (by omega)).mono ?_
  rintro e w' ⟨rfl, k, hw'⟩
  have hb := blwn ((Below.refl W1.heap.size W1).alloc (Nat.le_refl _) (.cells #[.int .i64 y, .int .i64 m, .int .i64 d, .int .i64 hh, .int .i64 mi, .int .i64 s, .int .i64 n] 23)) k
  rw [← hw'] at hb
  have B2 := Lib.hid (B1.out.trans (hb.mono (by omega)))
  have X2 := (hb.block w.heap.size (by omega)).trans X1.out
  obtain ⟨c0, c1, c2, c3, c4, c5, c6⟩ := seven_cells X2
  rw [HK.out]
  clear hw' hb B1 X1 X2 z1
  go_wp2_with fail
  go_loop [4, 5] (fun dv yv => ∃ D Y : Int, dv = .int .i64 D ∧ yv = .int .i64 Y ∧ 1900 ≤ Y ∧ Y ≤ 2200 ∧ (Y ≤ y ∨ Y = 1900) ∧ -200000 ≤ D ∧ D ≤ 200000 ∧ Hid (D = d - 1 + ys Y)) (fun _ yv => 2200 - (intOf yv).toNat)
  case atStart => exact ⟨_, _, rfl, rfl, by omega, by omega, by omega, by omega, by omega, Lib.hid (by rw [ys_1900]; omega)⟩
  case round =>
    obtain ⟨D, Y, rfl, rfl, Y0, Y1, Y2, D0, D1, HD⟩ := hrel
    by_cases hlt : Y < y
    · have hyd := yd_bound Y
      have hnx : Hid (D + yd Y = d - 1 + ys (Y + 1)) := Lib.hid (by rw [ys_succ, HD.out]; omega)
      have hb1 := ys_bound (y := Y + 1) (by omega) (by omega)
      have hD1 : D + yd Y ≤ 200000 := by rw [hnx.out]; omega
      go_wp2_with fail
      refine (ryd_any Y _ (by omega) (by omega)).mono ?_
      rintro e w' ⟨rfl, rfl⟩
      go_wp2_with fail
      go_round
      case rel => exact ⟨_, _, by go_num, by go_num, by omega, by omega, by omega, by omega, by omega, hnx⟩
      case measure => simp [intOf]; omega
    · go_wp2_with fail
      go_loop [4, 6] (fun dv zv => ∃ D Z : Int, dv = .int .i64 D ∧ zv = .int .i64 Z ∧ y ≤ Z ∧ Z ≤ 2200 ∧ (Z ≤ 1900 ∨ Z = y) ∧ -200000 ≤ D ∧ D ≤ 200000 ∧ Hid (D = d - 1 + ys Y - ys Z + ys y)) (fun _ zv => 2200 - (intOf zv).toNat)
      case atStart => exact ⟨_, _, rfl, rfl, by omega, by omega, by omega, by omega, by omega, Lib.hid (by rw [HD.out]; omega)⟩
      case round =>
        obtain ⟨D, Z, rfl, rfl, Z0, Z1, Z2, D0, D1, HD⟩ := hrel
        by_cases hlt2 : Z < 1900
        · have hyd := yd_bound Z
          have hnx : Hid (D - yd Z = d - 1 + ys Y - ys (Z + 1) + ys y) := Lib.hid (by rw [ys_succ, HD.out]; omega)
          have hD1 : -200000 ≤ D - yd Z := by
            have := ys_mono (y := y) (z := Z + 1) (by omega)
            have := ys_mono (y := Z + 1) (z := 1900) (by omega)
            have := ys_1900
            have hY : Y = 1900 := by omega
            have e := hnx.out
            rw [hY] at e
            omega
          go_wp2_with fail
          refine (ryd_any Z _ (by omega) (by omega)).mono ?_
          rintro e w' ⟨rfl, rfl⟩
          go_wp2_with fail
          go_round
          case rel => exact ⟨_, _, by go_num, by go_num, by omega, by omega, by omega, by omega, by omega, hnx⟩
          case measure => simp [intOf]; omega
        · have HY : Hid (D = d - 1 + ys y) := Lib.hid (by
            rcases (show Z = Y by omega) with rfl
            rw [HD.out]; omega)
          clear HD
          go_wp2_with fail
          go_loop [4, 7] (fun dv kv => ∃ D K : Int, dv = .int .i64 D ∧ kv = .int .i64 K ∧ 1 ≤ K ∧ K ≤ m ∧ -200000 ≤ D ∧ D ≤ 200000 ∧ Hid (D = d - 1 + ys y + ms y K)) (fun _ kv => 12 - (intOf kv).toNat)
          case atStart => exact ⟨_, _, rfl, rfl, by omega, by omega, by omega, by omega, Lib.hid (by rw [HY.out, ms_one]; omega)⟩
          case round =>
            obtain ⟨D, K, rfl, rfl, K0, K1, D0, D1, HD⟩ := hrel
            by_cases hlt3 : K < m
            · have hmk := md_bound (y := y) K0 (by omega)
              have hnx : Hid (D + md y K = d - 1 + ys y + ms y (K + 1)) := Lib.hid (by rw [ms_succ K0 (by omega), HD.out]; omega)
              have hbm := ms_bound (y := y) (m := K + 1) (by omega) (by omega)
              have hD1 : D + md y K ≤ 200000 := by rw [hnx.out]; omega
              go_wp2_with fail
              refine (rmd_any y K _ (by omega) (by omega)).mono ?_
              rintro e w' ⟨rfl, rfl⟩
              go_wp2_with fail
              go_round
              case rel => exact ⟨_, _, by go_num, by go_num, by omega, by omega, by omega, by omega, hnx⟩
              case measure => simp [intOf]; omega
            · obtain rfl : K = m := by omega
              have hN : D * 86400 + hh * 3600 + mi * 60 + s = secN y K d hh mi s := by
                rw [HD.out]; simp only [secN, num]; omega
              obtain ⟨N, hNN⟩ : ∃ N, D * 86400 + hh * 3600 + mi * 60 + s = N := ⟨_, rfl⟩
              have HR : Hid (N = secN y K d hh mi s) := Lib.hid (by rw [← hNN, hN])
              clear hN HD hlt hlt2 hlt3 HY Y2 Z2
              by_cases q0 : N < -8000000000
              · have hS := sec_no (y := y) (m := K) (d := d) (hh := hh) (mi := mi) (s := s) (n := n) (by rw [← HR.out]; simp [inS]; omega)
                have HE := Lib.hid hS.1
                have HV := Lib.hid hS.2
                clear hS
                go_wp2_with fail
                all_goals (go_ret2; exact ⟨ret_ii HV.out.symm HE.out.symm, B2.out⟩)
              · by_cases q1 : 8000000000 < N
                · have hS := sec_no (y := y) (m := K) (d := d) (hh := hh) (mi := mi) (s := s) (n := n) (by rw [← HR.out]; simp [inS]; omega)
                  have HE := Lib.hid hS.1
                  have HV := Lib.hid hS.2
                  have q2 : decide (N < -8000000000) = false := decide_eq_false q0
                  clear hS
                  go_wp2_with fail
                  all_goals (go_ret2; exact ⟨ret_ii HV.out.symm HE.out.symm, B2.out⟩)
                · have hS := sec_yes (y := y) (m := K) (d := d) (hh := hh) (mi := mi) (s := s) (n := n) HO.out (by rw [← HR.out]; simp [inS]; omega)
                  have HE := Lib.hid hS.1
                  have HV := Lib.hid (hS.2.trans HR.out.symm)
                  have q2 : decide (N < -8000000000) = false := decide_eq_false q0
                  have q3 : decide (8000000000 < N) = false := decide_eq_false q1
                  clear hS
                  go_wp2_with fail
                  all_goals (go_ret2; exact ⟨ret_ii HV.out.symm HE.out.symm, B2.out⟩)

end Go.Proofs.YtnhaflnlhcabpaaDoor
