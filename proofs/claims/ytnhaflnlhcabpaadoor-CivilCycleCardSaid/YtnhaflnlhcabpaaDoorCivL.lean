/- Contracts of layer 5: the program's Seconds and Text. -/
import Derived.Test.YtnhaflnlhcabpaaDoorCivK
import Derived.Test.YtnhaflnlhcabpaaDoorShelf
namespace Go.Proofs.YtnhaflnlhcabpaaDoor
open Go.RowKit Fx Cv Pt

theorem pof_any (t : Int) (w : World) (ht : MT w) :
    Calls Tryd.prog 16 #[.int .i64 t] w fun e w' => e = .returned (.tuple #[.agg #[.int .i64 (ofP t (oY t)), .int .i64 (ofP t (oM t)), .int .i64 (ofP t (oD t)), .int .i64 (ofP t (oH t)), .int .i64 (ofP t (oI t)), .int .i64 (ofP t (oS t)), .int .i64 (ofP t (0))], .int .i64 (ofE t)]) ∧ Below w.heap.size w w' := by
  unfold ofE ofP
  cases h : inS t
  · simp only [Bool.false_eq_true, if_false]
    exact pof_no t w h
  · simp only [if_true]
    exact pof_ok t w ht h

set_option maxRecDepth 100000 in
theorem psec_no (y m d hh mi s n : Int) (w : World) (ht : MT w) (h : okC y m d hh mi s n = false) :
    Calls Tryd.prog 11 #[.agg #[.int .i64 y, .int .i64 m, .int .i64 d, .int .i64 hh, .int .i64 mi, .int .i64 s, .int .i64 n]] w fun e w' => e = .returned (.tuple #[.int .i64 (secV y m d hh mi s n), .int .i64 (secE y m d hh mi s n)]) ∧ Below w.heap.size w w' := by
  have hS := sec_no (y := y) (m := m) (d := d) (hh := hh) (mi := mi) (s := s) (n := n) (by rw [h]; simp)
  have HE := Lib.hid hS.1
  have HV := Lib.hid hS.2
  have HK := Lib.hid (show chkC y m d hh mi s n = 3 by unfold chkC; rw [h]; rfl)
  rw [HE.out, HV.out]
  clear hS h
  have B1 := Lib.hid ((Below.refl w.heap.size w).alloc (Nat.le_refl _) (.cells #[.int .i64 y, .int .i64 m, .int .i64 d, .int .i64 hh, .int .i64 mi, .int .i64 s, .int .i64 n] 23))
  have HT := Lib.hid (ht.below B1.out)
  clear ht
  go_enter Tryd.func11, Tryd.ntmps11
  go_wp2_with fail
  refine (pchk_any y m d hh mi s n _ HT.out).mono ?_
  rintro e w2 ⟨rfl, hb⟩
  rw [HK.out]
  have B2 := Lib.hid (B1.out.trans (hb.mono (by simp)))
  clear hb
  go_wp2_with fail
  go_ret2
  exact ⟨rfl, B2.out⟩

set_option maxRecDepth 100000 in
theorem psec_ok (y m d hh mi s n : Int) (w : World) (ht : MT w) (h : okC y m d hh mi s n = true) :
    Calls Tryd.prog 11 #[.agg #[.int .i64 y, .int .i64 m, .int .i64 d, .int .i64 hh, .int .i64 mi, .int .i64 s, .int .i64 n]] w fun e w' => e = .returned (.tuple #[.int .i64 (secV y m d hh mi s n), .int .i64 (secE y m d hh mi s n)]) ∧ Below w.heap.size w w' := by
  obtain ⟨y0, y1, m0, m1, d0, d1, h0, h1, i0, i1, s0, s1, n0, n1⟩ := okC_iff.1 h
  have HK := Lib.hid (chk_ok h)
  have HO := Lib.hid h
  have hmd := (md_bound (y := y) m0 m1).2
  have d2 : d ≤ 31 := by omega
  have hys := ys_bound y0 y1
  have hms := ms_bound (y := y) m0 m1
  clear h hmd d1 n0 n1
  have B1 := Lib.hid ((Below.refl w.heap.size w).alloc (Nat.le_refl _) (.cells #[.int .i64 y, .int .i64 m, .int .i64 d, .int .i64 hh, .int .i64 mi, .int .i64 s, .int .i64 n] 23))
  have X1 := Lib.hid (bx7_new w y m d hh mi s n)
  obtain ⟨W1, hW1⟩ : ∃ W, w.alloc (.cells #[.int .i64 y, .int .i64 m, .int .i64 d, .int .i64 hh, .int .i64 mi, .int .i64 s, .int .i64 n] 23) = W := ⟨_, rfl⟩
  have z1 := sz_alloc w (.cells #[.int .i64 y, .int .i64 m, .int .i64 d, .int .i64 hh, .int .i64 mi, .int .i64 s, .int .i64 n] 23)
  rw [hW1] at B1 X1 z1
  have HW1 := Lib.hid hW1
  have HT := Lib.hid (ht.below B1.out)
  clear hW1 ht
  obtain ⟨U, hU⟩ : ∃ U, ys y + ms y m = U := ⟨_, rfl⟩
  have u0 : -200000 ≤ U := by omega
  have u1 : U ≤ 200000 := by omega
  have hN : (U + d - 1) * 86400 + hh * 3600 + mi * 60 + s = secN y m d hh mi s := by simp only [secN, num]; omega
  have HU := Lib.hid hU
  clear hys hms hU
  go_enter Tryd.func11, Tryd.ntmps11
  go_wp2_with fail
  rw [HW1.out]
  refine (pchk_any y m d hh mi s n _ HT.out).mono ?_
  rintro e w2 ⟨rfl, hb⟩
  have B2 := Lib.hid (B1.out.trans (hb.mono (by omega)))
  have X2 := Lib.hid (X1.out.below hb (by omega))
  have T2 := Lib.hid (HT.out.below hb)
  obtain ⟨c0, c1, c2, c3, c4, c5, c6⟩ := X2.out.cells
  rw [HK.out]
  clear hb B1 X1 HT z1
  obtain ⟨t, hT⟩ : ∃ t, (U + d - 1) * 86400 + hh * 3600 + mi * 60 + s = t := ⟨_, rfl⟩
  have HR : Hid (t = secN y m d hh mi s) := Lib.hid (by rw [← hT, hN])
  clear hN
  go_wp2_with fail
  go_quiet ((go_at_call 29; exact Calls.quiet_of_same ((mbegin_any y m _ (MT.drewN T2.out _) y0 y1 m0 m1).mono (by rintro e w' ⟨rfl, rfl⟩; rw [HU.out]; exact ⟨rfl, rfl⟩))))
  go_wp2_with fail
  refine (issec_any _ _).mono ?_
  rintro e w' ⟨rfl, hw'⟩; subst w'
  obtain ⟨b, hb⟩ : ∃ b, inS t = b := ⟨_, rfl⟩
  have HB := Lib.hid hb
  rw [HB.out]
  cases b
  · have hS := sec_no (y := y) (m := m) (d := d) (hh := hh) (mi := mi) (s := s) (n := n) (by rw [← HR.out, hb]; simp)
    have HE := Lib.hid hS.1
    have HV := Lib.hid hS.2
    clear hS hb
    go_wp2_with fail
    go_ret2
    exact ⟨ret_ii HV.out.symm HE.out.symm, blwn B2.out _⟩
  · have hS := sec_yes (y := y) (m := m) (d := d) (hh := hh) (mi := mi) (s := s) (n := n) HO.out (by rw [← HR.out]; exact hb)
    have HE := Lib.hid hS.1
    have HV := Lib.hid (hS.2.trans HR.out.symm)
    clear hS hb
    go_wp2_with fail
    go_ret2
    exact ⟨ret_ii HV.out.symm HE.out.symm, blwn B2.out _⟩
theorem psec_any (y m d hh mi s n : Int) (w : World) (ht : MT w) :
    Calls Tryd.prog 11 #[.agg #[.int .i64 y, .int .i64 m, .int .i64 d, .int .i64 hh, .int .i64 mi, .int .i64 s, .int .i64 n]] w fun e w' => e = .returned (.tuple #[.int .i64 (secV y m d hh mi s n), .int .i64 (secE y m d hh mi s n)]) ∧ Below w.heap.size w w' := by
  cases h : okC y m d hh mi s n
  · exact psec_no y m d hh mi s n w ht h
  · exact psec_ok y m d hh mi s n w ht h
end Go.Proofs.YtnhaflnlhcabpaaDoor
