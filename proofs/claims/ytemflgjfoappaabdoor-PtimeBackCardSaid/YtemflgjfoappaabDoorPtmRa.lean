/- Contracts of layer 4: the specification's Parse. -/
import Derived.Test.YtemflgjfoappaabDoorPtmZ
namespace Go.Proofs.YtemflgjfoappaabDoor
open Go.RowKit Fx Pt Wi

theorem Pt.num_dec {S : Nat} (h : S ≤ 281474976710655) : nmB (Lib.decDigits S) = true ∧ nmV (Lib.decDigits S) = S := by
  have hb : nmB (Lib.decDigits S) = true := decide_eq_true ⟨fun h => by have := dec_pos S; rw [h] at this; simp at this, dec_le 15 S (by decide) (by omega), digs_dec S⟩
  exact ⟨hb, by unfold nmV; rw [if_pos hb, dval_dec]⟩
theorem Pt.num_low {N : Nat} (h : N < 1000000000) : nmB (low N 9) = true ∧ nmV (low N 9) = N := by
  have hb : nmB (low N 9) = true := decide_eq_true ⟨fun h => by have := low_len N 9; rw [h] at this; simp at this, by rw [low_len]; decide, digs_low N 9⟩
  have e : dval 0 (low N 9) = N := by rw [dval_low]; exact Nat.mod_eq_of_lt (by simpa using h)
  exact ⟨hb, by unfold nmV; rw [if_pos hb, e]⟩
theorem Pt.txt_cut (S N : Nat) (x : ByteArray) (hx : x = ⟨(ptL S N).toArray⟩) : x.size = (Lib.decDigits S).length + 10 ∧ x.extract 0 (Lib.decDigits S).length = ⟨(Lib.decDigits S).toArray⟩ ∧ x.extract ((Lib.decDigits S).length + 1) x.size = ⟨(low N 9).toArray⟩ := by
  have hz : x.size = (Lib.decDigits S).length + 10 := by
    rw [hx]; show (ptL S N).toArray.size = _
    simp [ptL, low_len]
  refine ⟨hz, ?_, ?_⟩
  · rw [hx, ByteArray.extract_mk]; simp [ptL]
  · rw [hz, hx, ByteArray.extract_mk]
    have e : (ptL S N).drop ((Lib.decDigits S).length + 1) = low N 9 := by
      unfold ptL; rw [List.drop_append]; simp
    rw [e, List.take_of_length_le (by rw [low_len]; omega)]

theorem Pt.bx_store1 {w : World} {B : Nat} {a b : Int} (h : Bx w B a b) (s n : Int) (o : Obj) : Bx (((w.setCell ⟨B, 0, none⟩ (.int .i64 s)).setCell ⟨B, 1, none⟩ (.int .i64 n)).alloc o) B s n :=
  (Below.heap_alloc _ _ _ (bx_store h s n).lt).trans (bx_store h s n)

set_option maxRecDepth 100000 in
theorem rparse_yes (S N : Nat) (x : ByteArray) (w : World) (hx : x = txt S N) (hS : S ≤ 281474976710655) (hN : N < 1000000000) :
    Calls Tryd.prog 10 #[.string x] w fun e w' => e = .returned (.tuple #[.agg #[.int .i64 S, .int .i64 N], .int .i64 0]) ∧ Below w.heap.size w w' := by
  have ho : ok S N = true := ok_iff.2 ⟨by omega, by omega, by omega, by omega⟩
  have hx2 : x = ⟨(ptL S N).toArray⟩ := by rw [hx]; unfold txt; rw [ho]; rfl
  obtain ⟨hz, hcb, hca⟩ := txt_cut S N x hx2
  have q1 := dec_pos S
  have q2 := dec_le 15 S (by decide) (by omega)
  have SD : Hid ((⟨(Lib.decDigits S).toArray⟩ : ByteArray).size ≤ 9223372036854775807) := Lib.hid (by show (Lib.decDigits S).toArray.size ≤ _; rw [List.size_toArray]; omega)
  obtain ⟨q, hq⟩ : ∃ q, (Lib.decDigits S).length = q := ⟨_, rfl⟩
  rw [hq] at hz hcb hca q1 q2
  have HB := Lib.hid (num_dec hS)
  have HA := Lib.hid (num_low hN)
  have HX := Lib.hid hx.symm
  have hat : (x.size : Int) - 10 = q := by omega
  have l0 : ¬ (x.size : Int) < 11 := by omega
  have l1 : decide (25 < (x.size : Int)) = false := decide_eq_false (by omega)
  have l2 : decide ((x.size : Int) < 11) = false := decide_eq_false (by omega)
  have q3 : q + 1 ≤ x.size := by omega
  have q4 : (q : Int) + 1 ≤ x.size := by omega
  have q5 : (q : Int) ≤ x.size := by omega
  have q6 : x.size ≤ 25 := by omega
  have X0 := Lib.hid (bx_new w 0 0)
  have B0 := Lib.hid ((Below.refl w.heap.size w).alloc (Nat.le_refl _) (.cells #[.int .i64 0, .int .i64 0] 23))
  obtain ⟨W0, hW0⟩ : ∃ W, w.alloc (.cells #[.int .i64 0, .int .i64 0] 23) = W := ⟨_, rfl⟩
  have z0 : w.heap.size < (w.alloc (.cells #[.int .i64 0, .int .i64 0] 23)).heap.size := by rw [size_alloc]; omega
  rw [hW0] at X0 B0 z0
  have HW0 := Lib.hid hW0
  clear hx hx2 hz hW0 ho hq
  go_enter Tryd.func10, Tryd.ntmps10
  go_wp2_with fail
  rw [HW0.out]
  refine (number_any _ _ SD.out).mono ?_
  rintro e w' ⟨rfl, rfl⟩
  rw [show nmV (⟨(Lib.decDigits S).toArray⟩ : ByteArray).data.toList = S from HB.out.2, show nmB (⟨(Lib.decDigits S).toArray⟩ : ByteArray).data.toList = true from HB.out.1]
  go_wp2_with fail
  refine (number_any _ _ (by show (low N 9).toArray.size ≤ _; simp [low_len])).mono ?_
  rintro e w' ⟨rfl, rfl⟩
  rw [show nmV (⟨(low N 9).toArray⟩ : ByteArray).data.toList = N from HA.out.2, show nmB (⟨(low N 9).toArray⟩ : ByteArray).data.toList = true from HA.out.1]
  have hw3' := (Below.refl W0.heap.size W0).alloc (Nat.le_refl _) (.cells #[.int .i64 S, .int .i64 N] 23)
  have Y3 := Lib.hid (bx_new W0 S N)
  have z3 := size_alloc W0 (.cells #[.int .i64 S, .int .i64 N] 23)
  obtain ⟨W3, hW3⟩ : ∃ W, W0.alloc (.cells #[.int .i64 S, .int .i64 N] 23) = W := ⟨_, rfl⟩
  rw [hW3] at hw3' Y3 z3
  have X3 := Lib.hid (X0.out.below hw3' (by omega))
  have B3 := Lib.hid (B0.out.trans (hw3'.mono (by omega)))
  have HW3 := Lib.hid hW3
  clear hw3' hW3 X0 B0
  obtain ⟨y0, y1, _, _, _⟩ := two_cells Y3.out
  go_wp2_with fail
  rw [HW3.out]
  refine (prtext_any S N _).mono ?_
  rintro e w4 ⟨rfl, hw4⟩
  rw [HX.out]
  have X4 := Lib.hid (X3.out.below hw4 (by omega))
  have Y4 := Lib.hid (Y3.out.below hw4 (by omega))
  have B4 := Lib.hid (B3.out.trans (hw4.mono B3.out.size))
  have z4 := hw4.size
  obtain ⟨v0, v1, _, _, _⟩ := two_cells Y4.out
  obtain ⟨x0, x1, f0, f1, _⟩ := two_cells X4.out
  obtain ⟨c0, c1, _, _, _⟩ := two_cells (bx_store X4.out S N)
  clear hw4 X3 Y3 B3 y0 y1
  go_wp2_with fail
  exact bodyPost_ret (v := .tuple #[.agg #[.int .i64 S, .int .i64 N], .int .i64 0]) (by simp [results, Tryd.results10, go_sem, c0, c1]) rfl ⟨rfl, (B4.out.setCell (Nat.le_refl _) _).setCell (Nat.le_refl _) _⟩

set_option maxRecDepth 100000 in
theorem rparse_no (x : ByteArray) (w : World) (hs : x.size ≤ 9223372036854775807) (hx : NoTxt x) :
    Calls Tryd.prog 10 #[.string x] w fun e w' => e = .returned (.tuple #[.agg #[.int .i64 0, .int .i64 0], .int .i64 19]) ∧ Below w.heap.size w w' := by
  have HX := Lib.hid hx
  clear hx
  by_cases h11 : x.size < 11
  · have h11' : (x.size : Int) < 11 := by omega
    go_enter Tryd.func10, Tryd.ntmps10
    go_wp2_with fail
    all_goals exact bodyPost_ret (v := .tuple #[.agg #[.int .i64 0, .int .i64 0], .int .i64 19]) (by simp [results, Tryd.results10, go_sem]) rfl ⟨rfl, (Below.refl _ _).alloc (Nat.le_refl _) _⟩
  · have l2 : decide ((x.size : Int) < 11) = false := decide_eq_false (by omega)
    by_cases h25 : 25 < x.size
    · have h25' : 25 < (x.size : Int) := by omega
      go_enter Tryd.func10, Tryd.ntmps10
      go_wp2_with fail
      all_goals exact bodyPost_ret (v := .tuple #[.agg #[.int .i64 0, .int .i64 0], .int .i64 19]) (by simp [results, Tryd.results10, go_sem]) rfl ⟨rfl, (Below.refl _ _).alloc (Nat.le_refl _) _⟩
    · have l1 : decide (25 < (x.size : Int)) = false := decide_eq_false (by omega)
      obtain ⟨q, hq⟩ : ∃ q : Nat, (x.size : Int) - 10 = q := ⟨x.size - 10, by omega⟩
      have q3 : q + 1 ≤ x.size := by omega
      have q4 : (q : Int) + 1 ≤ x.size := by omega
      have q5 : (q : Int) ≤ x.size := by omega
      obtain ⟨yb, hyb⟩ : ∃ y, x.extract 0 q = y := ⟨_, rfl⟩
      obtain ⟨ya, hya⟩ : ∃ y, x.extract (q + 1) x.size = y := ⟨_, rfl⟩
      have sb : yb.size ≤ 25 := by rw [← hyb, ByteArray.size_extract]; omega
      have sa : ya.size ≤ 25 := by rw [← hya, ByteArray.size_extract]; omega
      obtain ⟨v1, hv1⟩ : ∃ v, nmV yb.data.toList = v := ⟨_, rfl⟩
      obtain ⟨v2, hv2⟩ : ∃ v, nmV ya.data.toList = v := ⟨_, rfl⟩
      have HV1 := Lib.hid hv1
      have HV2 := Lib.hid hv2
      have hne : txt v1 v2 ≠ x := by
        rcases ho : ok v1 v2 with _ | _
        · intro h
          have h0 : x = ⟨#[]⟩ := by rw [← h]; unfold txt; rw [ho]; rfl
          rw [h0] at h11; exact h11 (by decide)
        · exact HX.out v1 v2 ho
      obtain ⟨T, hT⟩ : ∃ T, txt v1 v2 = T := ⟨_, rfl⟩
      rw [hT] at hne
      have hne' : (T.toList == x.toList) = false := bytes_ne hne
      have HT := Lib.hid hT
      have X0 := Lib.hid (bx_new w 0 0)
      have B0 := Lib.hid ((Below.refl w.heap.size w).alloc (Nat.le_refl _) (.cells #[.int .i64 0, .int .i64 0] 23))
      obtain ⟨W0, hW0⟩ : ∃ W, w.alloc (.cells #[.int .i64 0, .int .i64 0] 23) = W := ⟨_, rfl⟩
      have z0 : w.heap.size < (w.alloc (.cells #[.int .i64 0, .int .i64 0] 23)).heap.size := by rw [size_alloc]; omega
      rw [hW0] at X0 B0 z0
      have HW0 := Lib.hid hW0
      have hw3' := (Below.refl W0.heap.size W0).alloc (Nat.le_refl _) (.cells #[.int .i64 v1, .int .i64 v2] 23)
      have Y3 := Lib.hid (bx_new W0 v1 v2)
      have z3 := size_alloc W0 (.cells #[.int .i64 v1, .int .i64 v2] 23)
      obtain ⟨W3, hW3⟩ : ∃ W, W0.alloc (.cells #[.int .i64 v1, .int .i64 v2] 23) = W := ⟨_, rfl⟩
      rw [hW3] at hw3' Y3 z3
      have X3 := Lib.hid (X0.out.below hw3' (by omega))
      have B3 := Lib.hid (B0.out.trans (hw3'.mono (by omega)))
      have HW3 := Lib.hid hW3
      clear hw3' hW3 hW0 hv1 hv2 hne hT
      rcases hb1 : nmB yb.data.toList with _ | _
      · have HB1 := Lib.hid hb1
        clear hb1
        rcases hb2 : nmB ya.data.toList with _ | _
        · have HB2 := Lib.hid hb2
          clear hb2
          go_enter Tryd.func10, Tryd.ntmps10
          go_wp2_with fail
          rw [HW0.out]
          refine (number_any yb _ (by omega)).mono ?_
          rintro e w' ⟨rfl, rfl⟩
          rw [HV1.out, HB1.out]
          go_wp2_with fail
          refine (number_any ya _ (by omega)).mono ?_
          rintro e w' ⟨rfl, rfl⟩
          rw [HV2.out, HB2.out]
          obtain ⟨x0, x1, f0, f1, _⟩ := two_cells X0.out
          obtain ⟨c0, c1, _, _, _⟩ := two_cells (bx_store1 X0.out 0 0 (.cells #[.int .i64 v1, .int .i64 v2] 23))
          go_wp2_with fail
          exact bodyPost_ret (v := .tuple #[.agg #[.int .i64 0, .int .i64 0], .int .i64 19]) (by simp [results, Tryd.results10, go_sem, c0, c1]) rfl ⟨rfl, ((B0.out.setCell (Nat.le_refl _) _).setCell (Nat.le_refl _) _).alloc (by simp; omega) _⟩
        · have HB2 := Lib.hid hb2
          clear hb2
          go_enter Tryd.func10, Tryd.ntmps10
          go_wp2_with fail
          rw [HW0.out]
          refine (number_any yb _ (by omega)).mono ?_
          rintro e w' ⟨rfl, rfl⟩
          rw [HV1.out, HB1.out]
          go_wp2_with fail
          refine (number_any ya _ (by omega)).mono ?_
          rintro e w' ⟨rfl, rfl⟩
          rw [HV2.out, HB2.out]
          obtain ⟨x0, x1, f0, f1, _⟩ := two_cells X0.out
          obtain ⟨c0, c1, _, _, _⟩ := two_cells (bx_store1 X0.out 0 0 (.cells #[.int .i64 v1, .int .i64 v2] 23))
          go_wp2_with fail
          exact bodyPost_ret (v := .tuple #[.agg #[.int .i64 0, .int .i64 0], .int .i64 19]) (by simp [results, Tryd.results10, go_sem, c0, c1]) rfl ⟨rfl, ((B0.out.setCell (Nat.le_refl _) _).setCell (Nat.le_refl _) _).alloc (by simp; omega) _⟩
      · have HB1 := Lib.hid hb1
        clear hb1
        rcases hb2 : nmB ya.data.toList with _ | _
        · have HB2 := Lib.hid hb2
          clear hb2
          go_enter Tryd.func10, Tryd.ntmps10
          go_wp2_with fail
          rw [HW0.out]
          refine (number_any yb _ (by omega)).mono ?_
          rintro e w' ⟨rfl, rfl⟩
          rw [HV1.out, HB1.out]
          go_wp2_with fail
          refine (number_any ya _ (by omega)).mono ?_
          rintro e w' ⟨rfl, rfl⟩
          rw [HV2.out, HB2.out]
          obtain ⟨x0, x1, f0, f1, _⟩ := two_cells X0.out
          obtain ⟨c0, c1, _, _, _⟩ := two_cells (bx_store1 X0.out 0 0 (.cells #[.int .i64 v1, .int .i64 v2] 23))
          go_wp2_with fail
          exact bodyPost_ret (v := .tuple #[.agg #[.int .i64 0, .int .i64 0], .int .i64 19]) (by simp [results, Tryd.results10, go_sem, c0, c1]) rfl ⟨rfl, ((B0.out.setCell (Nat.le_refl _) _).setCell (Nat.le_refl _) _).alloc (by simp; omega) _⟩
        · have HB2 := Lib.hid hb2
          clear hb2
          go_enter Tryd.func10, Tryd.ntmps10
          go_wp2_with fail
          rw [HW0.out]
          refine (number_any yb _ (by omega)).mono ?_
          rintro e w' ⟨rfl, rfl⟩
          rw [HV1.out, HB1.out]
          go_wp2_with fail
          refine (number_any ya _ (by omega)).mono ?_
          rintro e w' ⟨rfl, rfl⟩
          rw [HV2.out, HB2.out]
          obtain ⟨y0, y1, _, _, _⟩ := two_cells Y3.out
          go_wp2_with fail
          rw [HW3.out]
          refine (prtext_any v1 v2 _).mono ?_
          rintro e w4 ⟨rfl, hw4⟩
          rw [HT.out]
          have X4 := Lib.hid (X3.out.below hw4 (by omega))
          have B4 := Lib.hid (B3.out.trans (hw4.mono B3.out.size))
          have z4 := hw4.size
          obtain ⟨x0, x1, f0, f1, _⟩ := two_cells X4.out
          obtain ⟨c0, c1, _, _, _⟩ := two_cells (bx_store X4.out 0 0)
          clear hw4 X3 Y3 B3 y0 y1
          go_wp2_with fail
          exact bodyPost_ret (v := .tuple #[.agg #[.int .i64 0, .int .i64 0], .int .i64 19]) (by simp [results, Tryd.results10, go_sem, c0, c1]) rfl ⟨rfl, (B4.out.setCell (Nat.le_refl _) _).setCell (Nat.le_refl _) _⟩
end Go.Proofs.YtemflgjfoappaabDoor
