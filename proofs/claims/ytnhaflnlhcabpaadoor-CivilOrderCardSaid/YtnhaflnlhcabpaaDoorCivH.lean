/- Contracts of layer 5: Parse of the specification. -/
import Derived.Test.YtnhaflnlhcabpaaDoorCivG
import Derived.Deep.RegionHeld3
import Derived.Deep.CutRange
namespace Go.Proofs.YtnhaflnlhcabpaaDoor
open Go.RowKit Fx Cv Pt

/-- The form of a text. -/
def Cv.fmB : ByteArray := ⟨#[48, 48, 48, 48, 45, 48, 48, 45, 48, 48, 84, 48, 48, 58, 48, 48, 58, 48, 48, 46, 48, 48, 48, 48, 48, 48, 48, 48, 48, 90]⟩
/-- Does the byte c stand where the form has f? -/
def Cv.okB (f c : Nat) : Bool := if f = 48 then decide (48 ≤ c ∧ c ≤ 57) else decide (c = f)
def Cv.formB (x : ByteArray) : Bool := decide (x.size = 30) && (List.range 30).all fun k => okB (fmB.data.toList.getD k 0).toNat (x.data.toList.getD k 0).toNat
/-- The field from a to b. -/
def Cv.fld (x : ByteArray) (a b : Nat) : Int := dval 0 ((x.data.toList.drop a).take (b - a))
/-- What Parse returns. -/
def Cv.pE (x : ByteArray) : Int := if formB x = true then chkC (fld x 0 4) (fld x 5 7) (fld x 8 10) (fld x 11 13) (fld x 14 16) (fld x 17 19) (fld x 20 29) else 19
def Cv.pF (x : ByteArray) (a b : Nat) : Int := if pE x = 0 then fld x a b else 0
theorem Cv.form_iff {x : ByteArray} : formB x = true ↔ x.size = 30 ∧ ∀ j, j < 30 → okB (fmB.data.toList.getD j 0).toNat (x.data.toList.getD j 0).toNat = true := by
  unfold formB
  rw [Bool.and_eq_true, decide_eq_true_iff, List.all_eq_true]
  simp only [List.mem_range]
theorem Cv.p_end {x : ByteArray} {E : Int} (he : pE x = E) (h0 : E ≠ 0) : Ending.returned (.tuple #[.agg #[.int .i64 0, .int .i64 0, .int .i64 0, .int .i64 0, .int .i64 0, .int .i64 0, .int .i64 0], .int .i64 E]) = .returned (.tuple #[.agg #[.int .i64 (pF x 0 4), .int .i64 (pF x 5 7), .int .i64 (pF x 8 10), .int .i64 (pF x 11 13), .int .i64 (pF x 14 16), .int .i64 (pF x 17 19), .int .i64 (pF x 20 29)], .int .i64 (pE x)]) := by
  have h : ∀ a b, pF x a b = 0 := fun a b => if_neg (by rw [he]; exact h0)
  simp only [h, he]
theorem Cv.p_ok {x : ByteArray} (he : pE x = 0) : Ending.returned (.tuple #[.agg #[.int .i64 (fld x 0 4), .int .i64 (fld x 5 7), .int .i64 (fld x 8 10), .int .i64 (fld x 11 13), .int .i64 (fld x 14 16), .int .i64 (fld x 17 19), .int .i64 (fld x 20 29)], .int .i64 0]) = .returned (.tuple #[.agg #[.int .i64 (pF x 0 4), .int .i64 (pF x 5 7), .int .i64 (pF x 8 10), .int .i64 (pF x 11 13), .int .i64 (pF x 14 16), .int .i64 (pF x 17 19), .int .i64 (pF x 20 29)], .int .i64 (pE x)]) := by
  have h : ∀ a b, pF x a b = fld x a b := fun a b => if_pos he
  simp only [h, he]

theorem Cv.getD_at (x : ByteArray) (k : Nat) (h : k < x.size) : (x.data.toList.getD k 0).toNat = (x[k]'h).toNat := by
  have h2 : k < x.data.toList.length := by rw [Array.length_toList]; exact h
  rw [List.getD_eq_getElem?_getD, List.getElem?_eq_getElem h2]; rfl
theorem Cv.ok_next {x g : ByteArray} {k : Nat} (h : ∀ j, j < k → okB (g.data.toList.getD j 0).toNat (x.data.toList.getD j 0).toNat = true) (hx : k < x.size) (hg : k < g.size)
    (hk : okB (g[k]'hg).toNat (x[k]'hx).toNat = true) : ∀ j, j < k + 1 → okB (g.data.toList.getD j 0).toNat (x.data.toList.getD j 0).toNat = true := by
  intro j hj
  rcases (show j < k ∨ j = k by omega) with hj | rfl
  · exact h j hj
  · rw [getD_at x j hx, getD_at g j hg]; exact hk
theorem Cv.form_bad {x : ByteArray} {k : Nat} (h30 : k < 30) (hx : k < x.size) (hg : k < fmB.size) (h : okB (fmB[k]'hg).toNat (x[k]'hx).toNat = false) : pE x = 19 := by
  refine if_neg fun hf => ?_
  have := (form_iff.1 hf).2 k h30
  rw [getD_at x k hx, getD_at fmB k hg, h] at this
  cases this
/-- Where the form has zeros, the bytes are digits. -/
theorem Cv.fields_digs {x : ByteArray} (hx : x.size = 30) (h : ∀ j, j < 30 → okB (fmB.data.toList.getD j 0).toNat (x.data.toList.getD j 0).toNat = true) :
    ∀ a b, b ≤ 30 → (∀ j, j < b → a ≤ j → (fmB.data.toList.getD j 0).toNat = 48) → Digs (x.extract a b).data.toList ∧ (x.extract a b).size ≤ b - a ∧ (dval 0 (x.extract a b).data.toList : Int) = fld x a b := by
  intro a b hb hf
  have e : (x.extract a b).data.toList = (x.data.toList.drop a).take (b - a) := by
    simp [ByteArray.data_extract, List.extract_eq_take_drop]
  refine ⟨?_, by rw [ByteArray.size_extract]; omega, by rw [e]; rfl⟩
  rw [e]
  intro c hc
  obtain ⟨i, hi, rfl⟩ := List.getElem_of_mem hc
  have hi2 : i < b - a := by rw [List.length_take] at hi; omega
  have hj := h (a + i) (by omega)
  rw [hf (a + i) (by omega) (by omega)] at hj
  have hlen : a + i < x.data.toList.length := by rw [Array.length_toList]; show a + i < x.size; omega
  rw [List.getElem_take, List.getElem_drop]
  rw [List.getD_eq_getElem?_getD, List.getElem?_eq_getElem hlen] at hj
  simpa [okB] using hj
theorem rnumv (x : ByteArray) (v : Nat) (w : World) (hs : x.size ≤ 9) (hd : Digs x.data.toList) (hv : dval 0 x.data.toList = v) :
    Calls Tryd.prog 44 #[.string x] w fun e w' => e = .returned (.int .i64 v) ∧ w' = w := by
  subst hv; exact rnum_any x w hs hd
theorem Cv.Bx7.drewN {w : World} {B : Nat} {y m d hh mi s n : Int} (h : Bx7 w B y m d hh mi s n) (k : Nat) : Bx7 (w.drewN k) B y m d hh mi s n := h

set_option maxRecDepth 100000 in
theorem rparse_len (x : ByteArray) (w : World) (h : x.size ≠ 30) :
    Calls Tryd.prog 25 #[.string x] w fun e w' => e = .returned (.tuple #[.agg #[.int .i64 0, .int .i64 0, .int .i64 0, .int .i64 0, .int .i64 0, .int .i64 0, .int .i64 0], .int .i64 19]) ∧ Below w.heap.size w w' := by
  have X0 := Lib.hid (bx7_new w 0 0 0 0 0 0 0)
  have B0 := Lib.hid ((Below.refl w.heap.size w).alloc (Nat.le_refl _) (.cells #[.int .i64 0, .int .i64 0, .int .i64 0, .int .i64 0, .int .i64 0, .int .i64 0, .int .i64 0] 23))
  obtain ⟨c0, c1, c2, c3, c4, c5, c6⟩ := X0.out.cells
  have h' : ¬ (x.size : Int) = 30 := by omega
  clear h
  go_enter Tryd.func25, Tryd.ntmps25
  go_wp2_with fail
  all_goals exact bodyPost_ret (v := .tuple #[.agg #[.int .i64 0, .int .i64 0, .int .i64 0, .int .i64 0, .int .i64 0, .int .i64 0, .int .i64 0], .int .i64 19]) (by simp [results, Tryd.results25, go_sem, c0, c1, c2, c3, c4, c5, c6]) rfl ⟨rfl, B0.out⟩

set_option maxRecDepth 100000 in
set_option maxHeartbeats 1000000 in
theorem rparse_30 (x : ByteArray) (w : World) (h : x.size = 30) :
    Calls Tryd.prog 25 #[.string x] w fun e w' => e = .returned (.tuple #[.agg #[.int .i64 (pF x 0 4), .int .i64 (pF x 5 7), .int .i64 (pF x 8 10), .int .i64 (pF x 11 13), .int .i64 (pF x 14 16), .int .i64 (pF x 17 19), .int .i64 (pF x 20 29)], .int .i64 (pE x)]) ∧ Below w.heap.size w w' := by
  have X0 := Lib.hid (bx7_new w 0 0 0 0 0 0 0)
  have B0 := Lib.hid ((Below.refl w.heap.size w).alloc (Nat.le_refl _) (.cells #[.int .i64 0, .int .i64 0, .int .i64 0, .int .i64 0, .int .i64 0, .int .i64 0, .int .i64 0] 23))
  have h' : (x.size : Int) = 30 := by omega
  go_enter Tryd.func25, Tryd.ntmps25
  go_wp2_with fail
  go_loopw [4] (fun i wr => ∃ k : Nat, k ≤ 30 ∧ i = .int .i64 k ∧ Hid (∀ j, j < k → okB (fmB.data.toList.getD j 0).toNat (x.data.toList.getD j 0).toNat = true) ∧ Hid (Bx7 wr w.heap.size 0 0 0 0 0 0 0) ∧ Hid (Below w.heap.size w wr)) (fun i _ => 30 - (intOf i).toNat)
  case atStart => exact ⟨0, by omega, rfl, Lib.hid (fun j hj => by omega), X0, B0⟩
  case round =>
    clear X0 B0
    obtain ⟨k, hk, rfl, HP, XR, HB⟩ := hrel
    by_cases hlt : k < 30
    · have hki : (k : Int) < 30 := by omega
      have hkx : k < x.size := by omega
      have hkf : k < 30 := hlt
      obtain ⟨c, hc⟩ : ∃ c : Nat, x[k].toNat = c := ⟨_, rfl⟩
      obtain ⟨f, hf⟩ : ∃ f : Nat, ((⟨#[48, 48, 48, 48, 45, 48, 48, 45, 48, 48, 84, 48, 48, 58, 48, 48, 58, 48, 48, 46, 48, 48, 48, 48, 48, 48, 48, 48, 48, 90]⟩ : ByteArray)[k]'hlt).toNat = f := ⟨_, rfl⟩
      by_cases hf48 : f = 48
      · subst hf48
        by_cases hc0 : c < 48
        · have hc0' : (c : Int) < 48 := by omega
          have HE := Lib.hid (form_bad hlt hkx (hlt : k < fmB.size) (show okB (fmB[k]'hlt).toNat x[k].toNat = false by
            rw [hc, show (fmB[k]'hlt).toNat = 48 from hf]; simp [okB]; omega))
          go_wp2_with fail
          go_quiet (fail)
          have XD := Lib.hid (XR.out.drewN nq)
          have HD := Lib.hid (blwn HB.out nq)
          have r0 := XD.out.cells.1
          have g0 := XD.out.thaw.1
          have XS0 := Lib.hid (XD.out.set0 0)
          have HB1 := Lib.hid (below_set (C := w.heap.size) (i := 0) HD.out (by omega) (.int .i64 0))
          obtain ⟨S0, hS0⟩ : ∃ W, (wr.drewN nq).setCell ⟨w.heap.size, 0, none⟩ (.int .i64 0) = W := ⟨_, rfl⟩
          rw [hS0] at XS0 HB1
          have r1 := XS0.out.cells.2.1
          have g1 := XS0.out.thaw.2.1
          have XS1 := Lib.hid (XS0.out.set1 0)
          have HB2 := Lib.hid (below_set (C := w.heap.size) (i := 1) HB1.out (by omega) (.int .i64 0))
          obtain ⟨S1, hS1⟩ : ∃ W, S0.setCell ⟨w.heap.size, 1, none⟩ (.int .i64 0) = W := ⟨_, rfl⟩
          rw [hS1] at XS1 HB2
          have r2 := XS1.out.cells.2.2.1
          have g2 := XS1.out.thaw.2.2.1
          have XS2 := Lib.hid (XS1.out.set2 0)
          have HB3 := Lib.hid (below_set (C := w.heap.size) (i := 2) HB2.out (by omega) (.int .i64 0))
          obtain ⟨S2, hS2⟩ : ∃ W, S1.setCell ⟨w.heap.size, 2, none⟩ (.int .i64 0) = W := ⟨_, rfl⟩
          rw [hS2] at XS2 HB3
          have r3 := XS2.out.cells.2.2.2.1
          have g3 := XS2.out.thaw.2.2.2.1
          have XS3 := Lib.hid (XS2.out.set3 0)
          have HB4 := Lib.hid (below_set (C := w.heap.size) (i := 3) HB3.out (by omega) (.int .i64 0))
          obtain ⟨S3, hS3⟩ : ∃ W, S2.setCell ⟨w.heap.size, 3, none⟩ (.int .i64 0) = W := ⟨_, rfl⟩
          rw [hS3] at XS3 HB4
          have r4 := XS3.out.cells.2.2.2.2.1
          have g4 := XS3.out.thaw.2.2.2.2.1
          have XS4 := Lib.hid (XS3.out.set4 0)
          have HB5 := Lib.hid (below_set (C := w.heap.size) (i := 4) HB4.out (by omega) (.int .i64 0))
          obtain ⟨S4, hS4⟩ : ∃ W, S3.setCell ⟨w.heap.size, 4, none⟩ (.int .i64 0) = W := ⟨_, rfl⟩
          rw [hS4] at XS4 HB5
          have r5 := XS4.out.cells.2.2.2.2.2.1
          have g5 := XS4.out.thaw.2.2.2.2.2.1
          have XS5 := Lib.hid (XS4.out.set5 0)
          have HB6 := Lib.hid (below_set (C := w.heap.size) (i := 5) HB5.out (by omega) (.int .i64 0))
          obtain ⟨S5, hS5⟩ : ∃ W, S4.setCell ⟨w.heap.size, 5, none⟩ (.int .i64 0) = W := ⟨_, rfl⟩
          rw [hS5] at XS5 HB6
          have r6 := XS5.out.cells.2.2.2.2.2.2
          have g6 := XS5.out.thaw.2.2.2.2.2.2
          have XS6 := Lib.hid (XS5.out.set6 0)
          have HB7 := Lib.hid (below_set (C := w.heap.size) (i := 6) HB6.out (by omega) (.int .i64 0))
          obtain ⟨S6, hS6⟩ : ∃ W, S5.setCell ⟨w.heap.size, 6, none⟩ (.int .i64 0) = W := ⟨_, rfl⟩
          rw [hS6] at XS6 HB7
          obtain ⟨k0, k1, k2, k3, k4, k5, k6⟩ := XS6.out.cells
          go_wp2_with fail
          exact bodyPost_ret (v := .tuple #[.agg #[.int .i64 0, .int .i64 0, .int .i64 0, .int .i64 0, .int .i64 0, .int .i64 0, .int .i64 0], .int .i64 19]) (by simp [results, Tryd.results25, go_sem, k0, k1, k2, k3, k4, k5, k6]) rfl ⟨p_end HE.out (by decide), HB7.out⟩
        · have e0 : decide ((c : Int) < 48) = false := decide_eq_false (by omega)
          by_cases hc1 : 57 < c
          · have hc1' : 57 < (c : Int) := by omega
            have HE := Lib.hid (form_bad hlt hkx (hlt : k < fmB.size) (show okB (fmB[k]'hlt).toNat x[k].toNat = false by
              rw [hc, show (fmB[k]'hlt).toNat = 48 from hf]; simp [okB]; omega))
            go_wp2_with fail
            go_quiet (fail)
            have XD := Lib.hid (XR.out.drewN nq)
            have HD := Lib.hid (blwn HB.out nq)
            have r0 := XD.out.cells.1
            have g0 := XD.out.thaw.1
            have XS0 := Lib.hid (XD.out.set0 0)
            have HB1 := Lib.hid (below_set (C := w.heap.size) (i := 0) HD.out (by omega) (.int .i64 0))
            obtain ⟨S0, hS0⟩ : ∃ W, (wr.drewN nq).setCell ⟨w.heap.size, 0, none⟩ (.int .i64 0) = W := ⟨_, rfl⟩
            rw [hS0] at XS0 HB1
            have r1 := XS0.out.cells.2.1
            have g1 := XS0.out.thaw.2.1
            have XS1 := Lib.hid (XS0.out.set1 0)
            have HB2 := Lib.hid (below_set (C := w.heap.size) (i := 1) HB1.out (by omega) (.int .i64 0))
            obtain ⟨S1, hS1⟩ : ∃ W, S0.setCell ⟨w.heap.size, 1, none⟩ (.int .i64 0) = W := ⟨_, rfl⟩
            rw [hS1] at XS1 HB2
            have r2 := XS1.out.cells.2.2.1
            have g2 := XS1.out.thaw.2.2.1
            have XS2 := Lib.hid (XS1.out.set2 0)
            have HB3 := Lib.hid (below_set (C := w.heap.size) (i := 2) HB2.out (by omega) (.int .i64 0))
            obtain ⟨S2, hS2⟩ : ∃ W, S1.setCell ⟨w.heap.size, 2, none⟩ (.int .i64 0) = W := ⟨_, rfl⟩
            rw [hS2] at XS2 HB3
            have r3 := XS2.out.cells.2.2.2.1
            have g3 := XS2.out.thaw.2.2.2.1
            have XS3 := Lib.hid (XS2.out.set3 0)
            have HB4 := Lib.hid (below_set (C := w.heap.size) (i := 3) HB3.out (by omega) (.int .i64 0))
            obtain ⟨S3, hS3⟩ : ∃ W, S2.setCell ⟨w.heap.size, 3, none⟩ (.int .i64 0) = W := ⟨_, rfl⟩
            rw [hS3] at XS3 HB4
            have r4 := XS3.out.cells.2.2.2.2.1
            have g4 := XS3.out.thaw.2.2.2.2.1
            have XS4 := Lib.hid (XS3.out.set4 0)
            have HB5 := Lib.hid (below_set (C := w.heap.size) (i := 4) HB4.out (by omega) (.int .i64 0))
            obtain ⟨S4, hS4⟩ : ∃ W, S3.setCell ⟨w.heap.size, 4, none⟩ (.int .i64 0) = W := ⟨_, rfl⟩
            rw [hS4] at XS4 HB5
            have r5 := XS4.out.cells.2.2.2.2.2.1
            have g5 := XS4.out.thaw.2.2.2.2.2.1
            have XS5 := Lib.hid (XS4.out.set5 0)
            have HB6 := Lib.hid (below_set (C := w.heap.size) (i := 5) HB5.out (by omega) (.int .i64 0))
            obtain ⟨S5, hS5⟩ : ∃ W, S4.setCell ⟨w.heap.size, 5, none⟩ (.int .i64 0) = W := ⟨_, rfl⟩
            rw [hS5] at XS5 HB6
            have r6 := XS5.out.cells.2.2.2.2.2.2
            have g6 := XS5.out.thaw.2.2.2.2.2.2
            have XS6 := Lib.hid (XS5.out.set6 0)
            have HB7 := Lib.hid (below_set (C := w.heap.size) (i := 6) HB6.out (by omega) (.int .i64 0))
            obtain ⟨S6, hS6⟩ : ∃ W, S5.setCell ⟨w.heap.size, 6, none⟩ (.int .i64 0) = W := ⟨_, rfl⟩
            rw [hS6] at XS6 HB7
            obtain ⟨k0, k1, k2, k3, k4, k5, k6⟩ := XS6.out.cells
            go_wp2_with fail
            exact bodyPost_ret (v := .tuple #[.agg #[.int .i64 0, .int .i64 0, .int .i64 0, .int .i64 0, .int .i64 0, .int .i64 0, .int .i64 0], .int .i64 19]) (by simp [results, Tryd.results25, go_sem, k0, k1, k2, k3, k4, k5, k6]) rfl ⟨p_end HE.out (by decide), HB7.out⟩
          · have e1 : decide (57 < (c : Int)) = false := decide_eq_false (by omega)
            have HPN := Lib.hid (ok_next HP.out hkx (hlt : k < fmB.size) (show okB (fmB[k]'hlt).toNat x[k].toNat = true by
              rw [hc, show (fmB[k]'hlt).toNat = 48 from hf]; simp [okB]; omega))
            go_wp2_with fail
            go_quiet (fail)
            go_wp2_with fail
            go_roundw
            case rel => exact ⟨k + 1, by omega, by go_num, HPN, Lib.hid (XR.out.drewN _), Lib.hid (blwn HB.out _)⟩
            case measure => simp [intOf]; omega
      · have g0 : ¬ (f : Int) = 48 := by omega
        have g1 : decide ((f : Int) = 48) = false := decide_eq_false g0
        have g2 : ((f : Int) == 48) = false := by simpa using g0
        have g5 : ((f : Int) != 48) = true := by simp [bne, g2]
        by_cases hcf : c = f
        · subst hcf
          have HPN := Lib.hid (ok_next HP.out hkx (hlt : k < fmB.size) (show okB (fmB[k]'hlt).toNat x[k].toNat = true by
            rw [hc, show (fmB[k]'hlt).toNat = c from hf]; simp [okB, hf48]))
          go_wp2_with fail
          go_quiet (fail)
          go_wp2_with fail
          go_roundw
          case rel => exact ⟨k + 1, by omega, by go_num, HPN, Lib.hid (XR.out.drewN _), Lib.hid (blwn HB.out _)⟩
          case measure => simp [intOf]; omega
        · have HE := Lib.hid (form_bad hlt hkx (hlt : k < fmB.size) (show okB (fmB[k]'hlt).toNat x[k].toNat = false by
            rw [hc, show (fmB[k]'hlt).toNat = f from hf]; simp [okB, hf48, hcf]))
          have k0 : ¬ (c : Int) = f := by omega
          have k1 : decide ((c : Int) = f) = false := decide_eq_false k0
          have k2 : ((c : Int) == f) = false := by simpa using k0
          have k5 : ((c : Int) != f) = true := by simp [bne, k2]
          go_wp2_with fail
          go_quiet (fail)
          clear k0 k1 k2 k5
          have XD := Lib.hid (XR.out.drewN nq)
          have HD := Lib.hid (blwn HB.out nq)
          have r0 := XD.out.cells.1
          have g0 := XD.out.thaw.1
          have XS0 := Lib.hid (XD.out.set0 0)
          have HB1 := Lib.hid (below_set (C := w.heap.size) (i := 0) HD.out (by omega) (.int .i64 0))
          obtain ⟨S0, hS0⟩ : ∃ W, (wr.drewN nq).setCell ⟨w.heap.size, 0, none⟩ (.int .i64 0) = W := ⟨_, rfl⟩
          rw [hS0] at XS0 HB1
          have r1 := XS0.out.cells.2.1
          have g1 := XS0.out.thaw.2.1
          have XS1 := Lib.hid (XS0.out.set1 0)
          have HB2 := Lib.hid (below_set (C := w.heap.size) (i := 1) HB1.out (by omega) (.int .i64 0))
          obtain ⟨S1, hS1⟩ : ∃ W, S0.setCell ⟨w.heap.size, 1, none⟩ (.int .i64 0) = W := ⟨_, rfl⟩
          rw [hS1] at XS1 HB2
          have r2 := XS1.out.cells.2.2.1
          have g2 := XS1.out.thaw.2.2.1
          have XS2 := Lib.hid (XS1.out.set2 0)
          have HB3 := Lib.hid (below_set (C := w.heap.size) (i := 2) HB2.out (by omega) (.int .i64 0))
          obtain ⟨S2, hS2⟩ : ∃ W, S1.setCell ⟨w.heap.size, 2, none⟩ (.int .i64 0) = W := ⟨_, rfl⟩
          rw [hS2] at XS2 HB3
          have r3 := XS2.out.cells.2.2.2.1
          have g3 := XS2.out.thaw.2.2.2.1
          have XS3 := Lib.hid (XS2.out.set3 0)
          have HB4 := Lib.hid (below_set (C := w.heap.size) (i := 3) HB3.out (by omega) (.int .i64 0))
          obtain ⟨S3, hS3⟩ : ∃ W, S2.setCell ⟨w.heap.size, 3, none⟩ (.int .i64 0) = W := ⟨_, rfl⟩
          rw [hS3] at XS3 HB4
          have r4 := XS3.out.cells.2.2.2.2.1
          have g4 := XS3.out.thaw.2.2.2.2.1
          have XS4 := Lib.hid (XS3.out.set4 0)
          have HB5 := Lib.hid (below_set (C := w.heap.size) (i := 4) HB4.out (by omega) (.int .i64 0))
          obtain ⟨S4, hS4⟩ : ∃ W, S3.setCell ⟨w.heap.size, 4, none⟩ (.int .i64 0) = W := ⟨_, rfl⟩
          rw [hS4] at XS4 HB5
          have r5 := XS4.out.cells.2.2.2.2.2.1
          have g5 := XS4.out.thaw.2.2.2.2.2.1
          have XS5 := Lib.hid (XS4.out.set5 0)
          have HB6 := Lib.hid (below_set (C := w.heap.size) (i := 5) HB5.out (by omega) (.int .i64 0))
          obtain ⟨S5, hS5⟩ : ∃ W, S4.setCell ⟨w.heap.size, 5, none⟩ (.int .i64 0) = W := ⟨_, rfl⟩
          rw [hS5] at XS5 HB6
          have r6 := XS5.out.cells.2.2.2.2.2.2
          have g6 := XS5.out.thaw.2.2.2.2.2.2
          have XS6 := Lib.hid (XS5.out.set6 0)
          have HB7 := Lib.hid (below_set (C := w.heap.size) (i := 6) HB6.out (by omega) (.int .i64 0))
          obtain ⟨S6, hS6⟩ : ∃ W, S5.setCell ⟨w.heap.size, 6, none⟩ (.int .i64 0) = W := ⟨_, rfl⟩
          rw [hS6] at XS6 HB7
          obtain ⟨k0, k1, k2, k3, k4, k5, k6⟩ := XS6.out.cells
          go_wp2_with fail
          exact bodyPost_ret (v := .tuple #[.agg #[.int .i64 0, .int .i64 0, .int .i64 0, .int .i64 0, .int .i64 0, .int .i64 0, .int .i64 0], .int .i64 19]) (by simp [results, Tryd.results25, go_sem, k0, k1, k2, k3, k4, k5, k6]) rfl ⟨p_end HE.out (by decide), HB7.out⟩
    · obtain rfl : k = 30 := by omega
      have HD := fields_digs h HP.out
      obtain ⟨p0, hp0⟩ : ∃ p, x.extract 0 4 = p := ⟨_, rfl⟩
      obtain ⟨q0, z0, v0⟩ := HD 0 4 (by decide) (by decide)
      rw [hp0] at q0 z0 v0
      obtain ⟨n0, hn0⟩ : ∃ n : Nat, dval 0 p0.data.toList = n := ⟨_, rfl⟩
      have l0 : n0 < 1000000000 := by have a := dval_lt _ q0; have b := Nat.pow_le_pow_right (show 0 < 10 by decide) (show p0.data.toList.length ≤ 9 by rw [Array.length_toList]; exact Nat.le_trans z0 (by decide)); omega
      rw [hn0] at v0
      have HN0 : Hid (p0.size ≤ 9 ∧ Digs p0.data.toList ∧ dval 0 p0.data.toList = n0) := Lib.hid ⟨Nat.le_trans z0 (by decide), q0, hn0⟩
      have HV0 := Lib.hid v0
      clear q0 z0 v0 hn0
      obtain ⟨p1, hp1⟩ : ∃ p, x.extract 5 7 = p := ⟨_, rfl⟩
      obtain ⟨q1, z1, v1⟩ := HD 5 7 (by decide) (by decide)
      rw [hp1] at q1 z1 v1
      obtain ⟨n1, hn1⟩ : ∃ n : Nat, dval 0 p1.data.toList = n := ⟨_, rfl⟩
      have l1 : n1 < 1000000000 := by have a := dval_lt _ q1; have b := Nat.pow_le_pow_right (show 0 < 10 by decide) (show p1.data.toList.length ≤ 9 by rw [Array.length_toList]; exact Nat.le_trans z1 (by decide)); omega
      rw [hn1] at v1
      have HN1 : Hid (p1.size ≤ 9 ∧ Digs p1.data.toList ∧ dval 0 p1.data.toList = n1) := Lib.hid ⟨Nat.le_trans z1 (by decide), q1, hn1⟩
      have HV1 := Lib.hid v1
      clear q1 z1 v1 hn1
      obtain ⟨p2, hp2⟩ : ∃ p, x.extract 8 10 = p := ⟨_, rfl⟩
      obtain ⟨q2, z2, v2⟩ := HD 8 10 (by decide) (by decide)
      rw [hp2] at q2 z2 v2
      obtain ⟨n2, hn2⟩ : ∃ n : Nat, dval 0 p2.data.toList = n := ⟨_, rfl⟩
      have l2 : n2 < 1000000000 := by have a := dval_lt _ q2; have b := Nat.pow_le_pow_right (show 0 < 10 by decide) (show p2.data.toList.length ≤ 9 by rw [Array.length_toList]; exact Nat.le_trans z2 (by decide)); omega
      rw [hn2] at v2
      have HN2 : Hid (p2.size ≤ 9 ∧ Digs p2.data.toList ∧ dval 0 p2.data.toList = n2) := Lib.hid ⟨Nat.le_trans z2 (by decide), q2, hn2⟩
      have HV2 := Lib.hid v2
      clear q2 z2 v2 hn2
      obtain ⟨p3, hp3⟩ : ∃ p, x.extract 11 13 = p := ⟨_, rfl⟩
      obtain ⟨q3, z3, v3⟩ := HD 11 13 (by decide) (by decide)
      rw [hp3] at q3 z3 v3
      obtain ⟨n3, hn3⟩ : ∃ n : Nat, dval 0 p3.data.toList = n := ⟨_, rfl⟩
      have l3 : n3 < 1000000000 := by have a := dval_lt _ q3; have b := Nat.pow_le_pow_right (show 0 < 10 by decide) (show p3.data.toList.length ≤ 9 by rw [Array.length_toList]; exact Nat.le_trans z3 (by decide)); omega
      rw [hn3] at v3
      have HN3 : Hid (p3.size ≤ 9 ∧ Digs p3.data.toList ∧ dval 0 p3.data.toList = n3) := Lib.hid ⟨Nat.le_trans z3 (by decide), q3, hn3⟩
      have HV3 := Lib.hid v3
      clear q3 z3 v3 hn3
      obtain ⟨p4, hp4⟩ : ∃ p, x.extract 14 16 = p := ⟨_, rfl⟩
      obtain ⟨q4, z4, v4⟩ := HD 14 16 (by decide) (by decide)
      rw [hp4] at q4 z4 v4
      obtain ⟨n4, hn4⟩ : ∃ n : Nat, dval 0 p4.data.toList = n := ⟨_, rfl⟩
      have l4 : n4 < 1000000000 := by have a := dval_lt _ q4; have b := Nat.pow_le_pow_right (show 0 < 10 by decide) (show p4.data.toList.length ≤ 9 by rw [Array.length_toList]; exact Nat.le_trans z4 (by decide)); omega
      rw [hn4] at v4
      have HN4 : Hid (p4.size ≤ 9 ∧ Digs p4.data.toList ∧ dval 0 p4.data.toList = n4) := Lib.hid ⟨Nat.le_trans z4 (by decide), q4, hn4⟩
      have HV4 := Lib.hid v4
      clear q4 z4 v4 hn4
      obtain ⟨p5, hp5⟩ : ∃ p, x.extract 17 19 = p := ⟨_, rfl⟩
      obtain ⟨q5, z5, v5⟩ := HD 17 19 (by decide) (by decide)
      rw [hp5] at q5 z5 v5
      obtain ⟨n5, hn5⟩ : ∃ n : Nat, dval 0 p5.data.toList = n := ⟨_, rfl⟩
      have l5 : n5 < 1000000000 := by have a := dval_lt _ q5; have b := Nat.pow_le_pow_right (show 0 < 10 by decide) (show p5.data.toList.length ≤ 9 by rw [Array.length_toList]; exact Nat.le_trans z5 (by decide)); omega
      rw [hn5] at v5
      have HN5 : Hid (p5.size ≤ 9 ∧ Digs p5.data.toList ∧ dval 0 p5.data.toList = n5) := Lib.hid ⟨Nat.le_trans z5 (by decide), q5, hn5⟩
      have HV5 := Lib.hid v5
      clear q5 z5 v5 hn5
      obtain ⟨p6, hp6⟩ : ∃ p, x.extract 20 29 = p := ⟨_, rfl⟩
      obtain ⟨q6, z6, v6⟩ := HD 20 29 (by decide) (by decide)
      rw [hp6] at q6 z6 v6
      obtain ⟨n6, hn6⟩ : ∃ n : Nat, dval 0 p6.data.toList = n := ⟨_, rfl⟩
      have l6 : n6 < 1000000000 := by have a := dval_lt _ q6; have b := Nat.pow_le_pow_right (show 0 < 10 by decide) (show p6.data.toList.length ≤ 9 by rw [Array.length_toList]; exact Nat.le_trans z6 (by decide)); omega
      rw [hn6] at v6
      have HN6 : Hid (p6.size ≤ 9 ∧ Digs p6.data.toList ∧ dval 0 p6.data.toList = n6) := Lib.hid ⟨Nat.le_trans z6 (by decide), q6, hn6⟩
      have HV6 := Lib.hid v6
      clear q6 z6 v6 hn6
      clear HD
      go_upto_region 8 with fail
      go_cut [5] from 45 to 66 (fun t5 wx => t5 = .pointer (some ⟨wr.heap.size, 0, none⟩) ∧ wx = (wr.alloc (.cells #[.int .i64 n0, .int .i64 n1, .int .i64 n2, .int .i64 n3, .int .i64 n4, .int .i64 n5, .int .i64 n6] 23)).drew)
      case first =>
        go_region_held3 (fun _ => True) (trivial)
          (first
          | (go_at_call_of 44 (Value.string p0); refine (rnumv p0 n0 _ HN0.out.1 HN0.out.2.1 HN0.out.2.2).mono ?_; rintro e w' ⟨rfl, rfl⟩)
          | (go_at_call_of 44 (Value.string p1); refine (rnumv p1 n1 _ HN1.out.1 HN1.out.2.1 HN1.out.2.2).mono ?_; rintro e w' ⟨rfl, rfl⟩)
          | (go_at_call_of 44 (Value.string p2); refine (rnumv p2 n2 _ HN2.out.1 HN2.out.2.1 HN2.out.2.2).mono ?_; rintro e w' ⟨rfl, rfl⟩)
          | (go_at_call_of 44 (Value.string p3); refine (rnumv p3 n3 _ HN3.out.1 HN3.out.2.1 HN3.out.2.2).mono ?_; rintro e w' ⟨rfl, rfl⟩)
          | (go_at_call_of 44 (Value.string p4); refine (rnumv p4 n4 _ HN4.out.1 HN4.out.2.1 HN4.out.2.2).mono ?_; rintro e w' ⟨rfl, rfl⟩)
          | (go_at_call_of 44 (Value.string p5); refine (rnumv p5 n5 _ HN5.out.1 HN5.out.2.1 HN5.out.2.2).mono ?_; rintro e w' ⟨rfl, rfl⟩)
          | (go_at_call_of 44 (Value.string p6); refine (rnumv p6 n6 _ HN6.out.1 HN6.out.2.1 HN6.out.2.2).mono ?_; rintro e w' ⟨rfl, rfl⟩))
        all_goals (go_wp2_with fail; go_meet; exact ⟨rfl, rfl⟩)
      case rest =>
        obtain ⟨rfl, rfl⟩ := hcut
        have XB := Lib.hid ((bx7_new wr n0 n1 n2 n3 n4 n5 n6).drewN 1)
        have XA := Lib.hid ((XR.out.alloc (.cells #[.int .i64 n0, .int .i64 n1, .int .i64 n2, .int .i64 n3, .int .i64 n4, .int .i64 n5, .int .i64 n6] 23)).drewN 1)
        have hws : w.heap.size ≤ wr.heap.size := HB.out.size
        have HBA := Lib.hid (blwn (HB.out.alloc hws (.cells #[.int .i64 n0, .int .i64 n1, .int .i64 n2, .int .i64 n3, .int .i64 n4, .int .i64 n5, .int .i64 n6] 23)) 1)
        obtain ⟨b0, b1, b2, b3, b4, b5, b6⟩ := XB.out.cells
        have HPE : Hid (pE x = chkC n0 n1 n2 n3 n4 n5 n6) := Lib.hid (by
          unfold pE
          rw [if_pos (form_iff.2 ⟨h, HP.out⟩), HV0.out, HV1.out, HV2.out, HV3.out, HV4.out, HV5.out, HV6.out])
        go_wp2_with fail
        refine (rcchk_any n0 n1 n2 n3 n4 n5 n6 _ (by omega)).mono ?_
        rintro e wc ⟨rfl, kc, hwc⟩
        have hwA : w.heap.size ≤ ((wr.alloc (.cells #[.int .i64 n0, .int .i64 n1, .int .i64 n2, .int .i64 n3, .int .i64 n4, .int .i64 n5, .int .i64 n6] 23)).drewN 1).heap.size := HBA.out.size
        have hwc2 : wc = (((wr.alloc (.cells #[.int .i64 n0, .int .i64 n1, .int .i64 n2, .int .i64 n3, .int .i64 n4, .int .i64 n5, .int .i64 n6] 23)).drewN 1).alloc (.cells #[.int .i64 n0, .int .i64 n1, .int .i64 n2, .int .i64 n3, .int .i64 n4, .int .i64 n5, .int .i64 n6] 23)).drewN kc := hwc
        have XBC : Hid (Bx7 wc wr.heap.size n0 n1 n2 n3 n4 n5 n6) := Lib.hid (by rw [hwc2]; exact (XB.out.alloc _).drewN _)
        have XAC : Hid (Bx7 wc w.heap.size 0 0 0 0 0 0 0) := Lib.hid (by rw [hwc2]; exact (XA.out.alloc _).drewN _)
        have HBC : Hid (Below w.heap.size w wc) := Lib.hid (by rw [hwc2]; exact blwn (HBA.out.alloc hwA _) _)
        clear hwc hwc2 b0 b1 b2 b3 b4 b5 b6 XB XA HBA
        cases hK : okC n0 n1 n2 n3 n4 n5 n6
        · have HK : Hid (chkC n0 n1 n2 n3 n4 n5 n6 = 3) := Lib.hid (by unfold chkC; rw [hK]; rfl)
          have HE := Lib.hid (HPE.out.trans HK.out)
          clear hK
          rw [HK.out]
          have r0 := XAC.out.cells.1
          have g0 := XAC.out.thaw.1
          have XS0 := Lib.hid (XAC.out.set0 0)
          have HB1 := Lib.hid (below_set (C := w.heap.size) (i := 0) HBC.out (by omega) (.int .i64 0))
          obtain ⟨S0, hS0⟩ : ∃ W, wc.setCell ⟨w.heap.size, 0, none⟩ (.int .i64 0) = W := ⟨_, rfl⟩
          rw [hS0] at XS0 HB1
          have r1 := XS0.out.cells.2.1
          have g1 := XS0.out.thaw.2.1
          have XS1 := Lib.hid (XS0.out.set1 0)
          have HB2 := Lib.hid (below_set (C := w.heap.size) (i := 1) HB1.out (by omega) (.int .i64 0))
          obtain ⟨S1, hS1⟩ : ∃ W, S0.setCell ⟨w.heap.size, 1, none⟩ (.int .i64 0) = W := ⟨_, rfl⟩
          rw [hS1] at XS1 HB2
          have r2 := XS1.out.cells.2.2.1
          have g2 := XS1.out.thaw.2.2.1
          have XS2 := Lib.hid (XS1.out.set2 0)
          have HB3 := Lib.hid (below_set (C := w.heap.size) (i := 2) HB2.out (by omega) (.int .i64 0))
          obtain ⟨S2, hS2⟩ : ∃ W, S1.setCell ⟨w.heap.size, 2, none⟩ (.int .i64 0) = W := ⟨_, rfl⟩
          rw [hS2] at XS2 HB3
          have r3 := XS2.out.cells.2.2.2.1
          have g3 := XS2.out.thaw.2.2.2.1
          have XS3 := Lib.hid (XS2.out.set3 0)
          have HB4 := Lib.hid (below_set (C := w.heap.size) (i := 3) HB3.out (by omega) (.int .i64 0))
          obtain ⟨S3, hS3⟩ : ∃ W, S2.setCell ⟨w.heap.size, 3, none⟩ (.int .i64 0) = W := ⟨_, rfl⟩
          rw [hS3] at XS3 HB4
          have r4 := XS3.out.cells.2.2.2.2.1
          have g4 := XS3.out.thaw.2.2.2.2.1
          have XS4 := Lib.hid (XS3.out.set4 0)
          have HB5 := Lib.hid (below_set (C := w.heap.size) (i := 4) HB4.out (by omega) (.int .i64 0))
          obtain ⟨S4, hS4⟩ : ∃ W, S3.setCell ⟨w.heap.size, 4, none⟩ (.int .i64 0) = W := ⟨_, rfl⟩
          rw [hS4] at XS4 HB5
          have r5 := XS4.out.cells.2.2.2.2.2.1
          have g5 := XS4.out.thaw.2.2.2.2.2.1
          have XS5 := Lib.hid (XS4.out.set5 0)
          have HB6 := Lib.hid (below_set (C := w.heap.size) (i := 5) HB5.out (by omega) (.int .i64 0))
          obtain ⟨S5, hS5⟩ : ∃ W, S4.setCell ⟨w.heap.size, 5, none⟩ (.int .i64 0) = W := ⟨_, rfl⟩
          rw [hS5] at XS5 HB6
          have r6 := XS5.out.cells.2.2.2.2.2.2
          have g6 := XS5.out.thaw.2.2.2.2.2.2
          have XS6 := Lib.hid (XS5.out.set6 0)
          have HB7 := Lib.hid (below_set (C := w.heap.size) (i := 6) HB6.out (by omega) (.int .i64 0))
          obtain ⟨S6, hS6⟩ : ∃ W, S5.setCell ⟨w.heap.size, 6, none⟩ (.int .i64 0) = W := ⟨_, rfl⟩
          rw [hS6] at XS6 HB7
          obtain ⟨k0, k1, k2, k3, k4, k5, k6⟩ := XS6.out.cells
          go_wp2_with fail
          exact bodyPost_ret (v := .tuple #[.agg #[.int .i64 0, .int .i64 0, .int .i64 0, .int .i64 0, .int .i64 0, .int .i64 0, .int .i64 0], .int .i64 3]) (by simp [results, Tryd.results25, go_sem, k0, k1, k2, k3, k4, k5, k6]) rfl ⟨p_end HE.out (by decide), HB7.out⟩
        · have HK := Lib.hid (chk_ok hK)
          have HE := Lib.hid (HPE.out.trans HK.out)
          clear hK
          rw [HK.out]
          obtain ⟨b0, b1, b2, b3, b4, b5, b6⟩ := XBC.out.cells
          have r0 := XAC.out.cells.1
          have g0 := XAC.out.thaw.1
          have XS0 := Lib.hid (XAC.out.set0 n0)
          have HB1 := Lib.hid (below_set (C := w.heap.size) (i := 0) HBC.out (by omega) (.int .i64 n0))
          obtain ⟨S0, hS0⟩ : ∃ W, wc.setCell ⟨w.heap.size, 0, none⟩ (.int .i64 n0) = W := ⟨_, rfl⟩
          rw [hS0] at XS0 HB1
          have r1 := XS0.out.cells.2.1
          have g1 := XS0.out.thaw.2.1
          have XS1 := Lib.hid (XS0.out.set1 n1)
          have HB2 := Lib.hid (below_set (C := w.heap.size) (i := 1) HB1.out (by omega) (.int .i64 n1))
          obtain ⟨S1, hS1⟩ : ∃ W, S0.setCell ⟨w.heap.size, 1, none⟩ (.int .i64 n1) = W := ⟨_, rfl⟩
          rw [hS1] at XS1 HB2
          have r2 := XS1.out.cells.2.2.1
          have g2 := XS1.out.thaw.2.2.1
          have XS2 := Lib.hid (XS1.out.set2 n2)
          have HB3 := Lib.hid (below_set (C := w.heap.size) (i := 2) HB2.out (by omega) (.int .i64 n2))
          obtain ⟨S2, hS2⟩ : ∃ W, S1.setCell ⟨w.heap.size, 2, none⟩ (.int .i64 n2) = W := ⟨_, rfl⟩
          rw [hS2] at XS2 HB3
          have r3 := XS2.out.cells.2.2.2.1
          have g3 := XS2.out.thaw.2.2.2.1
          have XS3 := Lib.hid (XS2.out.set3 n3)
          have HB4 := Lib.hid (below_set (C := w.heap.size) (i := 3) HB3.out (by omega) (.int .i64 n3))
          obtain ⟨S3, hS3⟩ : ∃ W, S2.setCell ⟨w.heap.size, 3, none⟩ (.int .i64 n3) = W := ⟨_, rfl⟩
          rw [hS3] at XS3 HB4
          have r4 := XS3.out.cells.2.2.2.2.1
          have g4 := XS3.out.thaw.2.2.2.2.1
          have XS4 := Lib.hid (XS3.out.set4 n4)
          have HB5 := Lib.hid (below_set (C := w.heap.size) (i := 4) HB4.out (by omega) (.int .i64 n4))
          obtain ⟨S4, hS4⟩ : ∃ W, S3.setCell ⟨w.heap.size, 4, none⟩ (.int .i64 n4) = W := ⟨_, rfl⟩
          rw [hS4] at XS4 HB5
          have r5 := XS4.out.cells.2.2.2.2.2.1
          have g5 := XS4.out.thaw.2.2.2.2.2.1
          have XS5 := Lib.hid (XS4.out.set5 n5)
          have HB6 := Lib.hid (below_set (C := w.heap.size) (i := 5) HB5.out (by omega) (.int .i64 n5))
          obtain ⟨S5, hS5⟩ : ∃ W, S4.setCell ⟨w.heap.size, 5, none⟩ (.int .i64 n5) = W := ⟨_, rfl⟩
          rw [hS5] at XS5 HB6
          have r6 := XS5.out.cells.2.2.2.2.2.2
          have g6 := XS5.out.thaw.2.2.2.2.2.2
          have XS6 := Lib.hid (XS5.out.set6 n6)
          have HB7 := Lib.hid (below_set (C := w.heap.size) (i := 6) HB6.out (by omega) (.int .i64 n6))
          obtain ⟨S6, hS6⟩ : ∃ W, S5.setCell ⟨w.heap.size, 6, none⟩ (.int .i64 n6) = W := ⟨_, rfl⟩
          rw [hS6] at XS6 HB7
          obtain ⟨k0, k1, k2, k3, k4, k5, k6⟩ := XS6.out.cells
          go_wp2_with fail
          exact bodyPost_ret (v := .tuple #[.agg #[.int .i64 n0, .int .i64 n1, .int .i64 n2, .int .i64 n3, .int .i64 n4, .int .i64 n5, .int .i64 n6], .int .i64 0]) (by simp [results, Tryd.results25, go_sem, k0, k1, k2, k3, k4, k5, k6]) rfl ⟨by rw [HV0.out, HV1.out, HV2.out, HV3.out, HV4.out, HV5.out, HV6.out]; exact p_ok HE.out, HB7.out⟩
end Go.Proofs.YtnhaflnlhcabpaaDoor
