/- Contracts of layer 5: Parse of the specification. -/
import Derived.Test.YtegpajdahanhfaaGreatDoorCivG
import Derived.Deep.RegionHeld3
import Derived.Deep.CutRange
namespace Go.Proofs.YtegpajdahanhfaaGreatDoor
open Go.RowKit Fx Cv Pt

/-- The form of a text. -/
def Cv.fmB : ByteArray := ⟨#[48, 48, 48, 48, 45, 48, 48, 45, 48, 48, 84, 48, 48, 58, 48, 48, 58, 48, 48, 46, 48, 48, 48, 48, 48, 48, 48, 48, 48, 90]⟩
/-- Does the byte c stand where the form has f? -/
def Cv.okB (f c : Nat) : Bool := if f = 48 then decide (48 ≤ c ∧ c ≤ 57) else decide (c = f)
def Cv.formB (x : ByteArray) : Bool := decide (x.size = 30) && (List.range 30).all fun k => okB (fmB.data.toList.getD k 0).toNat (x.data.toList.getD k 0).toNat
/-- The field from a to b. -/
def Cv.fld (x : ByteArray) (a b : Nat) : Int := dval 0 ((x.data.toList.drop a).take (b - a))
/-- What Parse returns. -/
def Cv.pE (x : ByteArray) : Int := if formB x = true then chkC (fld x 0 4) (fld x 5 7) (fld x 8 10) (fld x 11 13) (fld x 14 16) (fld x 17 19) (fld x 20 29) else 19
def Cv.pF (x : ByteArray) (a b : Nat) : Int := if pE x = 0 then fld x a b else 0
theorem Cv.form_iff {x : ByteArray} : formB x = true ↔ x.size = 30 ∧ ∀ j, j < 30 → okB (fmB.data.toList.getD j 0).toNat (x.data.toList.getD j 0).toNat = true := by
  unfold formB
  rw [Bool.and_eq_true, decide_eq_true_iff, List.all_eq_true]
  simp only [List.mem_range]
theorem Cv.p_end {x : ByteArray} {E : Int} (he : pE x = E) (h0 : E ≠ 0) : Ending.returned (.tuple #[.agg #[.int .i64 0, .int .i64 0, .int .i64 0, .int .i64 0, .int .i64 0, .int .i64 0, .int .i64 0], .int .i64 E]) = .returned (.tuple #[.agg #[.int .i64 (pF x 0 4), .int .i64 (pF x 5 7), .int .i64 (pF x 8 10), .int .i64 (pF x 11 13), .int .i64 (pF x 14 16), .int .i64 (pF x 17 19), .int .i64 (pF x 20 29)], .int .i64 (pE x)]) := by
  have h : ∀ a b, pF x a b = 0 := fun a b => if_neg (by rw [he]; exact h0)
  simp only [h, he]
theorem Cv.p_ok {x : ByteArray} (he : pE x = 0) : Ending.returned (.tuple #[.agg #[.int .i64 (fld x 0 4), .int .i64 (fld x 5 7), .int .i64 (fld x 8 10), .int .i64 (fld x 11 13), .int .i64 (fld x 14 16), .int .i64 (fld x 17 19), .int .i64 (fld x 20 29)], .int .i64 0]) = .returned (.tuple #[.agg #[.int .i64 (pF x 0 4), .int .i64 (pF x 5 7), .int .i64 (pF x 8 10), .int .i64 (pF x 11 13), .int .i64 (pF x 14 16), .int .i64 (pF x 17 19), .int .i64 (pF x 20 29)], .int .i64 (pE x)]) := by
  have h : ∀ a b, pF x a b = fld x a b := fun a b => if_pos he
  simp only [h, he]

theorem Cv.getD_at (x : ByteArray) (k : Nat) (h : k < x.size) : (x.data.toList.getD k 0).toNat = (x[k]'h).toNat := by
  have h2 : k < x.data.toList.length := by rw [Array.length_toList]; exact h
  rw [List.getD_eq_getElem?_getD, List.getElem?_eq_getElem h2]; rfl
theorem Cv.ok_next {x g : ByteArray} {k : Nat} (h : ∀ j, j < k → okB (g.data.toList.getD j 0).toNat (x.data.toList.getD j 0).toNat = true) (hx : k < x.size) (hg : k < g.size)
    (hk : okB (g[k]'hg).toNat (x[k]'hx).toNat = true) : ∀ j, j < k + 1 → okB (g.data.toList.getD j 0).toNat (x.data.toList.getD j 0).toNat = true := by
  intro j hj
  rcases (show j < k ∨ j = k by omega) with hj | rfl
  · exact h j hj
  · rw [getD_at x j hx, getD_at g j hg]; exact hk
theorem Cv.form_bad {x : ByteArray} {k : Nat} (h30 : k < 30) (hx : k < x.size) (hg : k < fmB.size) (h : okB (fmB[k]'hg).toNat (x[k]'hx).toNat = false) : pE x = 19 := by
  refine if_neg fun hf => ?_
  have := (form_iff.1 hf).2 k h30
  rw [getD_at x k hx, getD_at fmB k hg, h] at this
  cases this
/-- Where the form has zeros, the bytes are digits. -/
theorem Cv.fields_digs {x : ByteArray} (hx : x.size = 30) (h : ∀ j, j < 30 → okB (fmB.data.toList.getD j 0).toNat (x.data.toList.getD j 0).toNat = true) :
    ∀ a b, b ≤ 30 → (∀ j, j < b → a ≤ j → (fmB.data.toList.getD j 0).toNat = 48) → Digs (x.extract a b).data.toList ∧ (x.extract a b).size ≤ b - a ∧ (dval 0 (x.extract a b).data.toList : Int) = fld x a b := by
  intro a b hb hf
  have e : (x.extract a b).data.toList = (x.data.toList.drop a).take (b - a) := by
    simp [ByteArray.data_extract, List.extract_eq_take_drop]
  refine ⟨?_, by rw [ByteArray.size_extract]; omega, by rw [e]; rfl⟩
  rw [e]
  intro c hc
  obtain ⟨i, hi, rfl⟩ := List.getElem_of_mem hc
  have hi2 : i < b - a := by rw [List.length_take] at hi; omega
  have hj := h (a + i) (by omega)
  rw [hf (a + i) (by omega) (by omega)] at hj
  have hlen : a + i < x.data.toList.length := by rw [Array.length_toList]; show a + i < x.size; omega
  rw [List.getElem_take, List.getElem_drop]
  rw [List.getD_eq_getElem?_getD, List.getElem?_eq_getElem hlen] at hj
  simpa [okB] using hj
theorem Cv.Bx7.drewN {w : World} {B : Nat} {y m d hh mi s n : Int} (h : Bx7 w B y m d hh mi s n) (k : Nat) : Bx7 (w.drewN k) B y m d hh mi s n := h

end Go.Proofs.YtegpajdahanhfaaGreatDoor
