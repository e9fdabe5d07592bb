/- Contracts of layer 4: Parse. -/
import Derived.Test.YtemflgjfoappaabDoorPtmX
namespace Go.Proofs.YtemflgjfoappaabDoor
open Go.RowKit Fx Pt Wi

theorem Pt.cut_txt (S N : Nat) : cutB ⟨(ptL S N).toArray⟩ = ⟨(Lib.decDigits S).toArray⟩ ∧ cutA ⟨(ptL S N).toArray⟩ = ⟨(low N 9).toArray⟩ := by
  have h : Lib.indexByte (⟨(ptL S N).toArray⟩ : ByteArray).data.toList 46 = (Lib.decDigits S).length := by
    show Lib.indexByte (ptL S N) 46 = _
    exact index_at (digs_no (digs_dec S))
  have hn : ¬ Lib.indexByte (⟨(ptL S N).toArray⟩ : ByteArray).data.toList 46 = -1 := by rw [h]; omega
  have hz : (⟨(ptL S N).toArray⟩ : ByteArray).size = (Lib.decDigits S).length + 10 := by
    show (ptL S N).toArray.size = _
    simp [ptL, low_len]
  constructor
  · unfold cutB
    rw [if_neg hn, h, ByteArray.extract_mk]
    simp [ptL]
  · unfold cutA
    rw [if_neg hn, h, hz, ByteArray.extract_mk]
    have e : (ptL S N).drop ((Lib.decDigits S).length + 1) = low N 9 := by
      unfold ptL; rw [List.drop_append]; simp
    rw [Int.toNat_natCast, e, List.take_of_length_le (by rw [low_len]; omega)]
theorem Pt.atoi_dec {S : Nat} (h : S ≤ 281474976710655) : Lib.atoiAll (Lib.decDigits S) = .ok (S : Int) := by
  have := atoi_digs (l := Lib.decDigits S) (fun h => by have := dec_pos S; rw [h] at this; simp at this) (digs_dec S) (by rw [dval_dec]; omega)
  rwa [dval_dec] at this
theorem Pt.atoi_low {N : Nat} (h : N < 1000000000) : Lib.atoiAll (low N 9) = .ok (N : Int) := by
  have e : dval 0 (low N 9) = N := by rw [dval_low]; exact Nat.mod_eq_of_lt (by simpa using h)
  have := atoi_digs (l := low N 9) (fun h => by have := low_len N 9; rw [h] at this; simp at this) (digs_low N 9) (by rw [e]; omega)
  rwa [e] at this
theorem Pt.cut_size (x : ByteArray) : (cutB x).size ≤ x.size ∧ (cutA x).size ≤ x.size := by
  unfold cutB cutA
  split
  · exact ⟨Nat.le_refl _, Nat.zero_le _⟩
  · rw [ByteArray.size_extract, ByteArray.size_extract]; omega
theorem Pt.bx_store {w : World} {B : Nat} {a b : Int} (h : Bx w B a b) (s n : Int) : Bx ((w.setCell ⟨B, 0, none⟩ (.int .i64 s)).setCell ⟨B, 1, none⟩ (.int .i64 n)) B s n := two_set1 (two_set0 h _) _
/-- No valid timestamp has the text x. -/
def Pt.NoTxt (x : ByteArray) : Prop := ∀ s n : Int, ok s n = true → txt s n ≠ x

theorem Pt.empty_cut {x : ByteArray} (h : x = ⟨#[]⟩) : ∀ v, Lib.atoiAll (cutB x).data.toList ≠ .ok v := by
  subst h; intro v
  have : Lib.atoiAll (cutB ⟨#[]⟩).data.toList = Lib.atoiAll [] := rfl
  rw [this]; intro h; cases h

set_option maxRecDepth 100000 in
theorem parse_yes (S N : Nat) (x : ByteArray) (w : World) (hx : x = txt S N) (hS : S ≤ 281474976710655) (hN : N < 1000000000) (ht : Tab w) (he : Errs w) :
    Calls Tryd.prog 9 #[.string x] w fun e w' => e = .returned (.tuple #[.agg #[.int .i64 S, .int .i64 N], .int .i64 0]) ∧ Below w.heap.size w w' := by
  have ho : ok S N = true := ok_iff.2 ⟨by omega, by omega, by omega, by omega⟩
  have hx2 : x = ⟨(ptL S N).toArray⟩ := by rw [hx]; unfold txt; rw [ho]; rfl
  have hc := cut_txt S N
  rw [← hx2] at hc
  have hsz : x.size ≤ 25 := by
    rw [hx2]; show (ptL S N).toArray.size ≤ 25
    have := dec_le 15 S (by decide) (by omega)
    simp [ptL, low_len]; omega
  have hb := cut_size x
  have HB : Hid (Lib.atoiAll (cutB x).data.toList = .ok (S : Int)) := Lib.hid (by rw [hc.1]; exact atoi_dec hS)
  have HA : Hid (Lib.atoiAll (cutA x).data.toList = .ok (N : Int)) := Lib.hid (by rw [hc.2]; exact atoi_low hN)
  have HX := Lib.hid hx.symm
  obtain ⟨yb, hyb⟩ : ∃ y, cutB x = y := ⟨_, rfl⟩
  obtain ⟨ya, hya⟩ : ∃ y, cutA x = y := ⟨_, rfl⟩
  rw [hyb] at hb HB
  rw [hya] at hb HA
  obtain ⟨hb1, hb2⟩ := hb
  have HYB := Lib.hid hyb
  have HYA := Lib.hid hya
  have X0 := Lib.hid (bx_new w 0 0)
  have B0 := Lib.hid ((Below.refl w.heap.size w).alloc (Nat.le_refl _) (.cells #[.int .i64 0, .int .i64 0] 23))
  obtain ⟨W0, hW0⟩ : ∃ W, w.alloc (.cells #[.int .i64 0, .int .i64 0] 23) = W := ⟨_, rfl⟩
  have z0 := size_alloc w (.cells #[.int .i64 0, .int .i64 0] 23)
  rw [hW0] at X0 B0 z0
  have HW0 := Lib.hid hW0
  have T0 := Lib.hid (ht.below B0.out)
  have E0 := Lib.hid (he.below B0.out)
  clear hx hx2 hc hyb hya hW0 ht he ho
  go_enter Tryd.func9, Tryd.ntmps9
  go_wp2_with fail
  rw [HW0.out]
  refine (cut_below x _ (by omega)).mono ?_
  rintro e w1 ⟨rfl, hw1⟩
  rw [HYB.out, HYA.out]
  have X1 := Lib.hid (X0.out.below hw1 (by omega))
  have B1 := Lib.hid (B0.out.trans (hw1.mono (by omega)))
  have T1 := Lib.hid (T0.out.below hw1)
  have E1 := Lib.hid (E0.out.below hw1)
  have z1 := hw1.size
  clear hw1 X0 B0 T0 E0
  go_wp2_with fail
  refine (atoi_any yb _ (by omega) E1.out).mono ?_
  rintro e w2 ⟨hw2, hp⟩
  obtain rfl : e = .returned (.tuple #[.int .i64 S, .nilIface]) := by
    rcases hp with ⟨v, h1, rfl⟩ | ⟨v, t, p, h1, rfl⟩
    · rw [HB.out] at h1; injection h1 with h1; rw [h1]
    · exact absurd HB.out (h1 _)
  have X2 := Lib.hid (X1.out.below hw2 (by omega))
  have B2 := Lib.hid (B1.out.trans (hw2.mono (by omega)))
  have T2 := Lib.hid (T1.out.below hw2)
  have E2 := Lib.hid (E1.out.below hw2)
  have z2 := hw2.size
  clear hp hw2 X1 B1 T1 E1
  go_wp2_with fail
  refine (atoi_any ya _ (by omega) E2.out).mono ?_
  rintro e w3 ⟨hw3, hp⟩
  obtain rfl : e = .returned (.tuple #[.int .i64 N, .nilIface]) := by
    rcases hp with ⟨v, h1, rfl⟩ | ⟨v, t, p, h1, rfl⟩
    · rw [HA.out] at h1; injection h1 with h1; rw [h1]
    · exact absurd HA.out (h1 _)
  have hw3' := hw3.alloc hw3.size (.cells #[.int .i64 S, .int .i64 N] 23)
  have Y3 := Lib.hid (bx_new w3 S N)
  have z3 := size_alloc w3 (.cells #[.int .i64 S, .int .i64 N] 23)
  have z3' := hw3.size
  obtain ⟨W3, hW3⟩ : ∃ W, w3.alloc (.cells #[.int .i64 S, .int .i64 N] 23) = W := ⟨_, rfl⟩
  rw [hW3] at hw3' Y3 z3
  have X3 := Lib.hid (X2.out.below hw3' (by omega))
  have B3 := Lib.hid (B2.out.trans (hw3'.mono (by omega)))
  have T3 := Lib.hid (T2.out.below hw3')
  have HW3 := Lib.hid hW3
  clear hw3 hw3' hp hW3 X2 B2 T2 E2
  obtain ⟨y0, y1, _, _, _⟩ := two_cells Y3.out
  go_wp2_with fail
  rw [HW3.out]
  refine (ptext_any S N _ T3.out).mono ?_
  rintro e w4 ⟨rfl, hw4⟩
  rw [HX.out]
  have X4 := Lib.hid (X3.out.below hw4 (by omega))
  have Y4 := Lib.hid (Y3.out.below hw4 (by omega))
  have B4 := Lib.hid (B3.out.trans (hw4.mono B3.out.size))
  have z4 := hw4.size
  obtain ⟨v0, v1, _, _, _⟩ := two_cells Y4.out
  obtain ⟨x0, x1, f0, f1, _⟩ := two_cells X4.out
  obtain ⟨c0, c1, _, _, _⟩ := two_cells (bx_store X4.out S N)
  clear hw4 X3 Y3 B3 T3 y0 y1
  go_wp2_with fail
  exact bodyPost_ret (v := .tuple #[.agg #[.int .i64 S, .int .i64 N], .int .i64 0]) (by simp [results, Tryd.results9, go_sem, c0, c1]) rfl ⟨rfl, (B4.out.setCell (Nat.le_refl _) _).setCell (Nat.le_refl _) _⟩
end Go.Proofs.YtemflgjfoappaabDoor
