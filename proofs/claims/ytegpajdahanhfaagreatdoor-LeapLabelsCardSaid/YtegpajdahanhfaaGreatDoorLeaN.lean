/- Contracts of layer 6: strings.Cut at one byte. -/
import Derived.Test.YtegpajdahanhfaaGreatDoorLeaM
namespace Go.Proofs.YtegpajdahanhfaaGreatDoor
open Go.RowKit Go.Shelf Fx Cv Lp

def Lp.cutL (c : UInt8) (l : List UInt8) : List UInt8 := l.takeWhile (fun x => x != c)
def Lp.cutR (c : UInt8) (l : List UInt8) : List UInt8 := (l.dropWhile (fun x => x != c)).drop 1
theorem Lp.cut_ix (c : UInt8) (l : List UInt8) : (Lib.indexByte l c = -1 ∧ cutL c l = l ∧ cutR c l = []) ∨ ∃ i : Nat, i < l.length ∧ Lib.indexByte l c = i ∧ cutL c l = l.take i ∧ cutR c l = l.drop (i + 1) := by
  induction l with
  | nil => exact .inl ⟨rfl, rfl, rfl⟩
  | cons b l ih =>
    unfold Lib.indexByte cutL cutR
    by_cases hb : b = c
    · subst hb
      exact .inr ⟨0, by simp, by simp, by simp, by simp⟩
    · have h1 : (b == c) = false := by simpa using hb
      have h2 : (b != c) = true := by simpa using hb
      rw [h1]
      unfold cutL cutR at ih
      simp only [List.takeWhile_cons, List.dropWhile_cons, h2, if_true]
      rcases ih with ⟨h, a, d⟩ | ⟨i, hi, h, a, d⟩
      · rw [h, a, d]; exact .inl ⟨rfl, rfl, rfl⟩
      · rw [h, a, d]
        refine .inr ⟨i + 1, by simpa using hi, ?_, rfl, rfl⟩
        have : ((i : Int) == -1) = false := by simp
        rw [this]; rfl
theorem Lp.ret_cut {a b a' b' : ByteArray} {p q : Bool} (h : a = a') (h' : b = b') (h'' : p = q) : Ending.returned (.tuple #[.string a, .string b, .bool p]) = .returned (.tuple #[.string a', .string b', .bool q]) := by rw [h, h', h'']
theorem Lp.mk_take (x : ByteArray) (i : Nat) : mk (x.data.toList.take i) = x.extract 0 i := by
  apply ByteArray.ext; apply Array.ext'; unfold mk; simp
theorem Lp.mk_drop (x : ByteArray) (i : Nat) : mk (x.data.toList.drop i) = x.extract i x.size := by
  apply ByteArray.ext; apply Array.ext'; unfold mk; rw [ByteArray.data_extract, Array.toList_extract]; show _ = List.extract _ _ _; rw [List.extract_eq_take_drop, List.take_of_length_le]
  rw [List.length_drop, Array.length_toList]; exact Nat.le_refl _

set_option maxRecDepth 100000 in
theorem lscut_any (c : UInt8) (x : ByteArray) (w : World) (hs : x.size ≤ 9223372036854775807) :
    Calls Tryz.prog 54 #[.string x, .string ⟨#[c]⟩] w fun e w' => ∃ f, e = .returned (.tuple #[.string (mk (cutL c x.data.toList)), .string (mk (cutR c x.data.toList)), .bool f]) ∧ ∃ k, w' = w.drewN k := by
  rcases cut_ix c x.data.toList with ⟨h, a, d⟩ | ⟨i, hi, h, a, d⟩
  · have H := Lib.hid h
    have HB : Hid (mk (cutL c x.data.toList) = x ∧ mk (cutR c x.data.toList) = ⟨#[]⟩) := Lib.hid ⟨by rw [a]; exact mk_eq x, by rw [d]; rfl⟩
    clear h a d
    go_enter Tryz.func54, Tryz.ntmps54
    go_wp2_with fail
    refine (Tryz.stringslite_Index_one x c _).mono ?_
    rintro e w' ⟨rfl, rfl⟩
    rw [H.out]
    go_wp2_with fail
    go_ret3
    exact ⟨false, ret_cut HB.out.1.symm HB.out.2.symm rfl, 0, rfl⟩
  · have H := Lib.hid h
    have HB : Hid (mk (cutL c x.data.toList) = x.extract 0 i ∧ mk (cutR c x.data.toList) = x.extract (i + 1) x.size) := Lib.hid ⟨by rw [a, mk_take], by rw [d, mk_drop]⟩
    have hlt : i < x.size := by rw [show x.size = x.data.toList.length from Array.length_toList.symm]; exact hi
    have i0 : (0 : Int) ≤ i := by omega
    have i1 : (i : Int) ≤ x.size := by omega
    have i2 : (i : Int) + 1 ≤ x.size := by omega
    have i3 : IntKind.i64.wrap ((i : Int) + 1) = (i : Int) + 1 := by rw [IntKind.wrap_i64]; omega
    have i4 : ((i : Int) + 1).toNat = i + 1 := by omega
    have i5 : (0 : Int) ≤ (i : Int) + 1 := by omega
    clear h hi a d
    go_enter Tryz.func54, Tryz.ntmps54
    go_wp2_with fail
    refine (Tryz.stringslite_Index_one x c _).mono ?_
    rintro e w' ⟨rfl, rfl⟩
    rw [H.out]
    go_wp2_with fail
    go_quiet (fail)
    go_wp2_with fail
    go_ret3
    exact ⟨true, ret_cut HB.out.1.symm HB.out.2.symm rfl, _, rfl⟩

theorem lcut_any (c : UInt8) (x : ByteArray) (w : World) (hs : x.size ≤ 9223372036854775807) :
    Calls Tryz.prog 39 #[.string x, .string ⟨#[c]⟩] w fun e w' => ∃ f, e = .returned (.tuple #[.string (mk (cutL c x.data.toList)), .string (mk (cutR c x.data.toList)), .bool f]) ∧ ∃ k, w' = w.drewN k := by
  go_enter Tryz.func39, Tryz.ntmps39
  go_wp2_with fail
  refine (lscut_any c x _ hs).mono ?_
  rintro e w' ⟨f, rfl, k, rfl⟩
  go_wp2_with fail
  go_ret3
  exact ⟨f, rfl, k, rfl⟩
end Go.Proofs.YtegpajdahanhfaaGreatDoor
