/- Contracts of layer 4: strings.Cut at a point, strconv.Atoi at every string. -/
import Derived.Test.YtemflgjfoappaabDoorPtmW
namespace Go.Proofs.YtemflgjfoappaabDoor
open Go.RowKit Fx Pt Wi

/-! ### The point -/
theorem Pt.index_cases (l : List UInt8) (c : UInt8) : Lib.indexByte l c = -1 ∨ ∃ i : Nat, i < l.length ∧ Lib.indexByte l c = i := by
  induction l with
  | nil => exact .inl rfl
  | cons b l ih =>
    unfold Lib.indexByte
    by_cases hb : (b == c) = true
    · rw [hb]; exact .inr ⟨0, by simp, rfl⟩
    · rw [Bool.eq_false_iff.2 hb]
      rcases ih with h | ⟨i, hi, h⟩
      · rw [h]; exact .inl rfl
      · rw [h]
        refine .inr ⟨i + 1, by simpa using hi, ?_⟩
        have : ((i : Int) == -1) = false := by simp
        rw [this]; rfl

def Pt.cutB (x : ByteArray) : ByteArray := if Lib.indexByte x.data.toList 46 = -1 then x else x.extract 0 (Lib.indexByte x.data.toList 46).toNat
def Pt.cutA (x : ByteArray) : ByteArray := if Lib.indexByte x.data.toList 46 = -1 then ⟨#[]⟩ else x.extract ((Lib.indexByte x.data.toList 46).toNat + 1) x.size
def Pt.cutF (x : ByteArray) : Bool := !decide (Lib.indexByte x.data.toList 46 = -1)

theorem ret_cut {a b a' b' : ByteArray} {p q : Bool} (h : a = a') (h' : b = b') (h'' : p = q) : Ending.returned (.tuple #[.string a, .string b, .bool p]) = .returned (.tuple #[.string a', .string b', .bool q]) := by rw [h, h', h'']

theorem scut_any (x : ByteArray) (w : World) (hs : x.size ≤ 9223372036854775807) :
    Calls Tryd.prog 40 #[.string x, .string ⟨#[46]⟩] w fun e w' => e = .returned (.tuple #[.string (cutB x), .string (cutA x), .bool (cutF x)]) ∧ ∃ k, w' = w.drewN k := by
  rcases index_cases x.data.toList 46 with h | ⟨i, hi, h⟩
  · have H := Lib.hid h
    have HB : Hid (cutB x = x ∧ cutA x = ⟨#[]⟩ ∧ cutF x = false) := Lib.hid ⟨if_pos h, if_pos h, by unfold cutF; rw [h]; rfl⟩
    clear h
    go_enter Tryd.func40, Tryd.ntmps40
    go_wp2_with fail
    refine (Tryd.stringslite_Index_one x 46 _).mono ?_
    rintro e w' ⟨rfl, rfl⟩
    rw [H.out]
    go_wp2_with fail
    go_ret3
    exact ⟨ret_cut HB.out.1.symm HB.out.2.1.symm HB.out.2.2.symm, 0, rfl⟩
  · have H := Lib.hid h
    have hn : ¬ Lib.indexByte x.data.toList 46 = -1 := by rw [h]; omega
    have HB : Hid (cutB x = x.extract 0 i ∧ cutA x = x.extract (i + 1) x.size ∧ cutF x = true) := Lib.hid ⟨by unfold cutB; rw [if_neg hn, h]; rfl, by unfold cutA; rw [if_neg hn, h]; rfl, by unfold cutF; rw [decide_eq_false hn]; rfl⟩
    have hlt : i < x.size := by rw [show x.size = x.data.toList.length from Array.length_toList.symm]; exact hi
    have i0 : (0 : Int) ≤ i := by omega
    have i1 : (i : Int) ≤ x.size := by omega
    have i2 : (i : Int) + 1 ≤ x.size := by omega
    have i3 : IntKind.i64.wrap ((i : Int) + 1) = (i : Int) + 1 := by rw [IntKind.wrap_i64]; omega
    have i4 : ((i : Int) + 1).toNat = i + 1 := by omega
    have i5 : (0 : Int) ≤ (i : Int) + 1 := by omega
    clear h hn hi
    go_enter Tryd.func40, Tryd.ntmps40
    go_wp2_with fail
    refine (Tryd.stringslite_Index_one x 46 _).mono ?_
    rintro e w' ⟨rfl, rfl⟩
    rw [H.out]
    go_wp2_with fail
    go_quiet (fail)
    go_wp2_with fail
    go_ret3
    exact ⟨ret_cut HB.out.1.symm HB.out.2.1.symm HB.out.2.2.symm, _, rfl⟩

theorem cut_any (x : ByteArray) (w : World) (hs : x.size ≤ 9223372036854775807) :
    Calls Tryd.prog 24 #[.string x, .string ⟨#[46]⟩] w fun e w' => e = .returned (.tuple #[.string (cutB x), .string (cutA x), .bool (cutF x)]) ∧ ∃ k, w' = w.drewN k := by
  go_enter Tryd.func24, Tryd.ntmps24
  go_wp2_with fail
  refine (scut_any x _ hs).mono ?_
  rintro e w' ⟨rfl, k, rfl⟩
  go_wp2_with fail
  go_ret3
  exact ⟨rfl, k, rfl⟩

theorem cut_below (x : ByteArray) (w : World) (hs : x.size ≤ 9223372036854775807) :
    Calls Tryd.prog 24 #[.string x, .string ⟨#[46]⟩] w fun e w' => e = .returned (.tuple #[.string (cutB x), .string (cutA x), .bool (cutF x)]) ∧ Below w.heap.size w w' :=
  (cut_any x w hs).mono fun _ _ ⟨h, k, hw⟩ => ⟨h, hw ▸ below_drewN (Below.refl _ _) k⟩

/-! ### Atoi -/
/-- The two errors' variables hold errors. -/
def Pt.Errs (w : World) : Prop := (∃ t p, w.var? Tryd.prog "strconv.ErrSyntax" = some #[.iface t p]) ∧ (∃ t p, w.var? Tryd.prog "strconv.ErrRange" = some #[.iface t p])
theorem Pt.Errs.below {w w' : World} (h : Errs w) (hb : Below w.heap.size w w') : Errs w' := by
  obtain ⟨⟨t, p, h1⟩, u, q, h2⟩ := h
  exact ⟨⟨t, p, var_keep h1 hb⟩, u, q, var_keep h2 hb⟩

def Pt.AtoiPost (x : ByteArray) (w : World) (e : Ending) (w' : World) : Prop := Below w.heap.size w w' ∧
  ((∃ v : Int, Lib.atoiAll x.data.toList = .ok v ∧ e = .returned (.tuple #[.int .i64 v, .nilIface])) ∨ (∃ (v : Int) (t : TypeId) (p : Value), (∀ u, Lib.atoiAll x.data.toList ≠ .ok u) ∧ e = .returned (.tuple #[.int .i64 v, .iface t p])))

theorem Pt.below_bytes (w : World) (e : TypeId) (t : ByteArray) : Below w.heap.size w (Lib.bytesWorld w e t) := by
  refine ⟨rfl, rfl, rfl, ?_, fun i hi => Lib.bytesWorld_at_old w e t i hi⟩
  rw [Lib.bytesWorld_size]; omega

theorem atoi_any (x : ByteArray) (w : World) (hs : x.size ≤ 281474976710656) (he : Errs w) :
    Calls Tryd.prog 25 #[.string x] w (AtoiPost x w) := by
  obtain ⟨⟨t, p, h1⟩, u, q, h2⟩ := he
  rcases ha : Lib.atoiAll x.data.toList with v | _ | _
  · refine (Any.strconv_Atoi_ok Tryd.laysC172 x (by omega) v ha w).mono ?_
    rintro e w' ⟨rfl, hw⟩
    refine ⟨?_, .inl ⟨v, ha, rfl⟩⟩
    rcases hw with rfl | ⟨t, rfl⟩
    · exact Below.refl _ _
    · exact below_bytes _ _ _
  · refine (Any.strconv_Atoi_syntax_var Tryd.laysC172 x hs ha t p w h1).mono ?_
    rintro e w' ⟨N, rfl, _, _, hb⟩
    exact ⟨hb, .inr ⟨_, _, _, (fun u hu => by rw [ha] at hu; cases hu), rfl⟩⟩
  · refine (Any.strconv_Atoi_range_var Tryd.laysC172 x hs ha u q w h2).mono ?_
    rintro e w' ⟨N, rfl, _, _, hb⟩
    exact ⟨hb, .inr ⟨_, _, _, (fun u hu => by rw [ha] at hu; cases hu), rfl⟩⟩
end Go.Proofs.YtemflgjfoappaabDoor
