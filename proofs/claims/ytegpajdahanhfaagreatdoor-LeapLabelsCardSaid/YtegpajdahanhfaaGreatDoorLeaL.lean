/- Contracts of layer 6: the tags of a table's text; a field that is set once. -/
import Derived.Test.YtegpajdahanhfaaGreatDoorLeaK
namespace Go.Proofs.YtegpajdahanhfaaGreatDoor
open Go.RowKit Go.Shelf Fx Cv Lp
attribute [local go_sem] Oper.semAt_some

/-- What stands behind a tag that ends at a blank. -/
def Lp.tagV (t l : List UInt8) : Option (List UInt8) :=
  match Lib.hasPrefix l t with
  | false => none
  | true => match Lib.trimPrefix l t with
    | [] => none
    | c :: r => if isB c then some (c :: r) else none
def Lp.mk (l : List UInt8) : ByteArray := ⟨l.toArray⟩
theorem Lp.ix_blank (c : UInt8) : Lib.indexByte [32, 9] c = if c = 32 then 0 else if c = 9 then 1 else -1 := by
  by_cases h : c = 32
  · subst h; rfl
  · by_cases h9 : c = 9
    · subst h9; rfl
    · rw [if_neg h, if_neg h9]
      simp [Lib.indexByte, Ne.symm h, Ne.symm h9]
theorem Lp.ix_isB (c : UInt8) : (0 ≤ Lib.indexByte [32, 9] c) ↔ isB c = true := by
  rw [ix_blank]
  unfold isB
  by_cases h : c = 32
  · subst h; decide
  · by_cases h9 : c = 9
    · subst h9; decide
    · rw [if_neg h, if_neg h9]; simp [h, h9]

theorem lixb (c : UInt8) (w : World) : Calls Tryz.prog 75 #[.string ⟨#[32, 9]⟩, .int .u8 c.toNat] w fun e w' => ∃ z : Int, e = .returned (.int .i64 z) ∧ (z < 0 ↔ isB c = false) ∧ w' = w := by
  refine (Tryz.strings_IndexByte ⟨#[32, 9]⟩ c.toNat w).mono ?_
  rintro e w' ⟨rfl, hw⟩
  refine ⟨Lib.indexByte [32, 9] c, ?_, ?_, hw⟩
  · have : ((c.toNat : Int)).toNat.toUInt8 = c := by simp
    rw [this]
  · have := ix_isB c
    cases hb : isB c
    · rw [hb] at this; simp at this; simpa using this
    · rw [hb] at this; simp at this; simp; omega

set_option maxRecDepth 100000 in
theorem lcuttag_any (x t : ByteArray) (w : World) :
    Calls Tryz.prog 55 #[.string x, .string t] w fun e w' => e = .returned (.tuple #[.string (mk ((tagV t.data.toList x.data.toList).getD [])), .bool (tagV t.data.toList x.data.toList).isSome]) ∧ w' = w := by
  obtain ⟨r, hr⟩ : ∃ r : ByteArray, (⟨(Lib.trimPrefix x.data.toList t.data.toList).toArray⟩ : ByteArray) = r := ⟨_, rfl⟩
  have hrd : r.data.toList = Lib.trimPrefix x.data.toList t.data.toList := by rw [← hr]
  have hlen : r.data.toList.length = r.size := Array.length_toList
  have HR := Lib.hid hr
  clear hr
  cases hp : Lib.hasPrefix x.data.toList t.data.toList
  · have HV : Hid (tagV t.data.toList x.data.toList = none) := Lib.hid (by unfold tagV; rw [hp])
    have HP := Lib.hid hp
    clear hp
    go_enter Tryz.func55, Tryz.ntmps55
    go_wp2_with fail
    refine (Tryz.strings_CutPrefix x t w).mono ?_
    rintro e w' ⟨rfl, hw'⟩; subst w'
    rw [HR.out, HP.out]
    go_wp2_with fail
    go_ret2
    rw [HV.out]
    exact ⟨rfl, rfl⟩
  · cases hd : r.data.toList with
    | nil =>
      have HV : Hid (tagV t.data.toList x.data.toList = none) := Lib.hid (by unfold tagV; rw [hp, ← hrd, hd])
      have e0 : r.toList = [] := by rw [Lib.toList_data, hd]
      have HP := Lib.hid hp
      clear hp hrd hd hlen
      go_enter Tryz.func55, Tryz.ntmps55
      go_wp2_with fail
      refine (Tryz.strings_CutPrefix x t w).mono ?_
      rintro e w' ⟨rfl, hw'⟩; subst w'
      rw [HR.out, HP.out]
      go_wp2_with fail
      go_ret2
      rw [HV.out]
      exact ⟨rfl, rfl⟩
    | cons c q =>
      have hne : r.toList.isEmpty = false := by rw [Lib.toList_data, hd]; rfl
      have hne2 : ¬ r.toList = [] := by rw [Lib.toList_data, hd]; simp
      have hpos : 0 < r.size := by rw [← hlen, hd]; simp
      have h0i : (0 : Int) < r.size := by omega
      have hc : r[0] = c := by
        have := cons_of r hpos
        rw [hd] at this
        exact (List.cons.inj this).1.symm
      cases hb : isB c
      · have HV : Hid (tagV t.data.toList x.data.toList = none) := Lib.hid (by unfold tagV; rw [hp, ← hrd, hd]; simp [hb])
        have HP := Lib.hid hp
        have HC := Lib.hid hc
        have HB := Lib.hid hb
        clear hp hrd hd hlen hb hc
        go_enter Tryz.func55, Tryz.ntmps55
        go_wp2_with fail
        refine (Tryz.strings_CutPrefix x t w).mono ?_
        rintro e w' ⟨rfl, hw'⟩; subst w'
        rw [HR.out, HP.out]
        go_wp2_with fail
        refine (lixb r[0] w).mono ?_
        rintro e w' ⟨z, rfl, hz, hw'⟩; subst w'
        rw [HC.out, HB.out] at hz
        simp at hz
        have hzb : decide (z < 0) = true := decide_eq_true hz
        go_wp2_with fail
        go_ret2
        rw [HV.out]
        exact ⟨rfl, rfl⟩
      · have HV : Hid (tagV t.data.toList x.data.toList = some r.data.toList) := Lib.hid (by unfold tagV; rw [hp, hd, ← hrd, hd]; simp [hb])
        have HP := Lib.hid hp
        have HC := Lib.hid hc
        have HB := Lib.hid hb
        clear hp hrd hd hlen hb hc
        go_enter Tryz.func55, Tryz.ntmps55
        go_wp2_with fail
        refine (Tryz.strings_CutPrefix x t w).mono ?_
        rintro e w' ⟨rfl, hw'⟩; subst w'
        rw [HR.out, HP.out]
        go_wp2_with fail
        refine (lixb r[0] w).mono ?_
        rintro e w' ⟨z, rfl, hz, hw'⟩; subst w'
        rw [HC.out, HB.out] at hz
        simp at hz
        have hzb : decide (z < 0) = false := decide_eq_false (by omega)
        go_wp2_with fail
        go_ret2
        rw [HV.out]
        exact ⟨by show Ending.returned (.tuple #[.string r, .bool true]) = Ending.returned (.tuple #[.string (mk r.data.toList), .bool true]); rw [show mk r.data.toList = r from mk_eq r], rfl⟩

end Go.Proofs.YtegpajdahanhfaaGreatDoor
