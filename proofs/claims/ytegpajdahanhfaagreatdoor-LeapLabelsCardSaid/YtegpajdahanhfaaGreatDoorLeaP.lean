/- Contracts of layer 6: one line of a table's text. -/
import Derived.Test.YtegpajdahanhfaaGreatDoorLeaO
import Derived.Deep.AppendLies
import Derived.Deep.RegionHeld3
namespace Go.Proofs.YtegpajdahanhfaaGreatDoor
open Go.RowKit Go.Shelf Fx Cv Lp

theorem Lp.tag_sub {t l r : List UInt8} (h : tagV t l = some r) : r.length ≤ l.length ∧ ∀ b ∈ r, b ∈ l := by
  unfold tagV at h
  split at h
  · cases h
  · have hd : ∃ n, Lib.trimPrefix l t = l.drop n := by
      unfold Lib.trimPrefix
      by_cases hh : Lib.hasPrefix l t = true
      · rw [if_pos hh]; exact ⟨_, rfl⟩
      · rw [if_neg hh]; exact ⟨0, rfl⟩
    obtain ⟨n, hn⟩ := hd
    rw [hn] at h
    split at h
    · cases h
    · rename_i c q hq
      split at h
      · cases h
        rw [← hq]
        exact ⟨by rw [List.length_drop]; omega, fun b hb => (List.drop_sublist _ _).subset hb⟩
      · cases h
theorem Lp.mk_list (l : List UInt8) : (mk l).data.toList = l := rfl
theorem Lp.size_mk (l : List UInt8) : (mk l).size = l.length := by rw [show (mk l).size = (mk l).data.toList.length from Array.length_toList.symm, mk_list]

theorem ltag_some (x t R : ByteArray) (w : World) (h : tagV t.data.toList x.data.toList = some R.data.toList) :
    Calls Tryz.prog 55 #[.string x, .string t] w fun e w' => e = .returned (.tuple #[.string R, .bool true]) ∧ w' = w := by
  refine (lcuttag_any x t w).mono ?_
  rintro e w' ⟨rfl, hw⟩
  refine ⟨?_, hw⟩
  rw [h]
  show Ending.returned (.tuple #[.string (mk R.data.toList), .bool true]) = _
  rw [show mk R.data.toList = R from mk_eq R]
theorem ltag_none (x t : ByteArray) (w : World) (h : tagV t.data.toList x.data.toList = none) :
    Calls Tryz.prog 55 #[.string x, .string t] w fun e w' => e = .returned (.tuple #[.string ⟨#[]⟩, .bool false]) ∧ w' = w := by
  refine (lcuttag_any x t w).mono ?_
  rintro e w' ⟨rfl, hw⟩
  refine ⟨?_, hw⟩
  rw [h]; rfl
/-- What stands behind a line. -/
def Lp.RPost (B : Nat) (w : World) (s : RS) (o : Option RS) (e : Ending) (w' : World) : Prop := e = .returned (.bool o.isSome) ∧ RR B w' (o.getD s) ∧ Below B w w'

set_option maxRecDepth 100000 in
theorem lread_tagE (x R : ByteArray) (hxs : x.size ≤ 4294967280) (hxa : Asc x) (B : Nat) (s : RS) (w : World) (hp : Tab w) (he : Errs w) (hR : RR B w s) (h : tagV [35, 64] x.data.toList = some R.data.toList) :
    Calls Tryz.prog 40 #[.pointer (some ⟨B, 0, none⟩), .string x] w (RPost B w s (readV x.data.toList s)) := by
  obtain ⟨s1, s2⟩ := tag_sub h
  have e1 : R.data.toList.length = R.size := Array.length_toList
  have e2 : x.data.toList.length = x.size := Array.length_toList
  have HC := lsetE_any R (by omega) (fun b hb => hxa b (s2 b hb)) B s
  have HV : Hid (readV x.data.toList s = if nmB R.data.toList 1 && !s.he then some { s with e := oneV R.data.toList, he := true } else none) := Lib.hid (by unfold readV; rw [h])
  have HP := Lib.hid hp
  have HE := Lib.hid he
  have HR := Lib.hid hR
  have HT := Lib.hid h
  clear hp he hR h s1 s2 e1 e2
  go_enter Tryz.func40, Tryz.ntmps40
  go_wp2_with fail
  refine (ltag_some x ⟨#[35, 64]⟩ R w HT.out).mono ?_
  rintro e w' ⟨rfl, hw'⟩; subst w'
  go_wp2_with fail
  go_region_held3 (fun _ => True) (trivial)
    (first
    | (go_at_call 56; refine (HC _ ?_ ?_ ?_).mono ?_; exact HP.out; exact HE.out; exact HR.out; rintro e w1 ⟨rfl, hR1, hb1⟩; have HR1 := Lib.hid hR1; have HB1 : Hid (Below B w w1) := Lib.hid ⟨hb1.os, hb1.tape, hb1.output, hb1.size, hb1.block⟩; clear hR1 hb1))
  go_wp2_with fail
  go_ret
  have hr := HR1.out
  rw [HV.out]
  unfold RPost
  refine ⟨?_, ?_, HB1.out⟩
  · cases hz : (nmB R.data.toList 1 && !s.he)
    · rfl
    · rfl
  · cases hz : (nmB R.data.toList 1 && !s.he)
    · rw [hz] at hr; exact hr
    · rw [hz] at hr; exact hr

set_option maxRecDepth 100000 in
theorem lread_tagB (x R : ByteArray) (hxs : x.size ≤ 4294967280) (hxa : Asc x) (B : Nat) (s : RS) (w : World) (hp : Tab w) (he : Errs w) (hR : RR B w s) (h0 : tagV [35, 64] x.data.toList = none) (h : tagV [35, 61] x.data.toList = some R.data.toList) :
    Calls Tryz.prog 40 #[.pointer (some ⟨B, 0, none⟩), .string x] w (RPost B w s (readV x.data.toList s)) := by
  obtain ⟨s1, s2⟩ := tag_sub h
  have e1 : R.data.toList.length = R.size := Array.length_toList
  have e2 : x.data.toList.length = x.size := Array.length_toList
  have HC := lsetB_any R (by omega) (fun b hb => hxa b (s2 b hb)) B s
  have HV : Hid (readV x.data.toList s = if nmB R.data.toList 1 && !s.hb then some { s with b := oneV R.data.toList, hb := true } else none) := Lib.hid (by unfold readV; rw [h0, h])
  have HP := Lib.hid hp
  have HE := Lib.hid he
  have HR := Lib.hid hR
  have HT0 := Lib.hid h0
  have HT := Lib.hid h
  clear hp he hR h h0 s1 s2 e1 e2
  go_enter Tryz.func40, Tryz.ntmps40
  go_wp2_with fail
  refine (ltag_none x ⟨#[35, 64]⟩ w HT0.out).mono ?_
  rintro e w' ⟨rfl, hw'⟩; subst w'
  go_wp2_with fail
  refine (ltag_some x ⟨#[35, 61]⟩ R w HT.out).mono ?_
  rintro e w' ⟨rfl, hw'⟩; subst w'
  go_wp2_with fail
  go_region_held3 (fun _ => True) (trivial)
    (first
    | (go_at_call 56; refine (HC _ ?_ ?_ ?_).mono ?_; exact HP.out; exact HE.out; exact HR.out; rintro e w1 ⟨rfl, hR1, hb1⟩; have HR1 := Lib.hid hR1; have HB1 : Hid (Below B w w1) := Lib.hid ⟨hb1.os, hb1.tape, hb1.output, hb1.size, hb1.block⟩; clear hR1 hb1))
  go_wp2_with fail
  go_ret
  have hr := HR1.out
  rw [HV.out]
  unfold RPost
  refine ⟨?_, ?_, HB1.out⟩
  · cases hz : (nmB R.data.toList 1 && !s.hb)
    · rfl
    · rfl
  · cases hz : (nmB R.data.toList 1 && !s.hb)
    · rw [hz] at hr; exact hr
    · rw [hz] at hr; exact hr

set_option maxRecDepth 100000 in
/-- Neither tag; nothing but blanks before the comment. -/
theorem lread_blank (x : ByteArray) (hxs : x.size ≤ 4294967280) (B : Nat) (s : RS) (w : World) (hR : RR B w s) (h0 : tagV [35, 64] x.data.toList = none) (h1 : tagV [35, 61] x.data.toList = none) (h2 : trL (trR (cutL 35 x.data.toList)) = []) :
    Calls Tryz.prog 40 #[.pointer (some ⟨B, 0, none⟩), .string x] w (RPost B w s (readV x.data.toList s)) := by
  have HV : Hid (readV x.data.toList s = some s) := Lib.hid (by unfold readV; rw [h0, h1, h2])
  obtain ⟨C, hC⟩ : ∃ C : ByteArray, mk (cutL 35 x.data.toList) = C := ⟨_, rfl⟩
  have hCd : C.data.toList = cutL 35 x.data.toList := by rw [← hC]; rfl
  have hCs : C.size ≤ 9223372036854775807 := by
    have e1 : C.data.toList.length = C.size := Array.length_toList
    have e2 : x.data.toList.length = x.size := Array.length_toList
    have := (List.takeWhile_sublist (fun y => y != 35) (l := x.data.toList)).length_le
    unfold cutL at hCd
    rw [hCd] at e1
    omega
  have HR := Lib.hid hR
  have HT0 := Lib.hid h0
  have HT1 := Lib.hid h1
  have HT2 := Lib.hid (show trL (trR C.data.toList) = [] by rw [hCd]; exact h2)
  have HC := Lib.hid hC
  have hBl := hR.lt
  clear hR h0 h1 h2 hC hCd
  go_enter Tryz.func40, Tryz.ntmps40
  go_wp2_with fail
  refine (ltag_none x ⟨#[35, 64]⟩ w HT0.out).mono ?_
  rintro e w' ⟨rfl, hw'⟩; subst w'
  go_wp2_with fail
  refine (ltag_none x ⟨#[35, 61]⟩ w HT1.out).mono ?_
  rintro e w' ⟨rfl, hw'⟩; subst w'
  go_wp2_with fail
  refine (lcut_any 35 x w (by omega)).mono ?_
  rintro e w1 ⟨f, rfl, k, hw1⟩
  have HB1 : Hid (Below w.heap.size w w1) := Lib.hid (by rw [hw1]; exact below_drewN (Below.refl _ _) k)
  clear hw1
  rw [HC.out]
  go_wp2_with fail
  refine (trim_any C w1 hCs).mono ?_
  rintro e w2 ⟨rfl, hb2⟩
  have HB2 := Lib.hid (HB1.out.trans (hb2.mono HB1.out.size))
  clear hb2
  rw [HT2.out]
  go_wp2_with fail
  go_ret
  rw [HV.out]
  exact ⟨rfl, HR.out.below HB2.out, HB2.out.mono (by omega)⟩

set_option maxRecDepth 100000 in
/-- A line that is no line of an entry. -/
theorem lread_bad (x : ByteArray) (hxs : x.size ≤ 4294967280) (hxa : Asc x) (B : Nat) (s : RS) (w : World) (hp : Tab w) (he : Errs w) (hR : RR B w s) (h0 : tagV [35, 64] x.data.toList = none) (h1 : tagV [35, 61] x.data.toList = none) (h2 : trL (trR (cutL 35 x.data.toList)) ≠ []) (h3 : nmB (cutL 35 x.data.toList) 2 = false) :
    Calls Tryz.prog 40 #[.pointer (some ⟨B, 0, none⟩), .string x] w (RPost B w s (readV x.data.toList s)) := by
  have HV : Hid (readV x.data.toList s = none) := Lib.hid (by
    unfold readV; rw [h0, h1]
    rcases hq : trL (trR (cutL 35 x.data.toList)) with _ | ⟨a, q⟩
    · exact absurd hq h2
    · simp only [h3]; rfl)
  obtain ⟨C, hC⟩ : ∃ C : ByteArray, mk (cutL 35 x.data.toList) = C := ⟨_, rfl⟩
  have hCd : C.data.toList = cutL 35 x.data.toList := by rw [← hC]; rfl
  have hsub : (cutL 35 x.data.toList).Sublist x.data.toList := List.takeWhile_sublist _
  have hCs : C.size ≤ 4294967280 := by
    have e1 : C.data.toList.length = C.size := Array.length_toList
    have e2 : x.data.toList.length = x.size := Array.length_toList
    have := hsub.length_le
    rw [hCd] at e1
    omega
  have HN := numbers_any C 2 hCs (fun b hb => hxa b (hsub.subset (by rw [← hCd]; exact hb))) (by omega)
  rw [hCd, h3] at HN
  obtain ⟨T, hT⟩ : ∃ T : ByteArray, (⟨(trL (trR C.data.toList)).toArray⟩ : ByteArray) = T := ⟨_, rfl⟩
  have hTd : T.data.toList = trL (trR C.data.toList) := by rw [← hT]
  have hne : ¬ T.toList = [] := by rw [Lib.toList_data, hTd, hCd]; exact h2
  have hne2 : T.toList.isEmpty = false := by simpa using hne
  have HR := Lib.hid hR
  have HP := Lib.hid hp
  have HE := Lib.hid he
  have HT0 := Lib.hid h0
  have HT1 := Lib.hid h1
  have HT2 := Lib.hid hT
  have HC := Lib.hid hC
  have hBl := hR.lt
  clear hR h0 h1 h2 h3 hC hCd hT hTd hp he hsub
  go_enter Tryz.func40, Tryz.ntmps40
  go_wp2_with fail
  refine (ltag_none x ⟨#[35, 64]⟩ w HT0.out).mono ?_
  rintro e w' ⟨rfl, hw'⟩; subst w'
  go_wp2_with fail
  refine (ltag_none x ⟨#[35, 61]⟩ w HT1.out).mono ?_
  rintro e w' ⟨rfl, hw'⟩; subst w'
  go_wp2_with fail
  refine (lcut_any 35 x w (by omega)).mono ?_
  rintro e w1 ⟨f, rfl, k, hw1⟩
  have HB1 : Hid (Below w.heap.size w w1) := Lib.hid (by rw [hw1]; exact below_drewN (Below.refl _ _) k)
  clear hw1
  rw [HC.out]
  go_wp2_with fail
  refine (trim_any C w1 (by omega)).mono ?_
  rintro e w2 ⟨rfl, hb2⟩
  have HB2 := Lib.hid (HB1.out.trans (hb2.mono HB1.out.size))
  clear hb2
  rw [HT2.out]
  go_wp2_with fail
  refine (HN w2 (HP.out.below HB2.out) (HE.out.below HB2.out)).mono ?_
  rintro e w3 ⟨v, rfl, -, hb3⟩
  have HB3 := Lib.hid (HB2.out.trans (hb3.mono HB2.out.size))
  clear hb3
  go_wp2_with fail
  go_ret
  rw [HV.out]
  exact ⟨rfl, HR.out.below HB3.out, HB3.out.mono (by omega)⟩
end Go.Proofs.YtegpajdahanhfaaGreatDoor
