/- Contracts of layer 6: the iterator of a line's fields. -/
import Derived.Test.YtegpajdahanhfaaGreatDoorLeaI
import Derived.RangeFuncNested
import Derived.RangeFuncBound
import Derived.RangeFuncCalls
import Derived.RangeFuncLeaves
import Derived.Shelf.Abstract
import Derived.Shelf.RegionOpen
import Derived.OwnWalkIn
import Derived.TacticsInMore
import Derived.LoopNIn
import Derived.LoopIn
import Derived.RangeFuncBox
import Derived.Maps.AppendAt
namespace Go.Proofs.YtegpajdahanhfaaGreatDoor
open Go.RowKit Go.Shelf Fx Cv Lp
attribute [local go_sem] Oper.semAt_some

/-- The field with which a row of bytes begins, and what is behind it. -/
def Lp.fw (l : List UInt8) : List UInt8 := l.takeWhile (fun c => !isB c)
def Lp.fd (l : List UInt8) : List UInt8 := l.dropWhile (fun c => !isB c)
theorem Lp.dw_len (p : UInt8 → Bool) (l : List UInt8) : (l.dropWhile p).length ≤ l.length := by
  induction l with
  | nil => simp
  | cons c l ih => rw [List.dropWhile_cons]; split <;> simp <;> omega
theorem Lp.fd_less (c : UInt8) (l : List UInt8) : (trL (fd (c :: l))).length < (c :: l).length := by
  unfold fd trL
  rw [List.dropWhile_cons]
  cases h : isB c
  · simp only [Bool.not_false, if_true]
    have := dw_len isB (l.dropWhile (fun c => !isB c))
    have := dw_len (fun c => !isB c) l
    simp only [List.length_cons]; omega
  · simp only [Bool.not_true, Bool.false_eq_true, if_false]
    rw [List.dropWhile_cons, h]
    have := dw_len isB l
    simp only [List.length_cons, if_true]; omega
/-- The fields of a row of bytes that begins with no blank. -/
def Lp.fldW : List UInt8 → List (List UInt8)
  | [] => []
  | c :: l => fw (c :: l) :: fldW (trL (fd (c :: l)))
termination_by r => r.length
decreasing_by exact fd_less c l
def Lp.flds (l : List UInt8) : List (List UInt8) := fldW (trL l)
/-- All bytes are of seven bits. -/
def Lp.Asc (x : ByteArray) : Prop := ∀ b ∈ x.data.toList, b.toNat < 128
abbrev Lp.FS := { x : ByteArray // x.size ≤ 4294967280 }
def Lp.vals (l : List FS) : List (List UInt8) := l.map (fun x => x.1.data.toList)
theorem Lp.vals_snoc (l : List FS) (x : FS) : vals (l ++ [x]) = vals l ++ [x.1.data.toList] := by simp [vals]

theorem Lp.tw_ix (l : List UInt8) : (Lib.indexAny l [32, 9] = -1 ∧ fd l = [] ∧ fw l = l) ∨ (∃ i : Nat, Lib.indexAny l [32, 9] = i ∧ i < l.length ∧ fw l = l.take i ∧ fd l = l.drop i) := by
  induction l with
  | nil => left; exact ⟨rfl, rfl, rfl⟩
  | cons c l ih =>
    cases h : isB c
    · have hc : ([32, 9] : List UInt8).contains c = false := h
      have e1 : fw (c :: l) = c :: fw l := by unfold fw; rw [List.takeWhile_cons, h]; rfl
      have e2 : fd (c :: l) = fd l := by unfold fd; rw [List.dropWhile_cons, h]; rfl
      have e3 : Lib.indexAny (c :: l) [32, 9] = if Lib.indexAny l [32, 9] == -1 then -1 else Lib.indexAny l [32, 9] + 1 := by
        rw [Lib.indexAny, if_neg (by rw [hc]; decide)]
      rw [e1, e2, e3]
      rcases ih with ⟨a, b, d⟩ | ⟨i, a, hi, b, d⟩
      · left; rw [a, b, d]; exact ⟨rfl, rfl, rfl⟩
      · right
        refine ⟨i + 1, ?_, by simp; omega, by rw [b]; rfl, by rw [d]; rfl⟩
        rw [a, if_neg (by simp)]; omega
    · right
      have hc : ([32, 9] : List UInt8).contains c = true := h
      refine ⟨0, by rw [Lib.indexAny, if_pos hc]; rfl, by simp, ?_, ?_⟩
      · unfold fw; rw [List.takeWhile_cons, h]; rfl
      · unfold fd; rw [List.dropWhile_cons, h]; rfl

theorem Lp.grownB {w w' : World} (hb : Below w.heap.size w w') : w.grownBy w' none := ⟨hb.os, hb.tape, hb.output, hb.size, fun k hk _ => hb.block k hk⟩
theorem ixany_asc (r : ByteArray) (w : World) (hs : r.size ≤ 4294967280) (ha : Asc r) :
    Calls Tryz.prog 104 #[.string r, .string ⟨#[32, 9]⟩] w fun e w' => e = .returned (.int .i64 (Lib.indexAny r.data.toList [32, 9])) ∧ Below w.heap.size w w' :=
  Tryz.strings_IndexAny zeroSet r ⟨#[32, 9]⟩ w (by omega) (by decide) (fun j b h => ha b (List.mem_of_getElem? h)) (by
    intro j b h
    match j, h with
    | 0, h => simp at h; subst h; decide
    | 1, h => simp at h; subst h; decide)
theorem Lp.asc_sub {x y : ByteArray} (h : Asc x) (hs : ∀ b ∈ y.data.toList, b ∈ x.data.toList) : Asc y := fun b hb => h b (hs b hb)

set_option maxRecDepth 100000 in
set_option maxHeartbeats 2000000 in
/-- The iterator, for every body of a loop. -/
theorem fields1_in (n : Nat) (hn : 1 ≤ n) (l Bn n₀ B0 : Nat) (x : ByteArray) (hxs : x.size ≤ 4294967280) (hxa : Asc x) (J Jx : List FS → World → Prop) (hJ : AbidesFrom B0 J)
    (hY : ∀ pre y W, J pre W → pre.length < (flds x.data.toList).length → YieldAt Fence.wide (n - 1) Tryz.prog l #[.string y.1] W fun e W' =>
      (e = .returned (.bool true) ∧ J (pre ++ [y]) W' ∧ Below n₀ W W') ∨ (e = .returned (.bool false) ∧ Jx (pre ++ [y]) W'))
    (W : World) (hBn : W.cell? ⟨Bn, 0, none⟩ = some (.string x)) (h0 : J [] W) :
    CallsIn Fence.wide n Tryz.prog 102 #[.func (.yield l) #[] #[], .pointer (some ⟨Bn, 0, none⟩)] W fun e W' => (∃ v, e = .returned v) ∧
      ((∃ ys, vals ys = flds x.data.toList ∧ J ys W') ∨ (∃ pre, vals pre <+: flds x.data.toList ∧ Jx pre W')) := by
  refine callsIn_of_wp Tryz.func102 rfl trivial ?_ rfl
  simp only [Tryz.ntmps102, List.size_toArray, List.length_cons, List.length_nil, Nat.reduceAdd, Nat.reduceSub, Array.replicate_succ, Array.replicate_zero, List.push_toArray, List.append_toArray, List.nil_append, List.cons_append]
  gi_wp2_with fail
  refine ⟨trivial, (callsIn_wide.2 (trimleft_any x W)).mono ?_⟩
  rintro e w1 ⟨rfl, hb1⟩
  obtain ⟨r0, hr0⟩ : ∃ r : ByteArray, (⟨(trL x.data.toList).toArray⟩ : ByteArray) = r := ⟨_, rfl⟩
  have hd0 : r0.data.toList = trL x.data.toList := by rw [← hr0]
  have hJ1 := Lib.hid (hJ [] W w1 none h0 (grownB hb1) (fun r e => by cases e))
  have A0 : Hid (Asc r0) := Lib.hid (asc_sub hxa (fun b hb => by rw [hd0] at hb; exact (List.dropWhile_sublist _).subset hb))
  have S0 : r0.size ≤ 4294967280 := by
    have := dw_len isB x.data.toList
    have e1 : r0.data.toList.length = r0.size := Array.length_toList
    have e2 : x.data.toList.length = x.size := Array.length_toList
    rw [hd0] at e1
    unfold trL at e1
    omega
  have F0 : Hid (flds x.data.toList = vals [] ++ fldW r0.data.toList) := Lib.hid (by rw [hd0]; rfl)
  rw [hr0]
  clear hr0 hd0 hb1 h0 hBn
  gi_wp2_with fail
  gi_loopw [3] (fun sv wr => ∃ (pre : List FS) (r : ByteArray), sv = .string r ∧ r.size ≤ 4294967280 ∧ Hid (Asc r) ∧ Hid (flds x.data.toList = vals pre ++ fldW r.data.toList) ∧ Hid (J pre wr)) (fun sv _ => strSize sv)
  case atStart => exact ⟨[], r0, rfl, S0, A0, F0, hJ1⟩
  case round =>
    clear A0 F0 hJ1 S0
    obtain ⟨pre, r, rfl, hrs, HA, HF, HJ⟩ := hrel
    have hlen : r.data.toList.length = r.size := Array.length_toList
    cases hd : r.data.toList with
    | nil =>
      have e0 : r.toList = [] := by rw [Lib.toList_data, hd]
      have HV : Hid (vals pre = flds x.data.toList) := Lib.hid (by rw [HF.out, hd]; simp [fldW])
      gi_wp2_with fail
      go_end0
      exact ⟨⟨_, rfl⟩, .inl ⟨pre, HV.out, HJ.out⟩⟩
    | cons c t =>
      have hne : r.toList.isEmpty = false := by rw [Lib.toList_data, hd]; rfl
      have hne2 : ¬ r.toList = [] := by rw [Lib.toList_data, hd]; simp
      have hpos : 0 < r.size := by rw [← hlen, hd]; simp
      have HD := Lib.hid hd
      have hpl : pre.length < (flds x.data.toList).length := by
        rw [HF.out, hd, List.length_append]
        have : (vals pre).length = pre.length := by simp [vals]
        rw [this]; simp [fldW]
      rcases tw_ix r.data.toList with ⟨ix, hfd, hfw⟩ | ⟨i, ix, hi, hfw, hfd⟩
      · obtain ⟨y, hy0⟩ : ∃ y : ByteArray, r.extract 0 r.size = y := ⟨_, rfl⟩
        obtain ⟨q, hq0⟩ : ∃ q : ByteArray, ByteArray.empty = q := ⟨_, rfl⟩
        have hyd : y.data.toList = fw r.data.toList := by rw [hfw, ← hy0, ByteArray.extract_zero_size]
        have hqd : q.data.toList = fd r.data.toList := by rw [hfd, ← hq0]; rfl
        have IX := Lib.hid ix
        clear ix hfw hfd hd
        gi_wp2_with fail
        refine ⟨trivial, (callsIn_wide.2 (ixany_asc r wr hrs HA.out)).mono ?_⟩
        rintro e w2 ⟨rfl, hb2⟩
        rw [IX.out]
        have J2 := hJ pre wr w2 none HJ.out (grownB hb2) (fun r e => by cases e)
        have ys : y.size ≤ 4294967280 := by rw [← hy0, ByteArray.size_extract]; omega
        obtain ⟨fn, tmps, assign, body, hy, hR⟩ := hY pre ⟨y, ys⟩ w2 J2 hpl
        dsimp only at hy
        have HQ := Lib.hid hqd
        have HYD := Lib.hid hyd
        have hlt : (trL q.data.toList).length < r.size := by
          rw [hqd, HD.out]
          have := fd_less c t
          have e1 : (c :: t).length = r.size := by rw [← HD.out]; exact hlen
          omega
        have AQ : Hid (Asc q) := Lib.hid (asc_sub HA.out (fun b hb => by rw [hqd] at hb; exact (List.dropWhile_sublist _).subset hb))
        have HF2 : Hid (flds x.data.toList = vals (pre ++ [⟨y, ys⟩]) ++ fldW (trL q.data.toList)) := Lib.hid (by
          rw [HF.out, vals_snoc, hyd, hqd, HD.out, List.append_assoc]; rw [fldW]; rfl)
        clear hyd hqd hb2
        gi_wp2_with fail
        refine hR.mono ?_
        rintro e W3 (⟨rfl, hJ3, hk3⟩ | ⟨rfl, hJx3⟩)
        · clear hy0 hy
          gi_wp2_with fail
          refine ⟨trivial, (callsIn_wide.2 (trimleft_any q W3)).mono ?_⟩
          rintro e w4 ⟨rfl, hb4⟩
          obtain ⟨r', hr'⟩ : ∃ r : ByteArray, (⟨(trL q.data.toList).toArray⟩ : ByteArray) = r := ⟨_, rfl⟩
          have hd' : r'.data.toList = trL q.data.toList := by rw [← hr']
          have hs' : r'.size < r.size := by
            have e1 : r'.data.toList.length = r'.size := Array.length_toList
            rw [hd'] at e1; omega
          have J4 := Lib.hid (hJ (pre ++ [⟨y, ys⟩]) W3 w4 none hJ3 (grownB hb4) (fun r e => by cases e))
          have A4 : Hid (Asc r') := Lib.hid (asc_sub AQ.out (fun b hb => by rw [hd'] at hb; exact (List.dropWhile_sublist _).subset hb))
          have F4 : Hid (flds x.data.toList = vals (pre ++ [⟨y, ys⟩]) ++ fldW r'.data.toList) := Lib.hid (by rw [hd']; exact HF2.out)
          rw [hr']
          clear hr' hd' hb4
          gi_wp2_with fail
          go_roundw
          case rel => exact ⟨pre ++ [⟨y, ys⟩], r', rfl, by omega, A4, F4, J4⟩
          case measure => simpa [strSize] using hs'
        · gi_wp2_with fail
          refine bodyPost_ret (results_none rfl _ _ _) rfl ?_
          exact ⟨⟨_, rfl⟩, .inr ⟨pre ++ [⟨y, ys⟩], ⟨_, HF2.out.symm⟩, hJx3⟩⟩
      · have hir : i < r.size := by omega
        have hii : ¬ (i : Int) < 0 := by omega
        have hid : decide ((i : Int) < 0) = false := decide_eq_false hii
        obtain ⟨y, hy0⟩ : ∃ y : ByteArray, r.extract 0 i = y := ⟨_, rfl⟩
        obtain ⟨q, hq0⟩ : ∃ q : ByteArray, r.extract i r.size = q := ⟨_, rfl⟩
        have hyd : y.data.toList = fw r.data.toList := by rw [hfw, ← hy0]; simp [ByteArray.data_extract, List.extract_eq_take_drop]
        have hqd : q.data.toList = fd r.data.toList := by
          rw [hfd, ← hq0]; simp [ByteArray.data_extract, List.extract_eq_take_drop]
          rw [List.take_of_length_le (by rw [List.length_drop, hlen]; exact Nat.le_refl _)]
        have IX := Lib.hid ix
        have hile : i ≤ r.size := by omega
        clear ix hfw hfd hd
        gi_wp2_with fail
        refine ⟨trivial, (callsIn_wide.2 (ixany_asc r wr hrs HA.out)).mono ?_⟩
        rintro e w2 ⟨rfl, hb2⟩
        rw [IX.out]
        have J2 := hJ pre wr w2 none HJ.out (grownB hb2) (fun r e => by cases e)
        have ys : y.size ≤ 4294967280 := by rw [← hy0, ByteArray.size_extract]; omega
        obtain ⟨fn, tmps, assign, body, hy, hR⟩ := hY pre ⟨y, ys⟩ w2 J2 hpl
        dsimp only at hy
        have HQ := Lib.hid hqd
        have HYD := Lib.hid hyd
        have hlt : (trL q.data.toList).length < r.size := by
          rw [hqd, HD.out]
          have := fd_less c t
          have e1 : (c :: t).length = r.size := by rw [← HD.out]; exact hlen
          omega
        have AQ : Hid (Asc q) := Lib.hid (asc_sub HA.out (fun b hb => by rw [hqd] at hb; exact (List.dropWhile_sublist _).subset hb))
        have HF2 : Hid (flds x.data.toList = vals (pre ++ [⟨y, ys⟩]) ++ fldW (trL q.data.toList)) := Lib.hid (by
          rw [HF.out, vals_snoc, hyd, hqd, HD.out, List.append_assoc]; rw [fldW]; rfl)
        clear hyd hqd hb2
        gi_wp2_with fail
        refine hR.mono ?_
        rintro e W3 (⟨rfl, hJ3, hk3⟩ | ⟨rfl, hJx3⟩)
        · clear hy0 hy
          gi_wp2_with fail
          refine ⟨trivial, (callsIn_wide.2 (trimleft_any q W3)).mono ?_⟩
          rintro e w4 ⟨rfl, hb4⟩
          obtain ⟨r', hr'⟩ : ∃ r : ByteArray, (⟨(trL q.data.toList).toArray⟩ : ByteArray) = r := ⟨_, rfl⟩
          have hd' : r'.data.toList = trL q.data.toList := by rw [← hr']
          have hs' : r'.size < r.size := by
            have e1 : r'.data.toList.length = r'.size := Array.length_toList
            rw [hd'] at e1; omega
          have J4 := Lib.hid (hJ (pre ++ [⟨y, ys⟩]) W3 w4 none hJ3 (grownB hb4) (fun r e => by cases e))
          have A4 : Hid (Asc r') := Lib.hid (asc_sub AQ.out (fun b hb => by rw [hd'] at hb; exact (List.dropWhile_sublist _).subset hb))
          have F4 : Hid (flds x.data.toList = vals (pre ++ [⟨y, ys⟩]) ++ fldW r'.data.toList) := Lib.hid (by rw [hd']; exact HF2.out)
          rw [hr']
          clear hr' hd' hb4
          gi_wp2_with fail
          go_roundw
          case rel => exact ⟨pre ++ [⟨y, ys⟩], r', rfl, by omega, A4, F4, J4⟩
          case measure => simpa [strSize] using hs'
        · gi_wp2_with fail
          refine bodyPost_ret (results_none rfl _ _ _) rfl ?_
          exact ⟨⟨_, rfl⟩, .inr ⟨pre ++ [⟨y, ys⟩], ⟨_, HF2.out.symm⟩, hJx3⟩⟩
end Go.Proofs.YtegpajdahanhfaaGreatDoor
