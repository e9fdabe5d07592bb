/- Contracts of layer 5: the program's Text. -/
import Derived.Test.YtnhaflnlhcabpaaDoorCivL
import Derived.Deep.RegionHeld3
namespace Go.Proofs.YtnhaflnlhcabpaaDoor
open Go.RowKit Fx Cv Pt

/-- The table of the powers of ten. -/
def Cv.Tab (w : World) : Prop := Lib.TabIs Tryd.prog w "internal/strconv.uint64pow10" .u64 Lib.pow10Tab
theorem Cv.Tab.below {w w' : World} (h : Tab w) (hb : Below w.heap.size w w') : Tab w' := var_keep h hb
theorem Cv.below_grow (w : World) (k : Nat) (os : Array Obj) : Below w.heap.size w (Go.Sort.grow (w.drewN k) os) := by
  refine ⟨rfl, rfl, rfl, ?_, fun i hi => ?_⟩
  · show w.heap.size ≤ (w.heap ++ os).size
    rw [Array.size_append]; omega
  · show (w.heap ++ os)[i]? = w.heap[i]?
    rw [Array.getElem?_append_left hi]
theorem citoa_any (n : Nat) (w : World) (h1 : n ≤ 9223372036854775807) (ht : Tab w) :
    Calls Tryd.prog 53 #[.int .i64 n] w fun e w' => e = .returned (.string ⟨(Lib.decDigits n).toArray⟩) ∧ Below w.heap.size w w' := by
  refine (Tryd.strconv_Itoa n (by omega) (by omega) w ht).mono ?_
  rintro e w' ⟨rfl, k, os, rfl⟩
  refine ⟨ret_s ?_, below_grow w k os⟩
  unfold Lib.itoa
  rw [if_neg (by omega), Int.toNat_natCast]

set_option maxRecDepth 100000 in
theorem padded_any (n k : Nat) (v : ByteArray) (w : World) (hv : (⟨(low n k).toArray⟩ : ByteArray) = v) (ht : Tab w) (hn : n < 10 ^ k) (k1 : 1 ≤ k) (k2 : k ≤ 9) :
    Calls Tryd.prog 45 #[.int .i64 n, .int .i64 k] w fun e w' => e = .returned (.string v) ∧ Below w.heap.size w w' := by
  have hp := low_dec k n k1 hn
  have hl := dec_le k n k1 hn
  have hn9 : n < 1000000000 := Nat.lt_of_lt_of_le hn (Nat.le_trans (Nat.pow_le_pow_right (by decide) k2) (by decide))
  obtain ⟨L, hL⟩ : ∃ L, Lib.decDigits n = L := ⟨_, rfl⟩
  rw [hL] at hp hl
  obtain ⟨m, hm⟩ : ∃ m, L.length = m := ⟨_, rfl⟩
  rw [hm] at hp hl
  obtain ⟨c, hc⟩ : ∃ c : Nat, k - m = c := ⟨_, rfl⟩
  rw [hc, ← repeat_48] at hp
  obtain ⟨x, hx⟩ : ∃ x : ByteArray, (⟨L.toArray⟩ : ByteArray) = x := ⟨_, rfl⟩
  obtain ⟨q, hq⟩ : ∃ q : ByteArray, (⟨(Lib.repeatL [48] c).toArray⟩ : ByteArray) = q := ⟨_, rfl⟩
  have hxs : x.size = m := by rw [← hx, ← hm]; simp [ByteArray.size]
  have hqs : q.size = c := by rw [← hq]; simp [ByteArray.size, Lib.repeatL_length]
  have HF : Hid (q ++ x = v) := Lib.hid (by rw [← hq, ← hx, ← hv, hp, mkap])
  have hc' : (k : Int) - m = c := by omega
  have HL := Lib.hid hL
  have HX := Lib.hid hx
  have HQ := Lib.hid hq
  have HT := Lib.hid ht
  clear hp hL hx hq hm hv ht hn
  go_enter Tryd.func45, Tryd.ntmps45
  go_wp2_with fail
  refine (citoa_any n w (by omega) HT.out).mono ?_
  rintro e w1 ⟨rfl, hb⟩
  rw [HL.out, HX.out]
  have B1 := Lib.hid hb
  clear hb
  go_wp2_with fail
  refine (Tryd.strings_Repeat ⟨#[48]⟩ c _ (by omega) (by show 1 * c ≤ _; omega)).mono ?_
  rintro e w2 ⟨rfl, hb⟩
  rw [show (Lib.repeatL (⟨#[48]⟩ : ByteArray).data.toList c) = Lib.repeatL [48] c from rfl, HQ.out]
  have B2 := Lib.hid (B1.out.trans (hb.mono B1.out.size))
  clear hb
  go_wp2_with fail
  go_ret
  exact ⟨ret_s HF.out, B2.out⟩

set_option maxRecDepth 100000 in
theorem ctext_no (y m d hh mi s n : Int) (w : World) (ht : MT w) (h : okC y m d hh mi s n = false) :
    Calls Tryd.prog 26 #[.agg #[.int .i64 y, .int .i64 m, .int .i64 d, .int .i64 hh, .int .i64 mi, .int .i64 s, .int .i64 n]] w fun e w' => e = .returned (.string (txtC y m d hh mi s n)) ∧ Below w.heap.size w w' := by
  have HK := Lib.hid (show chkC y m d hh mi s n = 3 by unfold chkC; rw [h]; rfl)
  have HT := Lib.hid (show txtC y m d hh mi s n = ⟨#[]⟩ by unfold txtC; rw [h]; rfl)
  clear h
  have B1 := Lib.hid ((Below.refl w.heap.size w).alloc (Nat.le_refl _) (.cells #[.int .i64 y, .int .i64 m, .int .i64 d, .int .i64 hh, .int .i64 mi, .int .i64 s, .int .i64 n] 23))
  have HM := Lib.hid (ht.below B1.out)
  rw [HT.out]
  clear ht
  go_enter Tryd.func26, Tryd.ntmps26
  go_wp2_with fail
  refine (pchk_any y m d hh mi s n _ HM.out).mono ?_
  rintro e w2 ⟨rfl, hb⟩
  rw [HK.out]
  have B2 := Lib.hid (B1.out.trans (hb.mono (by simp)))
  clear hb
  go_wp2_with fail
  go_ret
  exact ⟨rfl, B2.out⟩

set_option maxRecDepth 100000 in
set_option maxHeartbeats 1000000 in
theorem ctext_ok (Y M D H I S N : Nat) (w : World) (ht : MT w) (hp : Tab w) (h : okC Y M D H I S N = true) :
    Calls Tryd.prog 26 #[.agg #[.int .i64 (Y : Nat), .int .i64 (M : Nat), .int .i64 (D : Nat), .int .i64 (H : Nat), .int .i64 (I : Nat), .int .i64 (S : Nat), .int .i64 (N : Nat)]] w fun e w' => e = .returned (.string (txtC Y M D H I S N)) ∧ Below w.heap.size w w' := by
  have HK := Lib.hid (chk_ok h)
  have hT : txtC Y M D H I S N = ⟨(ctx Y M D H I S N).toArray⟩ := by unfold txtC; rw [if_pos h]; simp only [Int.toNat_natCast]
  obtain ⟨y0, y1, m0, m1, d0, d1, h0, h1, i0, i1, s0, s1, n0, n1⟩ := okC_iff.1 h
  have hmd := (md_bound (y := Y) m0 m1).2
  have hD : D ≤ 31 := by omega
  clear h hmd d1 y0 m0 d0 h0 i0 s0 n0
  obtain ⟨b0, hb0⟩ : ∃ b : ByteArray, (⟨(low Y 4).toArray⟩ : ByteArray) = b := ⟨_, rfl⟩
  have sb0 : b0.size = 4 := by rw [← hb0]; simp [ByteArray.size, low_len]
  obtain ⟨b1, hb1⟩ : ∃ b : ByteArray, (⟨(low M 2).toArray⟩ : ByteArray) = b := ⟨_, rfl⟩
  have sb1 : b1.size = 2 := by rw [← hb1]; simp [ByteArray.size, low_len]
  obtain ⟨b2, hb2⟩ : ∃ b : ByteArray, (⟨(low D 2).toArray⟩ : ByteArray) = b := ⟨_, rfl⟩
  have sb2 : b2.size = 2 := by rw [← hb2]; simp [ByteArray.size, low_len]
  obtain ⟨b3, hb3⟩ : ∃ b : ByteArray, (⟨(low H 2).toArray⟩ : ByteArray) = b := ⟨_, rfl⟩
  have sb3 : b3.size = 2 := by rw [← hb3]; simp [ByteArray.size, low_len]
  obtain ⟨b4, hb4⟩ : ∃ b : ByteArray, (⟨(low I 2).toArray⟩ : ByteArray) = b := ⟨_, rfl⟩
  have sb4 : b4.size = 2 := by rw [← hb4]; simp [ByteArray.size, low_len]
  obtain ⟨b5, hb5⟩ : ∃ b : ByteArray, (⟨(low S 2).toArray⟩ : ByteArray) = b := ⟨_, rfl⟩
  have sb5 : b5.size = 2 := by rw [← hb5]; simp [ByteArray.size, low_len]
  obtain ⟨b6, hb6⟩ : ∃ b : ByteArray, (⟨(low N 9).toArray⟩ : ByteArray) = b := ⟨_, rfl⟩
  have sb6 : b6.size = 9 := by rw [← hb6]; simp [ByteArray.size, low_len]
  obtain ⟨a1, ha1⟩ : ∃ a : ByteArray, b0 ++ ⟨#[45]⟩ = a := ⟨_, rfl⟩
  have sa1 : a1.size = 5 := by rw [← ha1, ByteArray.size_append, sb0]; rfl
  have add1 : ∀ w : World, (Op.stringOp .add b0 ⟨#[45]⟩).run Tryd.prog w = .ok (.string a1) w := fun w => by
    rw [run_string_add_sum (w := w) b0 ⟨#[45]⟩ (by show b0.size + 1 ≤ _; omega), ha1]
  obtain ⟨a2, ha2⟩ : ∃ a : ByteArray, a1 ++ b1 = a := ⟨_, rfl⟩
  have sa2 : a2.size = 7 := by rw [← ha2, ByteArray.size_append, sa1, sb1]
  have add2 : ∀ w : World, (Op.stringOp .add a1 b1).run Tryd.prog w = .ok (.string a2) w := fun w => by
    rw [run_string_add_sum (w := w) a1 b1 (by omega), ha2]
  obtain ⟨a3, ha3⟩ : ∃ a : ByteArray, a2 ++ ⟨#[45]⟩ = a := ⟨_, rfl⟩
  have sa3 : a3.size = 8 := by rw [← ha3, ByteArray.size_append, sa2]; rfl
  have add3 : ∀ w : World, (Op.stringOp .add a2 ⟨#[45]⟩).run Tryd.prog w = .ok (.string a3) w := fun w => by
    rw [run_string_add_sum (w := w) a2 ⟨#[45]⟩ (by show a2.size + 1 ≤ _; omega), ha3]
  obtain ⟨a4, ha4⟩ : ∃ a : ByteArray, a3 ++ b2 = a := ⟨_, rfl⟩
  have sa4 : a4.size = 10 := by rw [← ha4, ByteArray.size_append, sa3, sb2]
  have add4 : ∀ w : World, (Op.stringOp .add a3 b2).run Tryd.prog w = .ok (.string a4) w := fun w => by
    rw [run_string_add_sum (w := w) a3 b2 (by omega), ha4]
  obtain ⟨a5, ha5⟩ : ∃ a : ByteArray, b3 ++ ⟨#[58]⟩ = a := ⟨_, rfl⟩
  have sa5 : a5.size = 3 := by rw [← ha5, ByteArray.size_append, sb3]; rfl
  have add5 : ∀ w : World, (Op.stringOp .add b3 ⟨#[58]⟩).run Tryd.prog w = .ok (.string a5) w := fun w => by
    rw [run_string_add_sum (w := w) b3 ⟨#[58]⟩ (by show b3.size + 1 ≤ _; omega), ha5]
  obtain ⟨a6, ha6⟩ : ∃ a : ByteArray, a5 ++ b4 = a := ⟨_, rfl⟩
  have sa6 : a6.size = 5 := by rw [← ha6, ByteArray.size_append, sa5, sb4]
  have add6 : ∀ w : World, (Op.stringOp .add a5 b4).run Tryd.prog w = .ok (.string a6) w := fun w => by
    rw [run_string_add_sum (w := w) a5 b4 (by omega), ha6]
  obtain ⟨a7, ha7⟩ : ∃ a : ByteArray, a6 ++ ⟨#[58]⟩ = a := ⟨_, rfl⟩
  have sa7 : a7.size = 6 := by rw [← ha7, ByteArray.size_append, sa6]; rfl
  have add7 : ∀ w : World, (Op.stringOp .add a6 ⟨#[58]⟩).run Tryd.prog w = .ok (.string a7) w := fun w => by
    rw [run_string_add_sum (w := w) a6 ⟨#[58]⟩ (by show a6.size + 1 ≤ _; omega), ha7]
  obtain ⟨a8, ha8⟩ : ∃ a : ByteArray, a7 ++ b5 = a := ⟨_, rfl⟩
  have sa8 : a8.size = 8 := by rw [← ha8, ByteArray.size_append, sa7, sb5]
  have add8 : ∀ w : World, (Op.stringOp .add a7 b5).run Tryd.prog w = .ok (.string a8) w := fun w => by
    rw [run_string_add_sum (w := w) a7 b5 (by omega), ha8]
  obtain ⟨a9, ha9⟩ : ∃ a : ByteArray, a4 ++ ⟨#[84]⟩ = a := ⟨_, rfl⟩
  have sa9 : a9.size = 11 := by rw [← ha9, ByteArray.size_append, sa4]; rfl
  have add9 : ∀ w : World, (Op.stringOp .add a4 ⟨#[84]⟩).run Tryd.prog w = .ok (.string a9) w := fun w => by
    rw [run_string_add_sum (w := w) a4 ⟨#[84]⟩ (by show a4.size + 1 ≤ _; omega), ha9]
  obtain ⟨a10, ha10⟩ : ∃ a : ByteArray, a9 ++ a8 = a := ⟨_, rfl⟩
  have sa10 : a10.size = 19 := by rw [← ha10, ByteArray.size_append, sa9, sa8]
  have add10 : ∀ w : World, (Op.stringOp .add a9 a8).run Tryd.prog w = .ok (.string a10) w := fun w => by
    rw [run_string_add_sum (w := w) a9 a8 (by omega), ha10]
  obtain ⟨a11, ha11⟩ : ∃ a : ByteArray, a10 ++ ⟨#[46]⟩ = a := ⟨_, rfl⟩
  have sa11 : a11.size = 20 := by rw [← ha11, ByteArray.size_append, sa10]; rfl
  have add11 : ∀ w : World, (Op.stringOp .add a10 ⟨#[46]⟩).run Tryd.prog w = .ok (.string a11) w := fun w => by
    rw [run_string_add_sum (w := w) a10 ⟨#[46]⟩ (by show a10.size + 1 ≤ _; omega), ha11]
  obtain ⟨a12, ha12⟩ : ∃ a : ByteArray, a11 ++ b6 = a := ⟨_, rfl⟩
  have sa12 : a12.size = 29 := by rw [← ha12, ByteArray.size_append, sa11, sb6]
  have add12 : ∀ w : World, (Op.stringOp .add a11 b6).run Tryd.prog w = .ok (.string a12) w := fun w => by
    rw [run_string_add_sum (w := w) a11 b6 (by omega), ha12]
  obtain ⟨a13, ha13⟩ : ∃ a : ByteArray, a12 ++ ⟨#[90]⟩ = a := ⟨_, rfl⟩
  have sa13 : a13.size = 30 := by rw [← ha13, ByteArray.size_append, sa12]; rfl
  have add13 : ∀ w : World, (Op.stringOp .add a12 ⟨#[90]⟩).run Tryd.prog w = .ok (.string a13) w := fun w => by
    rw [run_string_add_sum (w := w) a12 ⟨#[90]⟩ (by show a12.size + 1 ≤ _; omega), ha13]
  have HF : Hid (txtC Y M D H I S N = a13) := Lib.hid (by
    rw [hT, ← ha13, ← ha12, ← ha11, ← ha10, ← ha9, ← ha8, ← ha7, ← ha6, ← ha5, ← ha4, ← ha3, ← ha2, ← ha1, ← hb0, ← hb1, ← hb2, ← hb3, ← hb4, ← hb5, ← hb6]
    simp only [mkap, ctx, List.append_assoc])
  have HB0 := Lib.hid hb0
  have HB1 := Lib.hid hb1
  have HB2 := Lib.hid hb2
  have HB3 := Lib.hid hb3
  have HB4 := Lib.hid hb4
  have HB5 := Lib.hid hb5
  have HB6 := Lib.hid hb6
  clear hb0 sb0 hb1 sb1 hb2 sb2 hb3 sb3 hb4 sb4 hb5 sb5 hb6 sb6 ha1 sa1 ha2 sa2 ha3 sa3 ha4 sa4 ha5 sa5 ha6 sa6 ha7 sa7 ha8 sa8 ha9 sa9 ha10 sa10 ha11 sa11 ha12 sa12 ha13 sa13 hT
  have B1 := Lib.hid ((Below.refl w.heap.size w).alloc (Nat.le_refl _) (.cells #[.int .i64 (Y : Nat), .int .i64 (M : Nat), .int .i64 (D : Nat), .int .i64 (H : Nat), .int .i64 (I : Nat), .int .i64 (S : Nat), .int .i64 (N : Nat)] 23))
  have X1 := Lib.hid (bx7_new w Y M D H I S N)
  obtain ⟨W1, hW1⟩ : ∃ W, w.alloc (.cells #[.int .i64 (Y : Nat), .int .i64 (M : Nat), .int .i64 (D : Nat), .int .i64 (H : Nat), .int .i64 (I : Nat), .int .i64 (S : Nat), .int .i64 (N : Nat)] 23) = W := ⟨_, rfl⟩
  have z1 := sz_alloc w (.cells #[.int .i64 (Y : Nat), .int .i64 (M : Nat), .int .i64 (D : Nat), .int .i64 (H : Nat), .int .i64 (I : Nat), .int .i64 (S : Nat), .int .i64 (N : Nat)] 23)
  rw [hW1] at B1 X1 z1
  have HW1 := Lib.hid hW1
  have T1 := Lib.hid (ht.below B1.out)
  have P1 := Lib.hid (hp.below B1.out)
  clear hW1 ht hp
  go_enter Tryd.func26, Tryd.ntmps26
  go_wp2_with fail
  rw [HW1.out]
  refine (pchk_any Y M D H I S N _ T1.out).mono ?_
  rintro e w2 ⟨rfl, hb⟩
  rw [HK.out]
  have B2 := Lib.hid (B1.out.trans (hb.mono (by omega)))
  have X2 := Lib.hid (X1.out.below hb (by omega))
  have P2 := Lib.hid (P1.out.below hb)
  have z2 := hb.size
  obtain ⟨c0, c1, c2, c3, c4, c5, c6⟩ := X2.out.cells
  clear hb B1 X1 T1 P1
  go_wp2_with fail
  go_region_held3 (fun w' => w'.cell? ⟨w.heap.size, 0, none⟩ = some (.int .i64 (Y : Nat)) ∧ w'.cell? ⟨w.heap.size, 1, none⟩ = some (.int .i64 (M : Nat)) ∧ w'.cell? ⟨w.heap.size, 2, none⟩ = some (.int .i64 (D : Nat)) ∧ w'.cell? ⟨w.heap.size, 3, none⟩ = some (.int .i64 (H : Nat)) ∧ w'.cell? ⟨w.heap.size, 4, none⟩ = some (.int .i64 (I : Nat)) ∧ w'.cell? ⟨w.heap.size, 5, none⟩ = some (.int .i64 (S : Nat)) ∧ w'.cell? ⟨w.heap.size, 6, none⟩ = some (.int .i64 (N : Nat))) (go_keep)
    (first
      | (go_at_call_of 45 (Value.int .i64 (Y : Nat)); refine (padded_any Y 4 b0 _ HB0.out ?_ (by omega) (by decide) (by decide)).mono ?_; exact P2.out; rintro e w3 ⟨rfl, hw⟩; have hw' : Below w2.heap.size w2 w3 := ⟨hw.os, hw.tape, hw.output, hw.size, hw.block⟩; have X3 := Lib.hid (X2.out.below hw' (by omega)); have B3 := Lib.hid (B2.out.trans (hw'.mono (by omega))); have P3 := Lib.hid (P2.out.below hw'); have z3 := hw'.size; obtain ⟨c30, c31, c32, c33, c34, c35, c36⟩ := X3.out.cells; clear hw hw' B2 P2)
      | (go_at_call_of 45 (Value.int .i64 (M : Nat)); refine (padded_any M 2 b1 _ HB1.out ?_ (by omega) (by decide) (by decide)).mono ?_; exact P3.out; rintro e w4 ⟨rfl, hw⟩; have hw' := hw; have X4 := Lib.hid (X3.out.below hw' (by omega)); have B4 := Lib.hid (B3.out.trans (hw'.mono (by omega))); have P4 := Lib.hid (P3.out.below hw'); have z4 := hw'.size; obtain ⟨c40, c41, c42, c43, c44, c45, c46⟩ := X4.out.cells; clear hw hw' B3 P3)
      | (go_at_call_of 45 (Value.int .i64 (D : Nat)); refine (padded_any D 2 b2 _ HB2.out ?_ (by omega) (by decide) (by decide)).mono ?_; exact P4.out; rintro e w5 ⟨rfl, hw⟩; have hw' := hw; have X5 := Lib.hid (X4.out.below hw' (by omega)); have B5 := Lib.hid (B4.out.trans (hw'.mono (by omega))); have P5 := Lib.hid (P4.out.below hw'); have z5 := hw'.size; obtain ⟨c50, c51, c52, c53, c54, c55, c56⟩ := X5.out.cells; clear hw hw' B4 P4))
  go_wp2_with fail
  go_region_held3 (fun w' => w'.cell? ⟨w.heap.size, 0, none⟩ = some (.int .i64 (Y : Nat)) ∧ w'.cell? ⟨w.heap.size, 1, none⟩ = some (.int .i64 (M : Nat)) ∧ w'.cell? ⟨w.heap.size, 2, none⟩ = some (.int .i64 (D : Nat)) ∧ w'.cell? ⟨w.heap.size, 3, none⟩ = some (.int .i64 (H : Nat)) ∧ w'.cell? ⟨w.heap.size, 4, none⟩ = some (.int .i64 (I : Nat)) ∧ w'.cell? ⟨w.heap.size, 5, none⟩ = some (.int .i64 (S : Nat)) ∧ w'.cell? ⟨w.heap.size, 6, none⟩ = some (.int .i64 (N : Nat))) (go_keep)
    (first
      | (go_at_call_of 45 (Value.int .i64 (H : Nat)); refine (padded_any H 2 b3 _ HB3.out ?_ (by omega) (by decide) (by decide)).mono ?_; exact P5.out; rintro e w6 ⟨rfl, hw⟩; have hw' : Below w5.heap.size w5 w6 := ⟨hw.os, hw.tape, hw.output, hw.size, hw.block⟩; have X6 := Lib.hid (X5.out.below hw' (by omega)); have B6 := Lib.hid (B5.out.trans (hw'.mono (by omega))); have P6 := Lib.hid (P5.out.below hw'); have z6 := hw'.size; obtain ⟨c60, c61, c62, c63, c64, c65, c66⟩ := X6.out.cells; clear hw hw' B5 P5)
      | (go_at_call_of 45 (Value.int .i64 (I : Nat)); refine (padded_any I 2 b4 _ HB4.out ?_ (by omega) (by decide) (by decide)).mono ?_; exact P6.out; rintro e w7 ⟨rfl, hw⟩; have hw' := hw; have X7 := Lib.hid (X6.out.below hw' (by omega)); have B7 := Lib.hid (B6.out.trans (hw'.mono (by omega))); have P7 := Lib.hid (P6.out.below hw'); have z7 := hw'.size; obtain ⟨c70, c71, c72, c73, c74, c75, c76⟩ := X7.out.cells; clear hw hw' B6 P6)
      | (go_at_call_of 45 (Value.int .i64 (S : Nat)); refine (padded_any S 2 b5 _ HB5.out ?_ (by omega) (by decide) (by decide)).mono ?_; exact P7.out; rintro e w8 ⟨rfl, hw⟩; have hw' := hw; have X8 := Lib.hid (X7.out.below hw' (by omega)); have B8 := Lib.hid (B7.out.trans (hw'.mono (by omega))); have P8 := Lib.hid (P7.out.below hw'); have z8 := hw'.size; obtain ⟨c80, c81, c82, c83, c84, c85, c86⟩ := X8.out.cells; clear hw hw' B7 P7))
  go_wp2_with fail
  refine (padded_any N 9 b6 _ HB6.out ?_ (by omega) (by decide) (by decide)).mono ?_
  · exact P8.out
  rintro e w9 ⟨rfl, hw⟩
  have B9 := Lib.hid (B8.out.trans (hw.mono B8.out.size))
  clear hw
  go_wp2_with fail
  go_ret
  exact ⟨ret_s HF.out.symm, B9.out⟩
theorem ctext_any (y m d hh mi s n : Int) (w : World) (ht : MT w) (hp : Tab w) :
    Calls Tryd.prog 26 #[.agg #[.int .i64 y, .int .i64 m, .int .i64 d, .int .i64 hh, .int .i64 mi, .int .i64 s, .int .i64 n]] w fun e w' => e = .returned (.string (txtC y m d hh mi s n)) ∧ Below w.heap.size w w' := by
  cases h : okC y m d hh mi s n
  · exact ctext_no y m d hh mi s n w ht h
  · obtain ⟨y0, _, m0, _, d0, _, h0, _, i0, _, s0, _, n0, _⟩ := okC_iff.1 h
    obtain ⟨Y, rfl⟩ := Int.eq_ofNat_of_zero_le (show 0 ≤ y by omega)
    obtain ⟨M, rfl⟩ := Int.eq_ofNat_of_zero_le (show 0 ≤ m by omega)
    obtain ⟨D, rfl⟩ := Int.eq_ofNat_of_zero_le (show 0 ≤ d by omega)
    obtain ⟨H, rfl⟩ := Int.eq_ofNat_of_zero_le h0
    obtain ⟨I, rfl⟩ := Int.eq_ofNat_of_zero_le i0
    obtain ⟨S, rfl⟩ := Int.eq_ofNat_of_zero_le s0
    obtain ⟨N, rfl⟩ := Int.eq_ofNat_of_zero_le n0
    exact ctext_ok Y M D H I S N w ht hp h
end Go.Proofs.YtnhaflnlhcabpaaDoor
