/- Contracts of layer 5: Text of the specification. -/
import Derived.Test.YtnhaflnlhcabpaaDoorCivE
namespace Go.Proofs.YtnhaflnlhcabpaaDoor
open Go.RowKit Fx Cv Pt

/-- The bytes of the text of a civil time. -/
def Cv.ctx (Y M D H I S N : Nat) : List UInt8 := low Y 4 ++ [45] ++ low M 2 ++ [45] ++ low D 2 ++ [84] ++ low H 2 ++ [58] ++ low I 2 ++ [58] ++ low S 2 ++ [46] ++ low N 9 ++ [90]
/-- What Text returns. -/
def Cv.txtC (y m d hh mi s n : Int) : ByteArray := if okC y m d hh mi s n = true then ⟨(ctx y.toNat m.toNat d.toNat hh.toNat mi.toNat s.toNat n.toNat).toArray⟩ else ⟨#[]⟩
theorem Cv.ctx_len (Y M D H I S N : Nat) : (ctx Y M D H I S N).length = 30 := by simp [ctx, low_len]
theorem Cv.ret_s {x y : ByteArray} (h : x = y) : Ending.returned (.string x) = .returned (.string y) := by rw [h]

theorem rdig (K n : Nat) (v : ByteArray) (w : World) (hv : (⟨(low K n).toArray⟩ : ByteArray) = v) (hK : K < 1000000000000000) (hn : n ≤ 9) :
    Calls Tryd.prog 46 #[.int .i64 K, .int .i64 n] w fun e w' => e = .returned (.string v) ∧ w' = w := by
  subst hv
  exact (rdigits_any K n w hK hn).mono (by rintro e w' ⟨rfl, rfl⟩; exact ⟨rfl, rfl⟩)
theorem rdig4 (K : Nat) (v : ByteArray) (w : World) (hv : (⟨(low K 4).toArray⟩ : ByteArray) = v) (hK : K < 1000000000000000) :
    Calls Tryd.prog 46 #[.int .i64 K, .int .i64 4] w fun e w' => e = .returned (.string v) ∧ w' = w := rdig K 4 v w hv hK (by decide)
theorem rdig2 (K : Nat) (v : ByteArray) (w : World) (hv : (⟨(low K 2).toArray⟩ : ByteArray) = v) (hK : K < 1000000000000000) :
    Calls Tryd.prog 46 #[.int .i64 K, .int .i64 2] w fun e w' => e = .returned (.string v) ∧ w' = w := rdig K 2 v w hv hK (by decide)
theorem rdig9 (K : Nat) (v : ByteArray) (w : World) (hv : (⟨(low K 9).toArray⟩ : ByteArray) = v) (hK : K < 1000000000000000) :
    Calls Tryd.prog 46 #[.int .i64 K, .int .i64 9] w fun e w' => e = .returned (.string v) ∧ w' = w := rdig K 9 v w hv hK (by decide)

set_option maxRecDepth 100000 in
theorem rtext_no (y m d hh mi s n : Int) (w : World) (y1 : y ≤ 9223372036854775807) (h : okC y m d hh mi s n = false) :
    Calls Tryd.prog 27 #[.agg #[.int .i64 y, .int .i64 m, .int .i64 d, .int .i64 hh, .int .i64 mi, .int .i64 s, .int .i64 n]] w fun e w' => e = .returned (.string (txtC y m d hh mi s n)) ∧ Below w.heap.size w w' := by
  have HK := Lib.hid (show chkC y m d hh mi s n = 3 by unfold chkC; rw [h]; rfl)
  have HT := Lib.hid (show txtC y m d hh mi s n = ⟨#[]⟩ by unfold txtC; rw [h]; rfl)
  clear h
  have B1 := Lib.hid ((Below.refl w.heap.size w).alloc (Nat.le_refl _) (.cells #[.int .i64 y, .int .i64 m, .int .i64 d, .int .i64 hh, .int .i64 mi, .int .i64 s, .int .i64 n] 23))
  rw [HT.out]
  go_enter Tryd.func27, Tryd.ntmps27
  go_wp2_with fail
  refine (rcchk_any y m d hh mi s n _ y1).mono ?_
  rintro e w' ⟨rfl, k, rfl⟩
  rw [HK.out]
  go_wp2_with fail
  go_ret
  exact ⟨rfl, blwn (B1.out.alloc (by simp) _) k⟩

set_option maxRecDepth 100000 in
theorem rtext_ok (Y M D H I S N : Nat) (w : World) (h : okC Y M D H I S N = true) :
    Calls Tryd.prog 27 #[.agg #[.int .i64 (Y : Nat), .int .i64 (M : Nat), .int .i64 (D : Nat), .int .i64 (H : Nat), .int .i64 (I : Nat), .int .i64 (S : Nat), .int .i64 (N : Nat)]] w fun e w' => e = .returned (.string (txtC Y M D H I S N)) ∧ Below w.heap.size w w' := by
  have HK := Lib.hid (chk_ok h)
  have hT : txtC Y M D H I S N = ⟨(ctx Y M D H I S N).toArray⟩ := by unfold txtC; rw [if_pos h]; simp only [Int.toNat_natCast]
  obtain ⟨y0, y1, m0, m1, d0, d1, h0, h1, i0, i1, s0, s1, n0, n1⟩ := okC_iff.1 h
  have hmd := (md_bound (y := Y) m0 m1).2
  have hD : D ≤ 31 := by omega
  clear h hmd d1 y0 m0 d0 h0 i0 s0 n0
  obtain ⟨b0, hb0⟩ : ∃ b : ByteArray, (⟨(low Y 4).toArray⟩ : ByteArray) = b := ⟨_, rfl⟩
  have sb0 : b0.size = 4 := by rw [← hb0]; simp [ByteArray.size, low_len]
  obtain ⟨b1, hb1⟩ : ∃ b : ByteArray, (⟨(low M 2).toArray⟩ : ByteArray) = b := ⟨_, rfl⟩
  have sb1 : b1.size = 2 := by rw [← hb1]; simp [ByteArray.size, low_len]
  obtain ⟨b2, hb2⟩ : ∃ b : ByteArray, (⟨(low D 2).toArray⟩ : ByteArray) = b := ⟨_, rfl⟩
  have sb2 : b2.size = 2 := by rw [← hb2]; simp [ByteArray.size, low_len]
  obtain ⟨b3, hb3⟩ : ∃ b : ByteArray, (⟨(low H 2).toArray⟩ : ByteArray) = b := ⟨_, rfl⟩
  have sb3 : b3.size = 2 := by rw [← hb3]; simp [ByteArray.size, low_len]
  obtain ⟨b4, hb4⟩ : ∃ b : ByteArray, (⟨(low I 2).toArray⟩ : ByteArray) = b := ⟨_, rfl⟩
  have sb4 : b4.size = 2 := by rw [← hb4]; simp [ByteArray.size, low_len]
  obtain ⟨b5, hb5⟩ : ∃ b : ByteArray, (⟨(low S 2).toArray⟩ : ByteArray) = b := ⟨_, rfl⟩
  have sb5 : b5.size = 2 := by rw [← hb5]; simp [ByteArray.size, low_len]
  obtain ⟨b6, hb6⟩ : ∃ b : ByteArray, (⟨(low N 9).toArray⟩ : ByteArray) = b := ⟨_, rfl⟩
  have sb6 : b6.size = 9 := by rw [← hb6]; simp [ByteArray.size, low_len]
  obtain ⟨a1, ha1⟩ : ∃ a : ByteArray, b0 ++ ⟨#[45]⟩ = a := ⟨_, rfl⟩
  have sa1 : a1.size = 5 := by rw [← ha1, ByteArray.size_append, sb0]; rfl
  have add1 : ∀ w : World, (Op.stringOp .add b0 ⟨#[45]⟩).run Tryd.prog w = .ok (.string a1) w := fun w => by
    rw [run_string_add_sum (w := w) b0 ⟨#[45]⟩ (by show b0.size + 1 ≤ _; omega), ha1]
  obtain ⟨a2, ha2⟩ : ∃ a : ByteArray, a1 ++ b1 = a := ⟨_, rfl⟩
  have sa2 : a2.size = 7 := by rw [← ha2, ByteArray.size_append, sa1, sb1]
  have add2 : ∀ w : World, (Op.stringOp .add a1 b1).run Tryd.prog w = .ok (.string a2) w := fun w => by
    rw [run_string_add_sum (w := w) a1 b1 (by omega), ha2]
  obtain ⟨a3, ha3⟩ : ∃ a : ByteArray, a2 ++ ⟨#[45]⟩ = a := ⟨_, rfl⟩
  have sa3 : a3.size = 8 := by rw [← ha3, ByteArray.size_append, sa2]; rfl
  have add3 : ∀ w : World, (Op.stringOp .add a2 ⟨#[45]⟩).run Tryd.prog w = .ok (.string a3) w := fun w => by
    rw [run_string_add_sum (w := w) a2 ⟨#[45]⟩ (by show a2.size + 1 ≤ _; omega), ha3]
  obtain ⟨a4, ha4⟩ : ∃ a : ByteArray, a3 ++ b2 = a := ⟨_, rfl⟩
  have sa4 : a4.size = 10 := by rw [← ha4, ByteArray.size_append, sa3, sb2]
  have add4 : ∀ w : World, (Op.stringOp .add a3 b2).run Tryd.prog w = .ok (.string a4) w := fun w => by
    rw [run_string_add_sum (w := w) a3 b2 (by omega), ha4]
  obtain ⟨a5, ha5⟩ : ∃ a : ByteArray, a4 ++ ⟨#[84]⟩ = a := ⟨_, rfl⟩
  have sa5 : a5.size = 11 := by rw [← ha5, ByteArray.size_append, sa4]; rfl
  have add5 : ∀ w : World, (Op.stringOp .add a4 ⟨#[84]⟩).run Tryd.prog w = .ok (.string a5) w := fun w => by
    rw [run_string_add_sum (w := w) a4 ⟨#[84]⟩ (by show a4.size + 1 ≤ _; omega), ha5]
  obtain ⟨a6, ha6⟩ : ∃ a : ByteArray, a5 ++ b3 = a := ⟨_, rfl⟩
  have sa6 : a6.size = 13 := by rw [← ha6, ByteArray.size_append, sa5, sb3]
  have add6 : ∀ w : World, (Op.stringOp .add a5 b3).run Tryd.prog w = .ok (.string a6) w := fun w => by
    rw [run_string_add_sum (w := w) a5 b3 (by omega), ha6]
  obtain ⟨a7, ha7⟩ : ∃ a : ByteArray, a6 ++ ⟨#[58]⟩ = a := ⟨_, rfl⟩
  have sa7 : a7.size = 14 := by rw [← ha7, ByteArray.size_append, sa6]; rfl
  have add7 : ∀ w : World, (Op.stringOp .add a6 ⟨#[58]⟩).run Tryd.prog w = .ok (.string a7) w := fun w => by
    rw [run_string_add_sum (w := w) a6 ⟨#[58]⟩ (by show a6.size + 1 ≤ _; omega), ha7]
  obtain ⟨a8, ha8⟩ : ∃ a : ByteArray, a7 ++ b4 = a := ⟨_, rfl⟩
  have sa8 : a8.size = 16 := by rw [← ha8, ByteArray.size_append, sa7, sb4]
  have add8 : ∀ w : World, (Op.stringOp .add a7 b4).run Tryd.prog w = .ok (.string a8) w := fun w => by
    rw [run_string_add_sum (w := w) a7 b4 (by omega), ha8]
  obtain ⟨a9, ha9⟩ : ∃ a : ByteArray, a8 ++ ⟨#[58]⟩ = a := ⟨_, rfl⟩
  have sa9 : a9.size = 17 := by rw [← ha9, ByteArray.size_append, sa8]; rfl
  have add9 : ∀ w : World, (Op.stringOp .add a8 ⟨#[58]⟩).run Tryd.prog w = .ok (.string a9) w := fun w => by
    rw [run_string_add_sum (w := w) a8 ⟨#[58]⟩ (by show a8.size + 1 ≤ _; omega), ha9]
  obtain ⟨a10, ha10⟩ : ∃ a : ByteArray, a9 ++ b5 = a := ⟨_, rfl⟩
  have sa10 : a10.size = 19 := by rw [← ha10, ByteArray.size_append, sa9, sb5]
  have add10 : ∀ w : World, (Op.stringOp .add a9 b5).run Tryd.prog w = .ok (.string a10) w := fun w => by
    rw [run_string_add_sum (w := w) a9 b5 (by omega), ha10]
  obtain ⟨a11, ha11⟩ : ∃ a : ByteArray, a10 ++ ⟨#[46]⟩ = a := ⟨_, rfl⟩
  have sa11 : a11.size = 20 := by rw [← ha11, ByteArray.size_append, sa10]; rfl
  have add11 : ∀ w : World, (Op.stringOp .add a10 ⟨#[46]⟩).run Tryd.prog w = .ok (.string a11) w := fun w => by
    rw [run_string_add_sum (w := w) a10 ⟨#[46]⟩ (by show a10.size + 1 ≤ _; omega), ha11]
  obtain ⟨a12, ha12⟩ : ∃ a : ByteArray, a11 ++ b6 = a := ⟨_, rfl⟩
  have sa12 : a12.size = 29 := by rw [← ha12, ByteArray.size_append, sa11, sb6]
  have add12 : ∀ w : World, (Op.stringOp .add a11 b6).run Tryd.prog w = .ok (.string a12) w := fun w => by
    rw [run_string_add_sum (w := w) a11 b6 (by omega), ha12]
  obtain ⟨a13, ha13⟩ : ∃ a : ByteArray, a12 ++ ⟨#[90]⟩ = a := ⟨_, rfl⟩
  have sa13 : a13.size = 30 := by rw [← ha13, ByteArray.size_append, sa12]; rfl
  have add13 : ∀ w : World, (Op.stringOp .add a12 ⟨#[90]⟩).run Tryd.prog w = .ok (.string a13) w := fun w => by
    rw [run_string_add_sum (w := w) a12 ⟨#[90]⟩ (by show a12.size + 1 ≤ _; omega), ha13]
  have HF : Hid (txtC Y M D H I S N = a13) := Lib.hid (by
    rw [hT, ← ha13, ← ha12, ← ha11, ← ha10, ← ha9, ← ha8, ← ha7, ← ha6, ← ha5, ← ha4, ← ha3, ← ha2, ← ha1, ← hb0, ← hb1, ← hb2, ← hb3, ← hb4, ← hb5, ← hb6]
    simp only [mkap, ctx])
  have HB0 := Lib.hid hb0
  have HB1 := Lib.hid hb1
  have HB2 := Lib.hid hb2
  have HB3 := Lib.hid hb3
  have HB4 := Lib.hid hb4
  have HB5 := Lib.hid hb5
  have HB6 := Lib.hid hb6
  clear hb0 sb0 hb1 sb1 hb2 sb2 hb3 sb3 hb4 sb4 hb5 sb5 hb6 sb6 ha1 sa1 ha2 sa2 ha3 sa3 ha4 sa4 ha5 sa5 ha6 sa6 ha7 sa7 ha8 sa8 ha9 sa9 ha10 sa10 ha11 sa11 ha12 sa12 ha13 sa13 hT
  have B1 := Lib.hid ((Below.refl w.heap.size w).alloc (Nat.le_refl _) (.cells #[.int .i64 (Y : Nat), .int .i64 (M : Nat), .int .i64 (D : Nat), .int .i64 (H : Nat), .int .i64 (I : Nat), .int .i64 (S : Nat), .int .i64 (N : Nat)] 23))
  have X1 := Lib.hid (bx7_new w Y M D H I S N)
  obtain ⟨W1, hW1⟩ : ∃ W, w.alloc (.cells #[.int .i64 (Y : Nat), .int .i64 (M : Nat), .int .i64 (D : Nat), .int .i64 (H : Nat), .int .i64 (I : Nat), .int .i64 (S : Nat), .int .i64 (N : Nat)] 23) = W := ⟨_, rfl⟩
  have z1 := sz_alloc w (.cells #[.int .i64 (Y : Nat), .int .i64 (M : Nat), .int .i64 (D : Nat), .int .i64 (H : Nat), .int .i64 (I : Nat), .int .i64 (S : Nat), .int .i64 (N : Nat)] 23)
  rw [hW1] at B1 X1 z1
  have HW1 := Lib.hid hW1
  clear hW1
  go_enter Tryd.func27, Tryd.ntmps27
  go_wp2_with fail
  rw [HW1.out]
  refine (rcchk_any Y M D H I S N _ (by omega)).mono ?_
  rintro e w' ⟨rfl, k, hw'⟩
  have hb := blwn ((Below.refl W1.heap.size W1).alloc (Nat.le_refl _) (.cells #[.int .i64 (Y : Nat), .int .i64 (M : Nat), .int .i64 (D : Nat), .int .i64 (H : Nat), .int .i64 (I : Nat), .int .i64 (S : Nat), .int .i64 (N : Nat)] 23)) k
  rw [← hw'] at hb
  have B2 := Lib.hid (B1.out.trans (hb.mono (by omega)))
  have X2 := Lib.hid (X1.out.below hb (by omega))
  obtain ⟨c0, c1, c2, c3, c4, c5, c6⟩ := X2.out.cells
  rw [HK.out]
  clear hw' hb B1 X1 z1
  go_wp2_with fail
  go_quiet (first
    | (go_at_call_of 46 (Value.int .i64 (Y : Nat)); exact Calls.quiet_of_same (rdig4 Y b0 _ HB0.out (by omega)))
    | (go_at_call_of 46 (Value.int .i64 (M : Nat)); exact Calls.quiet_of_same (rdig2 M b1 _ HB1.out (by omega)))
    | (go_at_call_of 46 (Value.int .i64 (D : Nat)); exact Calls.quiet_of_same (rdig2 D b2 _ HB2.out (by omega)))
    | (go_at_call_of 46 (Value.int .i64 (H : Nat)); exact Calls.quiet_of_same (rdig2 H b3 _ HB3.out (by omega)))
    | (go_at_call_of 46 (Value.int .i64 (I : Nat)); exact Calls.quiet_of_same (rdig2 I b4 _ HB4.out (by omega)))
    | (go_at_call_of 46 (Value.int .i64 (S : Nat)); exact Calls.quiet_of_same (rdig2 S b5 _ HB5.out (by omega)))
    | (go_at_call_of 46 (Value.int .i64 (N : Nat)); exact Calls.quiet_of_same (rdig9 N b6 _ HB6.out (by omega))))
  go_wp2_with fail
  go_ret
  exact ⟨ret_s HF.out.symm, blwn B2.out _⟩

theorem rtext_any (y m d hh mi s n : Int) (w : World) (y1 : y ≤ 9223372036854775807) :
    Calls Tryd.prog 27 #[.agg #[.int .i64 y, .int .i64 m, .int .i64 d, .int .i64 hh, .int .i64 mi, .int .i64 s, .int .i64 n]] w fun e w' => e = .returned (.string (txtC y m d hh mi s n)) ∧ Below w.heap.size w w' := by
  cases h : okC y m d hh mi s n
  · exact rtext_no y m d hh mi s n w y1 h
  · obtain ⟨y0, _, m0, _, d0, _, h0, _, i0, _, s0, _, n0, _⟩ := okC_iff.1 h
    obtain ⟨Y, rfl⟩ := Int.eq_ofNat_of_zero_le (show 0 ≤ y by omega)
    obtain ⟨M, rfl⟩ := Int.eq_ofNat_of_zero_le (show 0 ≤ m by omega)
    obtain ⟨D, rfl⟩ := Int.eq_ofNat_of_zero_le (show 0 ≤ d by omega)
    obtain ⟨H, rfl⟩ := Int.eq_ofNat_of_zero_le h0
    obtain ⟨I, rfl⟩ := Int.eq_ofNat_of_zero_le i0
    obtain ⟨S, rfl⟩ := Int.eq_ofNat_of_zero_le s0
    obtain ⟨N, rfl⟩ := Int.eq_ofNat_of_zero_le n0
    exact rtext_ok Y M D H I S N w h
theorem rsec_any (y m d hh mi s n : Int) (w : World) (y1 : y ≤ 9223372036854775807) :
    Calls Tryd.prog 12 #[.agg #[.int .i64 y, .int .i64 m, .int .i64 d, .int .i64 hh, .int .i64 mi, .int .i64 s, .int .i64 n]] w fun e w' => e = .returned (.tuple #[.int .i64 (secV y m d hh mi s n), .int .i64 (secE y m d hh mi s n)]) ∧ Below w.heap.size w w' := by
  cases h : okC y m d hh mi s n
  · exact rsec_no y m d hh mi s n w y1 h
  · exact rsec_ok y m d hh mi s n w h
end Go.Proofs.YtnhaflnlhcabpaaDoor
