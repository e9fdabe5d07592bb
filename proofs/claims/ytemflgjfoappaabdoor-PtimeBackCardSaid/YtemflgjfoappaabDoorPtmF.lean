/- The chapter's examples of layer 4. -/
import Derived.Test.YtemflgjfoappaabDoorPtmE
import Derived.Test.YtemflgjfoappaabDoorShelf
namespace Go.Proofs.YtemflgjfoappaabDoor
open Go.RowKit Fx Pt Wi

theorem ret_str {a b : ByteArray} (h : a = b) : Ending.returned (.string a) = .returned (.string b) := by rw [h]
theorem Pt.dig1 : (Lib.decDigits 1) = [49] := by unfold Lib.decDigits; decide
theorem Pt.dig5 : (Lib.decDigits 5) = [53] := by unfold Lib.decDigits; decide

set_option maxRecDepth 100000 in
theorem text_ex (w : World) :
    Calls Tryd.prog 6 #[.agg #[.int .i64 1, .int .i64 5]] w fun e w' => e = .returned (.string ⟨#[49, 46, 48, 48, 48, 48, 48, 48, 48, 48, 53]⟩) ∧ Below w.heap.size w w' := by
  have HK := Lib.hid (chk_yes (s := 1) (n := 5) (by decide) (by decide) (by decide) (by decide))
  have hb0 : Below w.heap.size w ((w.alloc (.cells #[.int .i64 1, .int .i64 5] 23)).alloc (.cells #[.int .i64 1, .int .i64 5] 23)) := ((Below.refl _ _).alloc (Nat.le_refl _) _).alloc (by simp) _
  have hsz : ((w.alloc (.cells #[.int .i64 1, .int .i64 5] 23)).alloc (.cells #[.int .i64 1, .int .i64 5] 23)).heap.size = w.heap.size + 1 + 1 := by simp
  have HB0 := Lib.hid hb0
  have HSZ := Lib.hid hsz
  clear hb0 hsz
  go_enter Tryd.func6, Tryd.ntmps6
  go_wp2_with fail
  refine (pcheck_any 1 5 _).mono ?_
  rintro e w' ⟨rfl, rfl⟩
  rw [HK.out]
  go_wp2_with fail
  refine (Tryd.strconv_Itoa_small 5 (by decide) _).mono ?_
  rintro e w' ⟨rfl, rfl⟩
  rw [dig5]
  go_wp2_with fail
  refine (Tryd.strings_Repeat ⟨#[48]⟩ 8 _ (by decide) (by decide)).mono ?_
  rintro e w1 ⟨rfl, hw1⟩
  rw [HSZ.out] at hw1
  have HW1 := Lib.hid (HB0.out.trans (hw1.mono (by omega)))
  obtain ⟨hc, hf⟩ : (∀ b o, b < w.heap.size + 1 + 1 → w1.cell? ⟨b, o, none⟩ = ((w.alloc (.cells #[.int .i64 1, .int .i64 5] 23)).alloc (.cells #[.int .i64 1, .int .i64 5] 23)).cell? ⟨b, o, none⟩) ∧ True := ⟨fun b o h => hw1.cell (p := ⟨b, o, none⟩) h, trivial⟩
  clear hw1
  go_wp2_with fail
  refine (Tryd.strconv_Itoa_small 1 (by decide) _).mono ?_
  rintro e w' ⟨rfl, rfl⟩
  rw [dig1]
  go_wp2_with fail
  go_ret
  exact ⟨ret_str (by decide +kernel), HW1.out⟩

theorem reads_in {w : World} {B : Nat} {A : Option Addr} {n : Nat} {l : List Int} (h : BReads w B A n l) : Lib.BytesIn w A n l := fun hn => by
  obtain ⟨b, o, e, _, hc⟩ := h.2.2 hn
  exact ⟨b, o, e, hc⟩

/-- Block B is the box of a timestamp. -/
def Pt.Bx (w : World) (B : Nat) (s n : Int) : Prop := w.heap[B]? = some (.cells #[.int .i64 s, .int .i64 n] 23 (0, 0))
theorem Pt.Bx.lt {w : World} {B : Nat} {s n : Int} (h : Bx w B s n) : B < w.heap.size := (two_cells h).2.2.2.2
theorem Pt.Bx.below {w w' : World} {B D : Nat} {s n : Int} (h : Bx w B s n) (hb : Below D w w') (hB : B < D) : Bx w' B s n := (hb.block B hB).trans h
theorem Pt.bx_new (w : World) (s n : Int) : Bx (w.alloc (.cells #[.int .i64 s, .int .i64 n] 23)) w.heap.size s n := heap_alloc_new w _
theorem Pt.size_alloc (w : World) (o : Obj) : (w.alloc o).heap.size = w.heap.size + 1 := by simp

set_option maxRecDepth 100000 in
theorem awake4_any (w : World) :
    Calls Tryd.prog 8 #[] w fun e w' => e = .returned (.bool true) ∧ Below w.heap.size w w' := by
  go_enter Tryd.func8, Tryd.ntmps8
  go_wp2_with fail
  refine (pof_any 2208988801000000005 _ (by decide) (by decide)).mono ?_
  rintro e w1 ⟨rfl, hw1⟩
  rw [show ofS 2208988801000000005 = 1 from by decide, show ofN 2208988801000000005 = 5 from by decide, show ofE 2208988801000000005 = 0 from by decide]
  obtain ⟨W1, hW1⟩ : ∃ W, w1.alloc (.cells #[.int .i64 1, .int .i64 5] 23) = W := ⟨_, rfl⟩
  have X1 := Lib.hid (bx_new w1 1 5)
  have B1 := Lib.hid (hw1.alloc hw1.size (.cells #[.int .i64 1, .int .i64 5] 23))
  have z1 := size_alloc w1 (.cells #[.int .i64 1, .int .i64 5] 23)
  rw [hW1] at X1 B1 z1
  have HW1 := Lib.hid hW1
  have h1 := hw1.size
  clear hw1 hW1
  go_wp2_with fail
  rw [HW1.out]
  refine (encode_ok 1 5 _ (by decide)).mono ?_
  rintro e w2 ⟨g, rfl, hg, hB2, hw2⟩
  have X2 := Lib.hid (X1.out.below hw2 (by omega))
  have B2 := Lib.hid (B1.out.trans (hw2.mono (by omega)))
  have Z2 := Lib.hid hB2
  have hz2 := hw2.size
  have hg2 := hB2.lt
  clear hB2 hw2 X1 B1
  go_wp2_with fail
  refine (pof_any 2208988799999999999 _ (by decide) (by decide)).mono ?_
  rintro e w3 ⟨rfl, hw3⟩
  rw [show ofS 2208988799999999999 = 0 from by decide, show ofN 2208988799999999999 = 0 from by decide, show ofE 2208988799999999999 = 3 from by decide]
  have hw3' := hw3.alloc hw3.size (.cells #[.int .i64 0, .int .i64 0] 23)
  obtain ⟨W3, hW3⟩ : ∃ W, w3.alloc (.cells #[.int .i64 0, .int .i64 0] 23) = W := ⟨_, rfl⟩
  rw [hW3] at hw3'
  have X3 := Lib.hid (X2.out.below hw3' (by omega))
  have B3 := Lib.hid (B2.out.trans (hw3'.mono (by omega)))
  have Z3 := Lib.hid (Z2.out.below hw3' hg2)
  have hz3 := hw3'.size
  have HW3 := Lib.hid hW3
  clear hw3 hw3' hW3 X2 B2 Z2
  go_wp2_with fail
  rw [HW3.out]
  refine (ptime_any 5791011200 1 _).mono ?_
  rintro e w4 ⟨rfl, hw4⟩
  rw [show timV 5791011200 1 = 0 from by decide, show timE 5791011200 1 = 3 from by decide]
  have X4 := Lib.hid (X3.out.below hw4 (by omega))
  have B4 := Lib.hid (B3.out.trans (hw4.mono (by omega)))
  have Z4 := Lib.hid (Z3.out.below hw4 (by omega))
  have hz4 := hw4.size
  clear hw4 X3 B3 Z3
  go_wp2_with fail
  refine (corr_yes 3 _ (by decide) (by decide) (by decide)).mono ?_
  rintro e w' ⟨rfl, k, rfl⟩
  have x0 := (two_cells X4.out).1
  have x1 := (two_cells X4.out).2.1
  go_wp2_with fail
  refine (text_ex _).mono ?_
  rintro e w6 ⟨rfl, hw6⟩
  have hw6' : Below w4.heap.size w4 w6 := (below_drewN (Below.refl _ _) _).trans hw6
  have B6 := Lib.hid (B4.out.trans (hw6'.mono (by omega)))
  have Z6 := Lib.hid (Z4.out.below hw6' (by omega))
  have hz6 := hw6'.size
  clear hw6 hw6' X4 B4 Z4 x0 x1
  go_wp2_with fail
  have hlit : Bytes [0, 0, 0, 0, 0, 1, 0, 0, 0, 5] := bytes_lit (by decide)
  have hr1 := Z6.out.reads (enc_bytes 1 5) (Nat.lt_of_lt_of_le hg2 (by omega : w2.heap.size ≤ w6.heap.size))
  have hr1' := reads_in (hr1.alloc (Nat.le_refl _) (.cells (([0, 0, 0, 0, 0, 1, 0, 0, 0, 5] : List Int).map (Value.int .u8)).toArray 5))
  have hr2' := reads_in (reads_new w6 [0, 0, 0, 0, 0, 1, 0, 0, 0, 5] hlit)
  rw [enc_len] at hr1'
  have R1 := Lib.hid hr1'
  have R2 := Lib.hid hr2'
  have B7 := Lib.hid (B6.out.alloc B6.out.size (.cells (([0, 0, 0, 0, 0, 1, 0, 0, 0, 5] : List Int).map (Value.int .u8)).toArray 5))
  have HQ : Hid ((Lib.bytesOf (enc 1 5) == Lib.bytesOf [0, 0, 0, 0, 0, 1, 0, 0, 0, 5]) = true) := Lib.hid (by decide)
  clear hr1 hr1' hr2' hlit B6 Z6
  refine (Tryd.bytes_Equal_all _ _ 10 10 10 10 (enc 1 5) [0, 0, 0, 0, 0, 1, 0, 0, 0, 5] _ (enc_len 1 5) rfl R1.out R2.out).mono ?_
  rintro e w' ⟨rfl, rfl⟩
  rw [HQ.out]
  go_wp2_with fail
  refine (pnanos_any 196607 _ (by decide) (by decide)).mono ?_
  rintro e w' ⟨rfl, rfl⟩
  rw [show (196607 : Int) / 65536 = 2 from by decide]
  go_wp2_with fail
  refine (pnanos_any (-1) _ (by decide) (by decide)).mono ?_
  rintro e w' ⟨rfl, rfl⟩
  rw [show (-1 : Int) / 65536 = -1 from by decide]
  go_wp2_with fail
  go_ret
  exact ⟨rfl, B7.out⟩
end Go.Proofs.YtemflgjfoappaabDoor
