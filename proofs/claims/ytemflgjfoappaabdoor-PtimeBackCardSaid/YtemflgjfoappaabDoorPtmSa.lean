/- The walk of PtimeTexts. -/
import Derived.Test.YtemflgjfoappaabDoorPtmRa
namespace Go.Proofs.YtemflgjfoappaabDoor
open Go.RowKit Fx Pt Wi

theorem parse_both (x : ByteArray) (hs : x.size ≤ 281474976710656) : ∃ a b c : Int,
    (∀ w, Tab w → Errs w → Calls Tryd.prog 9 #[.string x] w fun e w' => e = .returned (.tuple #[.agg #[.int .i64 a, .int .i64 b], .int .i64 c]) ∧ Below w.heap.size w w') ∧
    (∀ w, Calls Tryd.prog 10 #[.string x] w fun e w' => e = .returned (.tuple #[.agg #[.int .i64 a, .int .i64 b], .int .i64 c]) ∧ Below w.heap.size w w') := by
  by_cases h : ∃ s n : Int, ok s n = true ∧ txt s n = x
  · obtain ⟨s, n, ho, hx⟩ := h
    obtain ⟨s0, s1, n0, n1⟩ := ok_iff.1 ho
    obtain ⟨S, rfl⟩ := Int.eq_ofNat_of_zero_le s0
    obtain ⟨N, rfl⟩ := Int.eq_ofNat_of_zero_le n0
    exact ⟨S, N, 0, fun w ht he => parse_yes S N x w hx.symm (by omega) (by omega) ht he, fun w => rparse_yes S N x w hx.symm (by omega) (by omega)⟩
  · have hn : NoTxt x := fun s n ho hx => h ⟨s, n, ho, hx⟩
    exact ⟨0, 0, 19, fun w ht he => parse_no x w hs hn ht he, fun w => rparse_no x w (by omega) hn⟩

set_option maxRecDepth 100000 in
theorem ptimeTexts_walk (s n : Int) (x : ByteArray) (w : World) (hs : x.size ≤ 9223372036854775807) (ht : Tab w) (he : Errs w) :
    Calls Tryd.prog 3 #[.agg #[.int .i64 s, .int .i64 n], .string x] w fun e w' => e = .returned (.bool true) ∧ Below w.heap.size w w' := by
  have X0 := Lib.hid (bx_new w s n)
  have B0 := Lib.hid ((Below.refl w.heap.size w).alloc (Nat.le_refl _) (.cells #[.int .i64 s, .int .i64 n] 23))
  obtain ⟨W0, hW0⟩ : ∃ W, w.alloc (.cells #[.int .i64 s, .int .i64 n] 23) = W := ⟨_, rfl⟩
  have z0 : w.heap.size < (w.alloc (.cells #[.int .i64 s, .int .i64 n] 23)).heap.size := by rw [size_alloc]; omega
  rw [hW0] at X0 B0 z0
  have HW0 := Lib.hid hW0
  have T0 := Lib.hid (ht.below B0.out)
  have E0 := Lib.hid (he.below B0.out)
  clear hW0 ht he
  obtain ⟨x0, x1, _, _, _⟩ := two_cells X0.out
  obtain ⟨T, hT⟩ : ∃ T, txt s n = T := ⟨_, rfl⟩
  have HT := Lib.hid hT
  clear hT
  go_enter Tryd.func3, Tryd.ntmps3
  go_wp2_with fail
  rw [HW0.out]
  go_region_held3 (fun w' => w'.cell? ⟨w.heap.size, 0, none⟩ = some (.int .i64 s) ∧ w'.cell? ⟨w.heap.size, 1, none⟩ = some (.int .i64 n)) (go_keep)
    (first
      | (go_at_call 6; refine (ptext_any s n _ ?_).mono ?_; exact T0.out; rintro e w1 ⟨rfl, hw1⟩; rw [HT.out]; have hw1' : Below W0.heap.size W0 w1 := ⟨hw1.os, hw1.tape, hw1.output, hw1.size, hw1.block⟩; have X1 := Lib.hid (X0.out.below hw1' (by omega)); have B1 := Lib.hid (B0.out.trans (hw1'.mono (by omega))); have T1 := Lib.hid (T0.out.below hw1'); have E1 := Lib.hid (E0.out.below hw1'); have z1 := hw1'.size; obtain ⟨x10, x11, _, _, _⟩ := two_cells X1.out; clear hw1 hw1' B0 T0 E0)
      | (go_at_call 7; refine (prtext_any s n _).mono ?_; rintro e w2 ⟨rfl, hw2⟩; rw [HT.out]; have X2 := Lib.hid (X1.out.below hw2 (by omega)); have B2 := Lib.hid (B1.out.trans (hw2.mono (by omega))); have T2 := Lib.hid (T1.out.below hw2); have E2 := Lib.hid (E1.out.below hw2); have z2 := hw2.size; obtain ⟨x20, x21, _, _, _⟩ := two_cells X2.out; clear hw2 B1 T1 E1))
  by_cases h200 : 200 < x.size
  · have h200' : 200 < (x.size : Int) := by omega
    go_wp2_with fail
    refine (awake4_any _).mono ?_
    rintro e w7 ⟨rfl, hw7⟩
    have B7 := Lib.hid (B2.out.trans (hw7.mono B2.out.size))
    clear hw7
    go_wp2_with fail
    go_ret
    exact ⟨rfl, B7.out⟩
  · have h200' : ¬ 200 < (x.size : Int) := by omega
    obtain ⟨a, b, c, hp, hr⟩ := parse_both x (by omega)
    have HP := Lib.hid hp
    have HR := Lib.hid hr
    clear hp hr
    go_wp2_with fail
    refine (HP.out _ T2.out E2.out).mono ?_
    rintro e w3 ⟨rfl, hw3⟩
    have hw3' := hw3.alloc hw3.size (.cells #[.int .i64 a, .int .i64 b] 23)
    have Y3 := Lib.hid (bx_new w3 a b)
    obtain ⟨W3, hW3⟩ : ∃ W, w3.alloc (.cells #[.int .i64 a, .int .i64 b] 23) = W := ⟨_, rfl⟩
    rw [hW3] at hw3' Y3
    have B3 := Lib.hid (B2.out.trans (hw3'.mono (by omega)))
    have HW3 := Lib.hid hW3
    clear hw3 hw3' hW3 B2
    go_wp2_with fail
    rw [HW3.out]
    refine (HR.out _).mono ?_
    rintro e w4 ⟨rfl, hw4⟩
    have Y4w := Lib.hid (Y3.out.below hw4 Y3.out.lt)
    have hw4' := hw4.alloc hw4.size (.cells #[.int .i64 a, .int .i64 b] 23)
    have Z4 := Lib.hid (bx_new w4 a b)
    obtain ⟨W4, hW4⟩ : ∃ W, w4.alloc (.cells #[.int .i64 a, .int .i64 b] 23) = W := ⟨_, rfl⟩
    rw [hW4] at hw4' Z4
    have Y4 := Lib.hid (Y3.out.below hw4' Y3.out.lt)
    have B4 := Lib.hid (B3.out.trans (hw4'.mono B3.out.size))
    have HW4 := Lib.hid hW4
    clear hw4 hw4' hW4 B3 Y3
    obtain ⟨y0, y1, _, _, y2⟩ := two_cells Y4w.out
    go_wp2_with fail
    rw [HW4.out]
    refine (awake4_any _).mono ?_
    rintro e w7 ⟨rfl, hw7⟩
    have B7 := Lib.hid (B4.out.trans (hw7.mono B4.out.size))
    clear hw7
    go_wp2_with fail
    go_ret
    exact ⟨rfl, B7.out⟩
end Go.Proofs.YtemflgjfoappaabDoor
