/- The walk of PtimeBytes. -/
import Derived.Test.YtemflgjfoappaaaDoorPtmI
namespace Go.Proofs.YtemflgjfoappaaaDoor
open Go.RowKit Fx Pt Wi

theorem decode_any (A : Option Addr) (n c : Nat) (l : List Int) (w : World) (hr : BReads w w.heap.size A n l) (hm : n ≤ 9223372036854775807) :
    Calls Tryd.prog 21 #[.slice A n c] w fun e w' => e = .returned (.tuple #[.agg #[.int .i64 (decS l), .int .i64 (decN l)], .int .i64 (decE l)]) ∧ Below w.heap.size w w' := by
  by_cases h : n = 10
  · subst h; exact decode_ten A c l w hr
  · exact decode_long A n c l w hr.1 hm (by omega)
theorem rdecode_any (A : Option Addr) (n c : Nat) (l : List Int) (w : World) (hr : BReads w w.heap.size A n l) (hm : n ≤ 9223372036854775807) :
    Calls Tryd.prog 22 #[.slice A n c] w fun e w' => e = .returned (.tuple #[.agg #[.int .i64 (decS l), .int .i64 (decN l)], .int .i64 (decE l)]) ∧ Below w.heap.size w w' := by
  by_cases h : n = 10
  · subst h; exact rdecode_ten A c l w hr
  · exact rdecode_long A n c l w hr.1 hm (by omega)

set_option maxRecDepth 100000 in
theorem ptimeBytes_yes (s m : Int) (A : Option Addr) (n c : Nat) (l : List Int) (w : World) (hr : BReads w w.heap.size A n l) (hm : n ≤ 9223372036854775807) (ho : ok s m = true) :
    Calls Tryd.prog 5 #[.agg #[.int .i64 s, .int .i64 m], .slice A n c] w fun e w' => e = .returned (.bool true) ∧ Below w.heap.size w w' := by
  have HO := Lib.hid ho
  have HR := Lib.hid hr
  clear ho hr
  have X0 := Lib.hid (bx_new w s m)
  have B0 := Lib.hid ((Below.refl w.heap.size w).alloc (Nat.le_refl _) (.cells #[.int .i64 s, .int .i64 m] 23))
  obtain ⟨W0, hW0⟩ : ∃ W, w.alloc (.cells #[.int .i64 s, .int .i64 m] 23) = W := ⟨_, rfl⟩
  have z0 := size_alloc w (.cells #[.int .i64 s, .int .i64 m] 23)
  rw [hW0] at X0 B0 z0
  have HW0 := Lib.hid hW0
  clear hW0
  obtain ⟨ds, hds⟩ : ∃ x, decS l = x := ⟨_, rfl⟩
  obtain ⟨dn, hdn⟩ : ∃ x, decN l = x := ⟨_, rfl⟩
  obtain ⟨de, hde⟩ : ∃ x, decE l = x := ⟨_, rfl⟩
  have HD := Lib.hid (And.intro hds (And.intro hdn hde))
  clear hds hdn hde
  go_enter Tryd.func5, Tryd.ntmps5
  go_wp2_with fail
  rw [HW0.out]
  refine (encode_ok s m _ HO.out).mono ?_
  rintro e w1 ⟨g, rfl, hg, hB1, hw1⟩
  have Z1 := Lib.hid hB1
  have X1 := Lib.hid (X0.out.below hw1 (by omega))
  have B1 := Lib.hid (B0.out.trans (hw1.mono (by omega)))
  have z1 := hw1.size
  obtain ⟨x0, x1, _, _, _⟩ := two_cells X1.out
  clear hB1 hw1 X0 B0
  go_wp2_with fail
  refine (rencode_ok s m _ HO.out).mono ?_
  rintro e w2 ⟨A2, c2, rfl, hr2, hw2⟩
  have R2 := Lib.hid hr2
  have Z2 := Lib.hid (Z1.out.below hw2 Z1.out.lt)
  have B2 := Lib.hid (B1.out.trans (hw2.mono (by omega)))
  have z2 := hw2.size
  clear hw2 X1 B1 x0 x1
  clear hr2 Z1
  go_wp2_with fail
  refine (decode_any A n c l _ ((HR.out.below B2.out).more B2.out.size) hm).mono ?_
  rintro e w3 ⟨rfl, hw3⟩
  rw [HD.out.1, HD.out.2.1, HD.out.2.2]
  have hw3' := hw3.alloc hw3.size (.cells #[.int .i64 ds, .int .i64 dn] 23)
  have Y3 := Lib.hid (bx_new w3 ds dn)
  have z3 := size_alloc w3 (.cells #[.int .i64 ds, .int .i64 dn] 23)
  have z3' := hw3.size
  obtain ⟨W3, hW3⟩ : ∃ W, w3.alloc (.cells #[.int .i64 ds, .int .i64 dn] 23) = W := ⟨_, rfl⟩
  rw [hW3] at hw3' Y3 z3
  have B3 := Lib.hid (B2.out.trans (hw3'.mono (by omega)))
  have HW3 := Lib.hid hW3
  have R3 := Lib.hid ((R2.out.below hw3').more hw3'.size)
  have Z3 := Lib.hid (Z2.out.below hw3' Z2.out.lt)
  clear hw3 hw3' hW3 B2 R2 Z2
  go_wp2_with fail
  rw [HW3.out]
  refine (rdecode_any A n c l _ ((HR.out.below B3.out).more B3.out.size) hm).mono ?_
  rintro e w4 ⟨rfl, hw4⟩
  rw [HD.out.1, HD.out.2.1, HD.out.2.2]
  have hw4' := hw4.alloc hw4.size (.cells #[.int .i64 ds, .int .i64 dn] 23)
  have Z4 := Lib.hid (bx_new w4 ds dn)
  have z4 := size_alloc w4 (.cells #[.int .i64 ds, .int .i64 dn] 23)
  have z4' := hw4.size
  obtain ⟨W4, hW4⟩ : ∃ W, w4.alloc (.cells #[.int .i64 ds, .int .i64 dn] 23) = W := ⟨_, rfl⟩
  rw [hW4] at hw4' Z4 z4
  have Y4 := Lib.hid (Y3.out.below hw4' (by omega))
  have B4 := Lib.hid (B3.out.trans (hw4'.mono (by omega)))
  have HW4 := Lib.hid hW4
  have R4 := Lib.hid (reads_in (R3.out.below hw4'))
  have Z5 := reads_in ((Z3.out.below hw4' Z3.out.lt).reads (enc_bytes s m) (Nat.lt_of_lt_of_le Z3.out.lt hw4'.size))
  rw [enc_len] at Z5
  have R5 := Lib.hid Z5
  have HQ : Hid ((Lib.bytesOf (enc s m) == Lib.bytesOf (enc s m)) = true) := Lib.hid (by simp)
  clear Z5
  clear hw4 hw4' hW4 Y3 B3 R3 Z3
  obtain ⟨y0, y1, _, _, _⟩ := two_cells Y4.out
  obtain ⟨v0, v1, _, _, _⟩ := two_cells Z4.out
  go_wp2_with fail
  rw [HW4.out]
  refine (Tryd.bytes_Equal_all _ _ 10 10 10 c2 (enc s m) (enc s m) _ (enc_len s m) (enc_len s m) R5.out R4.out).mono ?_
  rintro e w' ⟨rfl, rfl⟩
  rw [HQ.out]
  go_wp2_with fail
  refine (awake4_any _).mono ?_
  rintro e w7 ⟨rfl, hw7⟩
  have B7 := Lib.hid (B4.out.trans (hw7.mono B4.out.size))
  clear hw7
  go_wp2_with fail
  go_ret
  exact ⟨rfl, B7.out⟩

set_option maxRecDepth 100000 in
theorem ptimeBytes_no (s m : Int) (A : Option Addr) (n c : Nat) (l : List Int) (w : World) (hr : BReads w w.heap.size A n l) (hm : n ≤ 9223372036854775807) (ho : ok s m = false) :
    Calls Tryd.prog 5 #[.agg #[.int .i64 s, .int .i64 m], .slice A n c] w fun e w' => e = .returned (.bool true) ∧ Below w.heap.size w w' := by
  have HO := Lib.hid ho
  have HR := Lib.hid hr
  clear ho hr
  have X0 := Lib.hid (bx_new w s m)
  have B0 := Lib.hid ((Below.refl w.heap.size w).alloc (Nat.le_refl _) (.cells #[.int .i64 s, .int .i64 m] 23))
  obtain ⟨W0, hW0⟩ : ∃ W, w.alloc (.cells #[.int .i64 s, .int .i64 m] 23) = W := ⟨_, rfl⟩
  have z0 := size_alloc w (.cells #[.int .i64 s, .int .i64 m] 23)
  rw [hW0] at X0 B0 z0
  have HW0 := Lib.hid hW0
  clear hW0
  obtain ⟨ds, hds⟩ : ∃ x, decS l = x := ⟨_, rfl⟩
  obtain ⟨dn, hdn⟩ : ∃ x, decN l = x := ⟨_, rfl⟩
  obtain ⟨de, hde⟩ : ∃ x, decE l = x := ⟨_, rfl⟩
  have HD := Lib.hid (And.intro hds (And.intro hdn hde))
  clear hds hdn hde
  go_enter Tryd.func5, Tryd.ntmps5
  go_wp2_with fail
  rw [HW0.out]
  refine (encode_no s m _ HO.out).mono ?_
  rintro e w1 ⟨rfl, hw1⟩
  have X1 := Lib.hid (X0.out.below hw1 (by omega))
  have B1 := Lib.hid (B0.out.trans (hw1.mono (by omega)))
  have z1 := hw1.size
  obtain ⟨x0, x1, _, _, _⟩ := two_cells X1.out
  clear hw1 X0 B0
  go_wp2_with fail
  refine (rencode_no s m _ HO.out).mono ?_
  rintro e w2 ⟨rfl, hw2⟩
  have B2 := Lib.hid (B1.out.trans (hw2.mono (by omega)))
  have z2 := hw2.size
  clear hw2 X1 B1 x0 x1
  go_wp2_with fail
  refine (decode_any A n c l _ ((HR.out.below B2.out).more B2.out.size) hm).mono ?_
  rintro e w3 ⟨rfl, hw3⟩
  rw [HD.out.1, HD.out.2.1, HD.out.2.2]
  have hw3' := hw3.alloc hw3.size (.cells #[.int .i64 ds, .int .i64 dn] 23)
  have Y3 := Lib.hid (bx_new w3 ds dn)
  have z3 := size_alloc w3 (.cells #[.int .i64 ds, .int .i64 dn] 23)
  have z3' := hw3.size
  obtain ⟨W3, hW3⟩ : ∃ W, w3.alloc (.cells #[.int .i64 ds, .int .i64 dn] 23) = W := ⟨_, rfl⟩
  rw [hW3] at hw3' Y3 z3
  have B3 := Lib.hid (B2.out.trans (hw3'.mono (by omega)))
  have HW3 := Lib.hid hW3
  clear hw3 hw3' hW3 B2
  go_wp2_with fail
  rw [HW3.out]
  refine (rdecode_any A n c l _ ((HR.out.below B3.out).more B3.out.size) hm).mono ?_
  rintro e w4 ⟨rfl, hw4⟩
  rw [HD.out.1, HD.out.2.1, HD.out.2.2]
  have hw4' := hw4.alloc hw4.size (.cells #[.int .i64 ds, .int .i64 dn] 23)
  have Z4 := Lib.hid (bx_new w4 ds dn)
  have z4 := size_alloc w4 (.cells #[.int .i64 ds, .int .i64 dn] 23)
  have z4' := hw4.size
  obtain ⟨W4, hW4⟩ : ∃ W, w4.alloc (.cells #[.int .i64 ds, .int .i64 dn] 23) = W := ⟨_, rfl⟩
  rw [hW4] at hw4' Z4 z4
  have Y4 := Lib.hid (Y3.out.below hw4' (by omega))
  have B4 := Lib.hid (B3.out.trans (hw4'.mono (by omega)))
  have HW4 := Lib.hid hW4
  have HQ : Hid ((Lib.bytesOf [] == Lib.bytesOf []) = true) := Lib.hid (by decide)
  clear hw4 hw4' hW4 Y3 B3
  obtain ⟨y0, y1, _, _, _⟩ := two_cells Y4.out
  obtain ⟨v0, v1, _, _, _⟩ := two_cells Z4.out
  go_wp2_with fail
  rw [HW4.out]
  refine (Tryd.bytes_Equal_all none none 0 0 0 0 [] [] _ rfl rfl (Lib.BytesIn.nil _ _ _) (Lib.BytesIn.nil _ _ _)).mono ?_
  rintro e w' ⟨rfl, rfl⟩
  rw [HQ.out]
  go_wp2_with fail
  refine (awake4_any _).mono ?_
  rintro e w7 ⟨rfl, hw7⟩
  have B7 := Lib.hid (B4.out.trans (hw7.mono B4.out.size))
  clear hw7
  go_wp2_with fail
  go_ret
  exact ⟨rfl, B7.out⟩

theorem ptimeBytes_walk (s m : Int) (A : Option Addr) (n c : Nat) (l : List Int) (w : World) (hr : BReads w w.heap.size A n l) (hm : n ≤ 9223372036854775807) :
    Calls Tryd.prog 5 #[.agg #[.int .i64 s, .int .i64 m], .slice A n c] w fun e w' => e = .returned (.bool true) ∧ Below w.heap.size w w' := by
  rcases ho : ok s m with _ | _
  · exact ptimeBytes_no s m A n c l w hr hm ho
  · exact ptimeBytes_yes s m A n c l w hr hm ho
end Go.Proofs.YtemflgjfoappaaaDoor
