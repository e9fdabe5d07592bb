/- Contracts of layer 4: Parse of what is no text. -/
import Derived.Test.YtemflgjfoappaabDoorPtmY
namespace Go.Proofs.YtemflgjfoappaabDoor
open Go.RowKit Fx Pt Wi

theorem Pt.bytes_ne {a b : ByteArray} (h : a ≠ b) : (a.toList == b.toList) = false := by
  rw [beq_eq_false_iff_ne]
  intro e
  rw [ByteArray.toList_eq, ByteArray.toList_eq] at e
  exact h (ByteArray.ext (Array.toList_inj.1 e))

set_option maxRecDepth 100000 in
theorem parse_no (x : ByteArray) (w : World) (hs : x.size ≤ 281474976710656) (hx : NoTxt x) (ht : Tab w) (he : Errs w) :
    Calls Tryd.prog 9 #[.string x] w fun e w' => e = .returned (.tuple #[.agg #[.int .i64 0, .int .i64 0], .int .i64 19]) ∧ Below w.heap.size w w' := by
  have HE := Lib.hid (fun h : x = ⟨#[]⟩ => empty_cut h)
  have HX := Lib.hid hx
  have hb := cut_size x
  obtain ⟨yb, hyb⟩ : ∃ y, cutB x = y := ⟨_, rfl⟩
  obtain ⟨ya, hya⟩ : ∃ y, cutA x = y := ⟨_, rfl⟩
  rw [hyb] at hb HE
  rw [hya] at hb
  obtain ⟨hb1, hb2⟩ := hb
  have HYB := Lib.hid hyb
  have HYA := Lib.hid hya
  have X0 := Lib.hid (bx_new w 0 0)
  have B0 := Lib.hid ((Below.refl w.heap.size w).alloc (Nat.le_refl _) (.cells #[.int .i64 0, .int .i64 0] 23))
  obtain ⟨W0, hW0⟩ : ∃ W, w.alloc (.cells #[.int .i64 0, .int .i64 0] 23) = W := ⟨_, rfl⟩
  have z0 := size_alloc w (.cells #[.int .i64 0, .int .i64 0] 23)
  rw [hW0] at X0 B0 z0
  have HW0 := Lib.hid hW0
  have T0 := Lib.hid (ht.below B0.out)
  have E0 := Lib.hid (he.below B0.out)
  clear hx hyb hya hW0 ht he
  go_enter Tryd.func9, Tryd.ntmps9
  go_wp2_with fail
  rw [HW0.out]
  refine (cut_below x _ (by omega)).mono ?_
  rintro e w1 ⟨rfl, hw1⟩
  rw [HYB.out, HYA.out]
  have X1 := Lib.hid (X0.out.below hw1 (by omega))
  have B1 := Lib.hid (B0.out.trans (hw1.mono (by omega)))
  have T1 := Lib.hid (T0.out.below hw1)
  have E1 := Lib.hid (E0.out.below hw1)
  have z1 := hw1.size
  clear hw1 X0 B0 T0 E0
  go_wp2_with fail
  refine (atoi_any yb _ (by omega) E1.out).mono ?_
  rintro e w2 ⟨hw2, hp⟩
  have X2 := Lib.hid (X1.out.below hw2 (by omega))
  have B2 := Lib.hid (B1.out.trans (hw2.mono (by omega)))
  have T2 := Lib.hid (T1.out.below hw2)
  have E2 := Lib.hid (E1.out.below hw2)
  have z2 := hw2.size
  clear hw2 X1 B1 T1 E1
  rcases hp with ⟨v1, h1, rfl⟩ | ⟨v1, t1, p1, _, rfl⟩
  · have H1 := Lib.hid h1
    clear h1
    go_wp2_with fail
    refine (atoi_any ya _ (by omega) E2.out).mono ?_
    rintro e w3 ⟨hw3, hp⟩
    rcases hp with ⟨v2, h2, rfl⟩ | ⟨v2, t2, p2, _, rfl⟩
    · clear h2
      have hw3' := hw3.alloc hw3.size (.cells #[.int .i64 v1, .int .i64 v2] 23)
      have Y3 := Lib.hid (bx_new w3 v1 v2)
      have z3 := size_alloc w3 (.cells #[.int .i64 v1, .int .i64 v2] 23)
      have z3' := hw3.size
      obtain ⟨W3, hW3⟩ : ∃ W, w3.alloc (.cells #[.int .i64 v1, .int .i64 v2] 23) = W := ⟨_, rfl⟩
      rw [hW3] at hw3' Y3 z3
      have X3 := Lib.hid (X2.out.below hw3' (by omega))
      have B3 := Lib.hid (B2.out.trans (hw3'.mono (by omega)))
      have T3 := Lib.hid (T2.out.below hw3')
      have HW3 := Lib.hid hW3
      clear hw3 hw3' hW3 X2 B2 T2 E2
      obtain ⟨y0, y1, _, _, _⟩ := two_cells Y3.out
      have hne : txt v1 v2 ≠ x := by
        rcases ho : ok v1 v2 with _ | _
        · intro h
          have h0 : x = ⟨#[]⟩ := by rw [← h]; unfold txt; rw [ho]; rfl
          exact HE.out h0 v1 H1.out
        · exact HX.out v1 v2 ho
      obtain ⟨T, hT⟩ : ∃ T, txt v1 v2 = T := ⟨_, rfl⟩
      rw [hT] at hne
      have hne' : (T.toList == x.toList) = false := bytes_ne hne
      have HT := Lib.hid hT
      clear hT hne
      go_wp2_with fail
      rw [HW3.out]
      refine (ptext_any v1 v2 _ T3.out).mono ?_
      rintro e w4 ⟨rfl, hw4⟩
      rw [HT.out]
      have X4 := Lib.hid (X3.out.below hw4 (by omega))
      have B4 := Lib.hid (B3.out.trans (hw4.mono B3.out.size))
      have z4 := hw4.size
      obtain ⟨x0, x1, f0, f1, _⟩ := two_cells X4.out
      obtain ⟨c0, c1, _, _, _⟩ := two_cells (bx_store X4.out 0 0)
      clear hw4 X3 Y3 B3 T3 y0 y1
      go_wp2_with fail
      exact bodyPost_ret (v := .tuple #[.agg #[.int .i64 0, .int .i64 0], .int .i64 19]) (by simp [results, Tryd.results9, go_sem, c0, c1]) rfl ⟨rfl, (B4.out.setCell (Nat.le_refl _) _).setCell (Nat.le_refl _) _⟩
    · have hw3' := hw3.alloc hw3.size (.cells #[.int .i64 v1, .int .i64 v2] 23)
      obtain ⟨W3, hW3⟩ : ∃ W, w3.alloc (.cells #[.int .i64 v1, .int .i64 v2] 23) = W := ⟨_, rfl⟩
      rw [hW3] at hw3'
      have X3 := Lib.hid (X2.out.below hw3' (by omega))
      have B3 := Lib.hid (B2.out.trans (hw3'.mono (by omega)))
      have HW3 := Lib.hid hW3
      have z3' := hw3.size
      obtain ⟨x0, x1, f0, f1, _⟩ := two_cells X3.out
      rw [← HW3.out] at x0 x1 f0 f1
      clear hw3 hw3' hW3 X2 B2 T2 E2
      obtain ⟨c0, c1, _, _, _⟩ := two_cells (bx_store X3.out 0 0)
      rw [← HW3.out] at c0 c1
      go_wp2_with fail
      exact bodyPost_ret (v := .tuple #[.agg #[.int .i64 0, .int .i64 0], .int .i64 19]) (by simp [results, Tryd.results9, go_sem, c0, c1]) rfl ⟨rfl, ((by rw [HW3.out]; exact B3.out : Below w.heap.size w (w3.alloc (.cells #[.int .i64 v1, .int .i64 v2] 23))).setCell (Nat.le_refl _) _).setCell (Nat.le_refl _) _⟩
  · go_wp2_with fail
    refine (atoi_any ya _ (by omega) E2.out).mono ?_
    rintro e w3 ⟨hw3, hp⟩
    rcases hp with ⟨v2, h2, rfl⟩ | ⟨v2, t2, p2, _, rfl⟩
    · clear h2
      have hw3' := hw3.alloc hw3.size (.cells #[.int .i64 v1, .int .i64 v2] 23)
      obtain ⟨W3, hW3⟩ : ∃ W, w3.alloc (.cells #[.int .i64 v1, .int .i64 v2] 23) = W := ⟨_, rfl⟩
      rw [hW3] at hw3'
      have X3 := Lib.hid (X2.out.below hw3' (by omega))
      have B3 := Lib.hid (B2.out.trans (hw3'.mono (by omega)))
      have HW3 := Lib.hid hW3
      have z3' := hw3.size
      obtain ⟨x0, x1, f0, f1, _⟩ := two_cells X3.out
      rw [← HW3.out] at x0 x1 f0 f1
      clear hw3 hw3' hW3 X2 B2 T2 E2
      obtain ⟨c0, c1, _, _, _⟩ := two_cells (bx_store X3.out 0 0)
      rw [← HW3.out] at c0 c1
      go_wp2_with fail
      exact bodyPost_ret (v := .tuple #[.agg #[.int .i64 0, .int .i64 0], .int .i64 19]) (by simp [results, Tryd.results9, go_sem, c0, c1]) rfl ⟨rfl, ((by rw [HW3.out]; exact B3.out : Below w.heap.size w (w3.alloc (.cells #[.int .i64 v1, .int .i64 v2] 23))).setCell (Nat.le_refl _) _).setCell (Nat.le_refl _) _⟩
    · have hw3' := hw3.alloc hw3.size (.cells #[.int .i64 v1, .int .i64 v2] 23)
      obtain ⟨W3, hW3⟩ : ∃ W, w3.alloc (.cells #[.int .i64 v1, .int .i64 v2] 23) = W := ⟨_, rfl⟩
      rw [hW3] at hw3'
      have X3 := Lib.hid (X2.out.below hw3' (by omega))
      have B3 := Lib.hid (B2.out.trans (hw3'.mono (by omega)))
      have HW3 := Lib.hid hW3
      have z3' := hw3.size
      obtain ⟨x0, x1, f0, f1, _⟩ := two_cells X3.out
      rw [← HW3.out] at x0 x1 f0 f1
      clear hw3 hw3' hW3 X2 B2 T2 E2
      obtain ⟨c0, c1, _, _, _⟩ := two_cells (bx_store X3.out 0 0)
      rw [← HW3.out] at c0 c1
      go_wp2_with fail
      exact bodyPost_ret (v := .tuple #[.agg #[.int .i64 0, .int .i64 0], .int .i64 19]) (by simp [results, Tryd.results9, go_sem, c0, c1]) rfl ⟨rfl, ((by rw [HW3.out]; exact B3.out : Below w.heap.size w (w3.alloc (.cells #[.int .i64 v1, .int .i64 v2] 23))).setCell (Nat.le_refl _) _).setCell (Nat.le_refl _) _⟩
end Go.Proofs.YtemflgjfoappaabDoor
