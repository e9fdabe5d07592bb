/- The walks of PtimeInstants and PtimeCorrections. -/
import Derived.Test.YtemflgjfoappaaaDoorPtmF
import Derived.Deep.RegionHeld3
namespace Go.Proofs.YtemflgjfoappaaaDoor
open Go.RowKit Fx Pt Wi

set_option maxRecDepth 100000 in
theorem ptimeInstants_walk (s n t : Int) (w : World) (t0 : -9223372036854775808 ≤ t) (t1 : t ≤ 9223372036854775807) :
    Calls Tryd.prog 3 #[.agg #[.int .i64 s, .int .i64 n], .int .i64 t] w fun e w' => e = .returned (.bool true) ∧ Below w.heap.size w w' := by
  have X0 := Lib.hid (bx_new w s n)
  have B0 := Lib.hid ((Below.refl w.heap.size w).alloc (Nat.le_refl _) (.cells #[.int .i64 s, .int .i64 n] 23))
  obtain ⟨W0, hW0⟩ : ∃ W, w.alloc (.cells #[.int .i64 s, .int .i64 n] 23) = W := ⟨_, rfl⟩
  have z0 := size_alloc w (.cells #[.int .i64 s, .int .i64 n] 23)
  rw [hW0] at X0 B0 z0
  have HW0 := Lib.hid hW0
  clear hW0
  obtain ⟨cs, hcs⟩ : ∃ x, ofS t = x := ⟨_, rfl⟩
  obtain ⟨cn, hcn⟩ : ∃ x, ofN t = x := ⟨_, rfl⟩
  have HCS := Lib.hid hcs
  have HCN := Lib.hid hcn
  clear hcs hcn
  go_enter Tryd.func3, Tryd.ntmps3
  go_wp2_with fail
  rw [HW0.out]
  refine (ptime_any s n _).mono ?_
  rintro e w1 ⟨rfl, hw1⟩
  have X1 := Lib.hid (X0.out.below hw1 (by omega))
  have B1 := Lib.hid (B0.out.trans (hw1.mono (by omega)))
  have z1 := hw1.size
  obtain ⟨x10, x11, _, _, _⟩ := two_cells X1.out
  clear hw1 X0 B0
  go_wp2_with fail
  refine (prtime_any s n _).mono ?_
  rintro e w2 ⟨rfl, hw2⟩
  have X2 := Lib.hid (X1.out.below hw2 (by omega))
  have B2 := Lib.hid (B1.out.trans (hw2.mono (by omega)))
  have z2 := hw2.size
  clear hw2 X1 B1 x10 x11
  go_wp2_with fail
  refine (pof_any t _ t0 t1).mono ?_
  rintro e w3 ⟨rfl, hw3⟩
  rw [HCS.out, HCN.out]
  have hw3' := hw3.alloc hw3.size (.cells #[.int .i64 cs, .int .i64 cn] 23)
  have Y3 := Lib.hid (bx_new w3 cs cn)
  have z3 := size_alloc w3 (.cells #[.int .i64 cs, .int .i64 cn] 23)
  have z3' := hw3.size
  obtain ⟨W3, hW3⟩ : ∃ W, w3.alloc (.cells #[.int .i64 cs, .int .i64 cn] 23) = W := ⟨_, rfl⟩
  rw [hW3] at hw3' Y3 z3
  have X3 := Lib.hid (X2.out.below hw3' (by omega))
  have B3 := Lib.hid (B2.out.trans (hw3'.mono (by omega)))
  have HW3 := Lib.hid hW3
  clear hw3 hw3' hW3 X2 B2
  go_wp2_with fail
  rw [HW3.out]
  refine (prof_any t _ t0 t1).mono ?_
  rintro e w4 ⟨rfl, hw4⟩
  rw [HCS.out, HCN.out]
  have hw4' := hw4.alloc hw4.size (.cells #[.int .i64 cs, .int .i64 cn] 23)
  have Z4 := Lib.hid (bx_new w4 cs cn)
  have z4 := size_alloc w4 (.cells #[.int .i64 cs, .int .i64 cn] 23)
  have z4' := hw4.size
  obtain ⟨W4, hW4⟩ : ∃ W, w4.alloc (.cells #[.int .i64 cs, .int .i64 cn] 23) = W := ⟨_, rfl⟩
  rw [hW4] at hw4' Z4 z4
  have X4 := Lib.hid (X3.out.below hw4' (by omega))
  have Y4 := Lib.hid (Y3.out.below hw4' (by omega))
  have B4 := Lib.hid (B3.out.trans (hw4'.mono (by omega)))
  have HW4 := Lib.hid hW4
  clear hw4 hw4' hW4 X3 Y3 B3
  obtain ⟨x0, x1, _, _, _⟩ := two_cells X4.out
  obtain ⟨y0, y1, _, _, _⟩ := two_cells Y4.out
  obtain ⟨v0, v1, _, _, _⟩ := two_cells Z4.out
  go_wp2_with fail
  rw [HW4.out]
  have l0 : w.heap.size < W4.heap.size := X4.out.lt
  have l1 : w3.heap.size < W4.heap.size := Y4.out.lt
  have l2 : w4.heap.size < W4.heap.size := Z4.out.lt
  obtain ⟨V, hV⟩ : ∃ V, timV s n = V := ⟨_, rfl⟩
  obtain ⟨E, hE⟩ : ∃ E, timE s n = E := ⟨_, rfl⟩
  obtain ⟨O, hO⟩ : ∃ O, ofE t = O := ⟨_, rfl⟩
  obtain ⟨C, hC⟩ : ∃ C, chk s n = C := ⟨_, rfl⟩
  rw [hV, hE, hO]
  have HC := Lib.hid hC
  clear hV hE hO hC X4 Y4 Z4
  have hq := ((Below.refl W4.heap.size W4).alloc (Nat.le_refl _) (.cells #[.int .i64 s, .int .i64 n] 23)).alloc (by simp) (.cells #[.int .i64 s, .int .i64 n] 23)
  go_region_held3 (fun w' => w'.cell? ⟨w.heap.size, 0, none⟩ = some (.int .i64 s) ∧ w'.cell? ⟨w.heap.size, 1, none⟩ = some (.int .i64 n) ∧ w'.cell? ⟨w3.heap.size, 0, none⟩ = some (.int .i64 cs) ∧ w'.cell? ⟨w3.heap.size, 1, none⟩ = some (.int .i64 cn) ∧ w'.cell? ⟨w4.heap.size, 0, none⟩ = some (.int .i64 cs) ∧ w'.cell? ⟨w4.heap.size, 1, none⟩ = some (.int .i64 cn)) (go_keep)
    (first
      | (go_at_call 10; refine (pcheck_any s n _).mono ?_; rintro e w' ⟨rfl, rfl⟩; rw [HC.out])
      | (go_at_call 11; refine (prcheck_any s n _).mono ?_; rintro e w' ⟨rfl, rfl⟩; rw [HC.out])
      | (go_at_call 12; refine (awake4_any _).mono ?_; rintro e w7 ⟨rfl, hw7⟩; have h7 := hw7.mono (show W4.heap.size ≤ _ by simp; omega); have hB7 : Below W4.heap.size W4 w7 := hq.drew.trans h7; have B7 := Lib.hid (B4.out.trans (hB7.mono B4.out.size)); have q0 := (hB7.cell (p := ⟨w.heap.size, 0, none⟩) l0).trans x0; have q1 := (hB7.cell (p := ⟨w.heap.size, 1, none⟩) l0).trans x1; have q2 := (hB7.cell (p := ⟨w3.heap.size, 0, none⟩) l1).trans y0; have q3 := (hB7.cell (p := ⟨w3.heap.size, 1, none⟩) l1).trans y1; have q4 := (hB7.cell (p := ⟨w4.heap.size, 0, none⟩) l2).trans v0; have q5 := (hB7.cell (p := ⟨w4.heap.size, 1, none⟩) l2).trans v1; clear hw7 h7 hB7))
  go_wp2_with fail
  go_ret
  exact ⟨rfl, B7.out⟩
end Go.Proofs.YtemflgjfoappaaaDoor
