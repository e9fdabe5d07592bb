/- Contracts of layer 10: the program's moves. -/
import Derived.Test.YtjcpfkibaohjjaaClkC
import Derived.Deep.RegionLaw
namespace Go.Proofs.Ytjcpfkibaohjjaa
open Go.RowKit Fx Ck

theorem moved_early (r t p l q s raw : Int) (w : World) (h : raw < r) :
    Calls Try.prog 32 #[.agg #[.int .i64 r, .int .i64 t, .int .i64 p, .int .i64 l, .int .i64 q, .int .i64 s], .int .i64 raw] w fun x w' => x = .returned (.tuple #[.agg #[.int .i64 0, .int .i64 0, .int .i64 0, .int .i64 0, .int .i64 0, .int .i64 0], .int .i64 12]) ∧ Below w.heap.size w w' := by
  go_enter Try.func32, Try.ntmps32
  go_wp2
  exact bodyPost_ret (v := .tuple #[.agg #[.int .i64 0, .int .i64 0, .int .i64 0, .int .i64 0, .int .i64 0, .int .i64 0], .int .i64 12]) (by simp [results, Try.results32, go_sem]) rfl ⟨rfl, ((Below.refl _ _).alloc (Nat.le_refl _) _).alloc (by simp) _⟩
theorem moved_late (r t p l q s raw : Int) (w : World) (h0 : r ≤ raw) (h : 4503599627370496 < raw) :
    Calls Try.prog 32 #[.agg #[.int .i64 r, .int .i64 t, .int .i64 p, .int .i64 l, .int .i64 q, .int .i64 s], .int .i64 raw] w fun x w' => x = .returned (.tuple #[.agg #[.int .i64 0, .int .i64 0, .int .i64 0, .int .i64 0, .int .i64 0, .int .i64 0], .int .i64 3]) ∧ Below w.heap.size w w' := by
  have h1 : ¬ raw < r := by omega
  go_enter Try.func32, Try.ntmps32
  go_wp2
  exact bodyPost_ret (v := .tuple #[.agg #[.int .i64 0, .int .i64 0, .int .i64 0, .int .i64 0, .int .i64 0, .int .i64 0], .int .i64 3]) (by simp [results, Try.results32, go_sem]) rfl ⟨rfl, ((Below.refl _ _).alloc (Nat.le_refl _) _).alloc (by simp) _⟩
set_option maxRecDepth 100000 in
theorem moved_far (r t p l q s raw : Int) (w : World) (hr : -4503599627370496 ≤ r ∧ r ≤ 4503599627370496) (ht : -4503599627370496 ≤ t ∧ t ≤ 4503599627370496) (hl : -4503599627370496 ≤ l ∧ l ≤ 4503599627370496) (hp : -500000 ≤ p ∧ p ≤ 500000) (hq : 0 ≤ q ∧ q ≤ 500000) (hlq : l = 0 ∨ 0 < q) (h0 : r ≤ raw) (h1 : raw ≤ 4503599627370496) (hw : win (shn t p l q (raw - r)) 4503599627370496 = false) :
    Calls Try.prog 32 #[.agg #[.int .i64 r, .int .i64 t, .int .i64 p, .int .i64 l, .int .i64 q, .int .i64 s], .int .i64 raw] w fun x w' => x = .returned (.tuple #[.agg #[.int .i64 0, .int .i64 0, .int .i64 0, .int .i64 0, .int .i64 0, .int .i64 0], .int .i64 3]) ∧ Below w.heap.size w w' := by
  have hd : ¬ raw < r := by omega
  have hd2 : ¬ 4503599627370496 < raw := by omega
  have tb := shn_bound ht hp hq hlq (show 0 ≤ raw - r by omega) (by omega)
  obtain ⟨T, hT⟩ : ∃ T, shn t p l q (raw - r) = T := ⟨_, rfl⟩
  rw [hT] at hw tb
  have HT := Lib.hid hT
  have HR := Lib.hid (And.intro ht (And.intro hl (And.intro hp (And.intro hq (And.intro hlq (show 0 ≤ raw - r ∧ raw - r ≤ 9007199254740992 by omega))))))
  have hw' := hw
  obtain ⟨tb0, tb1⟩ := tb
  obtain ⟨r0, r1⟩ := hr
  clear hT ht hl hp hq hlq hw'
  have BB := Lib.hid (Below.refl w.heap.size w)
  have Na1 : Hid (KB 23 (w.alloc (.cells #[.int .i64 r, .int .i64 t, .int .i64 p, .int .i64 l, .int .i64 q, .int .i64 s] 23)) w.heap.size ⟨r, t, p, l, q, s⟩) := Lib.hid (kb_new _ w r t p l q s)
  have E1 := Lib.hid (BB.out.alloc BB.out.size (.cells #[.int .i64 r, .int .i64 t, .int .i64 p, .int .i64 l, .int .i64 q, .int .i64 s] 23))
  have hs1 := BB.out.size
  obtain ⟨S1, hS1⟩ : ∃ W, w.alloc (.cells #[.int .i64 r, .int .i64 t, .int .i64 p, .int .i64 l, .int .i64 q, .int .i64 s] 23) = W := ⟨_, rfl⟩
  have hsz1 : S1.heap.size = w.heap.size + 1 := by rw [← hS1]; simp
  have HSZ1 := Lib.hid hsz1
  have hle1 : w.heap.size < S1.heap.size := by omega
  clear hsz1
  rw [hS1] at Na1 E1
  clear BB
  have Nb2 : Hid (KB 23 (S1.alloc (.cells #[.int .i64 0, .int .i64 0, .int .i64 0, .int .i64 0, .int .i64 0, .int .i64 0] 23)) S1.heap.size ⟨0, 0, 0, 0, 0, 0⟩) := Lib.hid (kb_new _ S1 0 0 0 0 0 0)
  have la2 := Na1.out.lt
  have Na2 := Lib.hid (Na1.out.alloc (.cells #[.int .i64 0, .int .i64 0, .int .i64 0, .int .i64 0, .int .i64 0, .int .i64 0] 23))
  have E2 := Lib.hid (E1.out.alloc E1.out.size (.cells #[.int .i64 0, .int .i64 0, .int .i64 0, .int .i64 0, .int .i64 0, .int .i64 0] 23))
  have hs2 := E1.out.size
  obtain ⟨S2, hS2⟩ : ∃ W, S1.alloc (.cells #[.int .i64 0, .int .i64 0, .int .i64 0, .int .i64 0, .int .i64 0, .int .i64 0] 23) = W := ⟨_, rfl⟩
  have hsz2 : S2.heap.size = S1.heap.size + 1 := by rw [← hS2]; simp
  have HSZ2 := Lib.hid hsz2
  have hle2 : S1.heap.size < S2.heap.size := by omega
  clear hsz2
  rw [hS2] at Nb2 Na2 E2
  clear Na1 E1
  obtain ⟨c3_0, c3_1, c3_2, c3_3, c3_4, c3_5⟩ := Na2.out.cells
  obtain ⟨c4_0, c4_1, c4_2, c4_3, c4_4, c4_5⟩ := Nb2.out.cells
  go_enter Try.func32, Try.ntmps32
  go_wp2_with fail
  clear hS1 hS2 c3_0 c3_1 c3_2 c3_3 c3_4 c3_5 c4_0 c4_1 c4_2 c4_3 c4_4 c4_5
  refine (shown_any r t p l q s (raw - r) _ HR.out.1 HR.out.2.1 HR.out.2.2.1 HR.out.2.2.2.1 HR.out.2.2.2.2.1 HR.out.2.2.2.2.2.1 HR.out.2.2.2.2.2.2).mono ?_
  rintro e w5 ⟨rfl, hb⟩
  have Xa5 := Lib.hid (Na2.out.below hb Na2.out.lt)
  have Xb5 := Lib.hid (Nb2.out.below hb Nb2.out.lt)
  have B5 := Lib.hid (E2.out.trans (hb.mono E2.out.size))
  have hz5 := hb.size
  clear hb Na2 Nb2 E2
  rw [HT.out]
  have r6 := Xa5.out.cells.2.1
  have g6 := Xa5.out.thaw.2.1
  have Na6 : Hid (KB 23 (w5.setCell ⟨w.heap.size, 1, none⟩ (.int .i64 T)) w.heap.size ⟨r, T, p, l, q, s⟩) := Lib.hid (Xa5.out.set1 T)
  have Nb6 := Lib.hid (Xb5.out.other (D := w.heap.size) (i := 1) (by omega) (.int .i64 T))
  have E6 := Lib.hid (below_set (C := w.heap.size) (i := 1) B5.out (by omega) (.int .i64 T))
  obtain ⟨S6, hS6⟩ : ∃ W, w5.setCell ⟨w.heap.size, 1, none⟩ (.int .i64 T) = W := ⟨_, rfl⟩
  rw [hS6] at Na6 Nb6 E6
  clear Xa5 Xb5 B5
  obtain ⟨c7_0, c7_1, c7_2, c7_3, c7_4, c7_5⟩ := Na6.out.cells
  go_wp2_with fail
  clear r6 g6 hS6 c7_0 c7_1 c7_2 c7_3 c7_4 c7_5
  refine (win_any T 4503599627370496 _ (by decide) (by decide)).mono ?_
  rintro e w' ⟨rfl, rfl⟩
  have r8 := Nb6.out.cells.1
  have g8 := Nb6.out.thaw.1
  have Nb8 : Hid (KB 23 (S6.setCell ⟨S1.heap.size, 0, none⟩ (.int .i64 0)) S1.heap.size ⟨0, 0, 0, 0, 0, 0⟩) := Lib.hid (Nb6.out.set0 0)
  have Na8 := Lib.hid (Na6.out.other (D := S1.heap.size) (i := 0) (by omega) (.int .i64 0))
  have E8 := Lib.hid (below_set (C := S1.heap.size) (i := 0) E6.out (by omega) (.int .i64 0))
  obtain ⟨S8, hS8⟩ : ∃ W, S6.setCell ⟨S1.heap.size, 0, none⟩ (.int .i64 0) = W := ⟨_, rfl⟩
  rw [hS8] at Nb8 Na8 E8
  clear Na6 Nb6 E6
  have r9 := Nb8.out.cells.2.1
  have g9 := Nb8.out.thaw.2.1
  have Nb9 : Hid (KB 23 (S8.setCell ⟨S1.heap.size, 1, none⟩ (.int .i64 0)) S1.heap.size ⟨0, 0, 0, 0, 0, 0⟩) := Lib.hid (Nb8.out.set1 0)
  have Na9 := Lib.hid (Na8.out.other (D := S1.heap.size) (i := 1) (by omega) (.int .i64 0))
  have E9 := Lib.hid (below_set (C := S1.heap.size) (i := 1) E8.out (by omega) (.int .i64 0))
  obtain ⟨S9, hS9⟩ : ∃ W, S8.setCell ⟨S1.heap.size, 1, none⟩ (.int .i64 0) = W := ⟨_, rfl⟩
  rw [hS9] at Nb9 Na9 E9
  clear Na8 Nb8 E8
  have r10 := Nb9.out.cells.2.2.1
  have g10 := Nb9.out.thaw.2.2.1
  have Nb10 : Hid (KB 23 (S9.setCell ⟨S1.heap.size, 2, none⟩ (.int .i64 0)) S1.heap.size ⟨0, 0, 0, 0, 0, 0⟩) := Lib.hid (Nb9.out.set2 0)
  have Na10 := Lib.hid (Na9.out.other (D := S1.heap.size) (i := 2) (by omega) (.int .i64 0))
  have E10 := Lib.hid (below_set (C := S1.heap.size) (i := 2) E9.out (by omega) (.int .i64 0))
  obtain ⟨S10, hS10⟩ : ∃ W, S9.setCell ⟨S1.heap.size, 2, none⟩ (.int .i64 0) = W := ⟨_, rfl⟩
  rw [hS10] at Nb10 Na10 E10
  clear Na9 Nb9 E9
  have r11 := Nb10.out.cells.2.2.2.1
  have g11 := Nb10.out.thaw.2.2.2.1
  have Nb11 : Hid (KB 23 (S10.setCell ⟨S1.heap.size, 3, none⟩ (.int .i64 0)) S1.heap.size ⟨0, 0, 0, 0, 0, 0⟩) := Lib.hid (Nb10.out.set3 0)
  have Na11 := Lib.hid (Na10.out.other (D := S1.heap.size) (i := 3) (by omega) (.int .i64 0))
  have E11 := Lib.hid (below_set (C := S1.heap.size) (i := 3) E10.out (by omega) (.int .i64 0))
  obtain ⟨S11, hS11⟩ : ∃ W, S10.setCell ⟨S1.heap.size, 3, none⟩ (.int .i64 0) = W := ⟨_, rfl⟩
  rw [hS11] at Nb11 Na11 E11
  clear Na10 Nb10 E10
  have r12 := Nb11.out.cells.2.2.2.2.1
  have g12 := Nb11.out.thaw.2.2.2.2.1
  have Nb12 : Hid (KB 23 (S11.setCell ⟨S1.heap.size, 4, none⟩ (.int .i64 0)) S1.heap.size ⟨0, 0, 0, 0, 0, 0⟩) := Lib.hid (Nb11.out.set4 0)
  have Na12 := Lib.hid (Na11.out.other (D := S1.heap.size) (i := 4) (by omega) (.int .i64 0))
  have E12 := Lib.hid (below_set (C := S1.heap.size) (i := 4) E11.out (by omega) (.int .i64 0))
  obtain ⟨S12, hS12⟩ : ∃ W, S11.setCell ⟨S1.heap.size, 4, none⟩ (.int .i64 0) = W := ⟨_, rfl⟩
  rw [hS12] at Nb12 Na12 E12
  clear Na11 Nb11 E11
  have r13 := Nb12.out.cells.2.2.2.2.2
  have g13 := Nb12.out.thaw.2.2.2.2.2
  have Nb13 : Hid (KB 23 (S12.setCell ⟨S1.heap.size, 5, none⟩ (.int .i64 0)) S1.heap.size ⟨0, 0, 0, 0, 0, 0⟩) := Lib.hid (Nb12.out.set5 0)
  have Na13 := Lib.hid (Na12.out.other (D := S1.heap.size) (i := 5) (by omega) (.int .i64 0))
  have E13 := Lib.hid (below_set (C := S1.heap.size) (i := 5) E12.out (by omega) (.int .i64 0))
  obtain ⟨S13, hS13⟩ : ∃ W, S12.setCell ⟨S1.heap.size, 5, none⟩ (.int .i64 0) = W := ⟨_, rfl⟩
  rw [hS13] at Nb13 Na13 E13
  clear Na12 Nb12 E12
  obtain ⟨c14_0, c14_1, c14_2, c14_3, c14_4, c14_5⟩ := Nb13.out.cells
  go_wp2_with fail
  exact bodyPost_ret (v := .tuple #[.agg #[.int .i64 0, .int .i64 0, .int .i64 0, .int .i64 0, .int .i64 0, .int .i64 0], .int .i64 3]) (by simp [results, Try.results32, go_sem, c14_0, c14_1, c14_2, c14_3, c14_4, c14_5]) rfl ⟨rfl, E13.out⟩
set_option maxRecDepth 100000 in
theorem moved_left (r t p l q s raw : Int) (w : World) (hr : -4503599627370496 ≤ r ∧ r ≤ 4503599627370496) (ht : -4503599627370496 ≤ t ∧ t ≤ 4503599627370496) (hl : -4503599627370496 ≤ l ∧ l ≤ 4503599627370496) (hp : -500000 ≤ p ∧ p ≤ 500000) (hq : 0 ≤ q ∧ q ≤ 500000) (hlq : l = 0 ∨ 0 < q) (h0 : r ≤ raw) (h1 : raw ≤ 4503599627370496) (hw : win (shn t p l q (raw - r)) 4503599627370496 = true) (hz : ¬ l - slw l q (raw - r) = 0) :
    Calls Try.prog 32 #[.agg #[.int .i64 r, .int .i64 t, .int .i64 p, .int .i64 l, .int .i64 q, .int .i64 s], .int .i64 raw] w fun x w' => x = .returned (.tuple #[.agg #[.int .i64 raw, .int .i64 ((shn t p l q (raw - r))), .int .i64 p, .int .i64 ((l - slw l q (raw - r))), .int .i64 q, .int .i64 s], .int .i64 0]) ∧ Below w.heap.size w w' := by
  have sb := slw_bound (l := l) (q := q) (e := raw - r) hl (by omega) (by omega) hq.1 hq.2
  obtain ⟨Z, hZ⟩ : ∃ Z, slw l q (raw - r) = Z := ⟨_, rfl⟩
  rw [hZ] at sb hz
  obtain ⟨Y, hY⟩ : ∃ Y, l - Z = Y := ⟨_, rfl⟩
  rw [hY] at hz
  obtain ⟨z0, z1⟩ := sb
  have HY := Lib.hid hY
  have HZZ := Lib.hid hZ
  have HL := Lib.hid hl
  have y1 : (Y == 0) = false := by simpa using hz
  have hd : ¬ raw < r := by omega
  have hd2 : ¬ 4503599627370496 < raw := by omega
  have tb := shn_bound ht hp hq hlq (show 0 ≤ raw - r by omega) (by omega)
  obtain ⟨T, hT⟩ : ∃ T, shn t p l q (raw - r) = T := ⟨_, rfl⟩
  rw [hT] at hw tb
  have HT := Lib.hid hT
  have HR := Lib.hid (And.intro ht (And.intro hl (And.intro hp (And.intro hq (And.intro hlq (show 0 ≤ raw - r ∧ raw - r ≤ 9007199254740992 by omega))))))
  have hw' := hw
  obtain ⟨tb0, tb1⟩ := tb
  obtain ⟨r0, r1⟩ := hr
  clear hT ht hl hp hq hlq hw' hZ hz
  have BB := Lib.hid (Below.refl w.heap.size w)
  have Na1 : Hid (KB 23 (w.alloc (.cells #[.int .i64 r, .int .i64 t, .int .i64 p, .int .i64 l, .int .i64 q, .int .i64 s] 23)) w.heap.size ⟨r, t, p, l, q, s⟩) := Lib.hid (kb_new _ w r t p l q s)
  have E1 := Lib.hid (BB.out.alloc BB.out.size (.cells #[.int .i64 r, .int .i64 t, .int .i64 p, .int .i64 l, .int .i64 q, .int .i64 s] 23))
  have hs1 := BB.out.size
  obtain ⟨S1, hS1⟩ : ∃ W, w.alloc (.cells #[.int .i64 r, .int .i64 t, .int .i64 p, .int .i64 l, .int .i64 q, .int .i64 s] 23) = W := ⟨_, rfl⟩
  have hsz1 : S1.heap.size = w.heap.size + 1 := by rw [← hS1]; simp
  have HSZ1 := Lib.hid hsz1
  have hle1 : w.heap.size < S1.heap.size := by omega
  clear hsz1
  rw [hS1] at Na1 E1
  clear BB
  have Nb2 : Hid (KB 23 (S1.alloc (.cells #[.int .i64 0, .int .i64 0, .int .i64 0, .int .i64 0, .int .i64 0, .int .i64 0] 23)) S1.heap.size ⟨0, 0, 0, 0, 0, 0⟩) := Lib.hid (kb_new _ S1 0 0 0 0 0 0)
  have la2 := Na1.out.lt
  have Na2 := Lib.hid (Na1.out.alloc (.cells #[.int .i64 0, .int .i64 0, .int .i64 0, .int .i64 0, .int .i64 0, .int .i64 0] 23))
  have E2 := Lib.hid (E1.out.alloc E1.out.size (.cells #[.int .i64 0, .int .i64 0, .int .i64 0, .int .i64 0, .int .i64 0, .int .i64 0] 23))
  have hs2 := E1.out.size
  obtain ⟨S2, hS2⟩ : ∃ W, S1.alloc (.cells #[.int .i64 0, .int .i64 0, .int .i64 0, .int .i64 0, .int .i64 0, .int .i64 0] 23) = W := ⟨_, rfl⟩
  have hsz2 : S2.heap.size = S1.heap.size + 1 := by rw [← hS2]; simp
  have HSZ2 := Lib.hid hsz2
  have hle2 : S1.heap.size < S2.heap.size := by omega
  clear hsz2
  rw [hS2] at Nb2 Na2 E2
  clear Na1 E1
  obtain ⟨c3_0, c3_1, c3_2, c3_3, c3_4, c3_5⟩ := Na2.out.cells
  obtain ⟨c4_0, c4_1, c4_2, c4_3, c4_4, c4_5⟩ := Nb2.out.cells
  obtain ⟨l0, l1⟩ := HL.out
  go_enter Try.func32, Try.ntmps32
  go_wp2_with fail
  clear hS1 hS2 c3_0 c3_1 c3_2 c3_3 c3_4 c3_5 c4_0 c4_1 c4_2 c4_3 c4_4 c4_5
  refine (shown_any r t p l q s (raw - r) _ HR.out.1 HR.out.2.1 HR.out.2.2.1 HR.out.2.2.2.1 HR.out.2.2.2.2.1 HR.out.2.2.2.2.2.1 HR.out.2.2.2.2.2.2).mono ?_
  rintro e w5 ⟨rfl, hb⟩
  have Xa5 := Lib.hid (Na2.out.below hb Na2.out.lt)
  have Xb5 := Lib.hid (Nb2.out.below hb Nb2.out.lt)
  have B5 := Lib.hid (E2.out.trans (hb.mono E2.out.size))
  have hz5 := hb.size
  clear hb Na2 Nb2 E2
  rw [HT.out]
  have r6 := Xa5.out.cells.2.1
  have g6 := Xa5.out.thaw.2.1
  have Na6 : Hid (KB 23 (w5.setCell ⟨w.heap.size, 1, none⟩ (.int .i64 T)) w.heap.size ⟨r, T, p, l, q, s⟩) := Lib.hid (Xa5.out.set1 T)
  have Nb6 := Lib.hid (Xb5.out.other (D := w.heap.size) (i := 1) (by omega) (.int .i64 T))
  have E6 := Lib.hid (below_set (C := w.heap.size) (i := 1) B5.out (by omega) (.int .i64 T))
  obtain ⟨S6, hS6⟩ : ∃ W, w5.setCell ⟨w.heap.size, 1, none⟩ (.int .i64 T) = W := ⟨_, rfl⟩
  rw [hS6] at Na6 Nb6 E6
  clear Xa5 Xb5 B5
  obtain ⟨c7_0, c7_1, c7_2, c7_3, c7_4, c7_5⟩ := Na6.out.cells
  go_wp2_with fail
  clear r6 g6 hS6 c7_0 c7_1 c7_2 c7_3 c7_4 c7_5
  refine (win_any T 4503599627370496 _ (by decide) (by decide)).mono ?_
  rintro e w' ⟨rfl, rfl⟩
  have r8 := Na6.out.cells.1
  have g8 := Na6.out.thaw.1
  have Na8 : Hid (KB 23 (S6.setCell ⟨w.heap.size, 0, none⟩ (.int .i64 raw)) w.heap.size ⟨raw, T, p, l, q, s⟩) := Lib.hid (Na6.out.set0 raw)
  have Nb8 := Lib.hid (Nb6.out.other (D := w.heap.size) (i := 0) (by omega) (.int .i64 raw))
  have E8 := Lib.hid (below_set (C := w.heap.size) (i := 0) E6.out (by omega) (.int .i64 raw))
  obtain ⟨S8, hS8⟩ : ∃ W, S6.setCell ⟨w.heap.size, 0, none⟩ (.int .i64 raw) = W := ⟨_, rfl⟩
  rw [hS8] at Na8 Nb8 E8
  clear Na6 Nb6 E6
  obtain ⟨c9_0, c9_1, c9_2, c9_3, c9_4, c9_5⟩ := Na8.out.cells
  go_wp2_with fail
  have hwr : IntKind.i64.wrap (l - Z) = Y := by rw [IntWalk.i64_in _ (by omega)]; exact HY.out
  have hwy := HY.out
  go_region_with (go_at_call 42; refine (slewed_any raw T p l q s (raw - r) _ HR.out.2.1.1 HR.out.2.1.2 HR.out.2.2.2.1.1 HR.out.2.2.2.1.2 HR.out.2.2.2.2.2.1 HR.out.2.2.2.2.2.2).mono ?_; rintro e w10 ⟨rfl, hb⟩; have hb : Below S8.heap.size S8 w10 := ⟨hb.os, hb.tape, hb.output, hb.size, hb.block⟩; have Xa10 := Lib.hid (Na8.out.below hb Na8.out.lt); obtain ⟨ca10_0, ca10_1, ca10_2, ca10_3, ca10_4, ca10_5⟩ := Xa10.out.cells; have Xb10 := Lib.hid (Nb8.out.below hb Nb8.out.lt); obtain ⟨cb10_0, cb10_1, cb10_2, cb10_3, cb10_4, cb10_5⟩ := Xb10.out.cells; have B10 := Lib.hid (E8.out.trans (hb.mono E8.out.size)); have hz10 := hb.size; clear hb Na8 Nb8 E8; rw [HZZ.out]; have gf := Xa10.out.thaw.2.2.2.1)
  all_goals
    clear hwr hwy
    have r11 := Xa10.out.cells.2.2.2.1
    have g11 := Xa10.out.thaw.2.2.2.1
    have Na11 : Hid (KB 23 (w10.setCell ⟨w.heap.size, 3, none⟩ (.int .i64 Y)) w.heap.size ⟨raw, T, p, Y, q, s⟩) := Lib.hid (Xa10.out.set3 Y)
    have Nb11 := Lib.hid (Xb10.out.other (D := w.heap.size) (i := 3) (by omega) (.int .i64 Y))
    have E11 := Lib.hid (below_set (C := w.heap.size) (i := 3) B10.out (by omega) (.int .i64 Y))
    obtain ⟨S11, hS11⟩ : ∃ W, w10.setCell ⟨w.heap.size, 3, none⟩ (.int .i64 Y) = W := ⟨_, rfl⟩
    rw [hS11] at Na11 Nb11 E11
    clear Xa10 Xb10 B10
    obtain ⟨c12_0, c12_1, c12_2, c12_3, c12_4, c12_5⟩ := Na11.out.cells
    have r13 := Nb11.out.cells.1
    have g13 := Nb11.out.thaw.1
    have Nb13 : Hid (KB 23 (S11.setCell ⟨S1.heap.size, 0, none⟩ (.int .i64 raw)) S1.heap.size ⟨raw, 0, 0, 0, 0, 0⟩) := Lib.hid (Nb11.out.set0 raw)
    have Na13 := Lib.hid (Na11.out.other (D := S1.heap.size) (i := 0) (by omega) (.int .i64 raw))
    have E13 := Lib.hid (below_set (C := S1.heap.size) (i := 0) E11.out (by omega) (.int .i64 raw))
    obtain ⟨S13, hS13⟩ : ∃ W, S11.setCell ⟨S1.heap.size, 0, none⟩ (.int .i64 raw) = W := ⟨_, rfl⟩
    rw [hS13] at Nb13 Na13 E13
    clear Na11 Nb11 E11
    have r14 := Nb13.out.cells.2.1
    have g14 := Nb13.out.thaw.2.1
    have Nb14 : Hid (KB 23 (S13.setCell ⟨S1.heap.size, 1, none⟩ (.int .i64 T)) S1.heap.size ⟨raw, T, 0, 0, 0, 0⟩) := Lib.hid (Nb13.out.set1 T)
    have Na14 := Lib.hid (Na13.out.other (D := S1.heap.size) (i := 1) (by omega) (.int .i64 T))
    have E14 := Lib.hid (below_set (C := S1.heap.size) (i := 1) E13.out (by omega) (.int .i64 T))
    obtain ⟨S14, hS14⟩ : ∃ W, S13.setCell ⟨S1.heap.size, 1, none⟩ (.int .i64 T) = W := ⟨_, rfl⟩
    rw [hS14] at Nb14 Na14 E14
    clear Na13 Nb13 E13
    have r15 := Nb14.out.cells.2.2.1
    have g15 := Nb14.out.thaw.2.2.1
    have Nb15 : Hid (KB 23 (S14.setCell ⟨S1.heap.size, 2, none⟩ (.int .i64 p)) S1.heap.size ⟨raw, T, p, 0, 0, 0⟩) := Lib.hid (Nb14.out.set2 p)
    have Na15 := Lib.hid (Na14.out.other (D := S1.heap.size) (i := 2) (by omega) (.int .i64 p))
    have E15 := Lib.hid (below_set (C := S1.heap.size) (i := 2) E14.out (by omega) (.int .i64 p))
    obtain ⟨S15, hS15⟩ : ∃ W, S14.setCell ⟨S1.heap.size, 2, none⟩ (.int .i64 p) = W := ⟨_, rfl⟩
    rw [hS15] at Nb15 Na15 E15
    clear Na14 Nb14 E14
    have r16 := Nb15.out.cells.2.2.2.1
    have g16 := Nb15.out.thaw.2.2.2.1
    have Nb16 : Hid (KB 23 (S15.setCell ⟨S1.heap.size, 3, none⟩ (.int .i64 Y)) S1.heap.size ⟨raw, T, p, Y, 0, 0⟩) := Lib.hid (Nb15.out.set3 Y)
    have Na16 := Lib.hid (Na15.out.other (D := S1.heap.size) (i := 3) (by omega) (.int .i64 Y))
    have E16 := Lib.hid (below_set (C := S1.heap.size) (i := 3) E15.out (by omega) (.int .i64 Y))
    obtain ⟨S16, hS16⟩ : ∃ W, S15.setCell ⟨S1.heap.size, 3, none⟩ (.int .i64 Y) = W := ⟨_, rfl⟩
    rw [hS16] at Nb16 Na16 E16
    clear Na15 Nb15 E15
    have r17 := Nb16.out.cells.2.2.2.2.1
    have g17 := Nb16.out.thaw.2.2.2.2.1
    have Nb17 : Hid (KB 23 (S16.setCell ⟨S1.heap.size, 4, none⟩ (.int .i64 q)) S1.heap.size ⟨raw, T, p, Y, q, 0⟩) := Lib.hid (Nb16.out.set4 q)
    have Na17 := Lib.hid (Na16.out.other (D := S1.heap.size) (i := 4) (by omega) (.int .i64 q))
    have E17 := Lib.hid (below_set (C := S1.heap.size) (i := 4) E16.out (by omega) (.int .i64 q))
    obtain ⟨S17, hS17⟩ : ∃ W, S16.setCell ⟨S1.heap.size, 4, none⟩ (.int .i64 q) = W := ⟨_, rfl⟩
    rw [hS17] at Nb17 Na17 E17
    clear Na16 Nb16 E16
    have r18 := Nb17.out.cells.2.2.2.2.2
    have g18 := Nb17.out.thaw.2.2.2.2.2
    have Nb18 : Hid (KB 23 (S17.setCell ⟨S1.heap.size, 5, none⟩ (.int .i64 s)) S1.heap.size ⟨raw, T, p, Y, q, s⟩) := Lib.hid (Nb17.out.set5 s)
    have Na18 := Lib.hid (Na17.out.other (D := S1.heap.size) (i := 5) (by omega) (.int .i64 s))
    have E18 := Lib.hid (below_set (C := S1.heap.size) (i := 5) E17.out (by omega) (.int .i64 s))
    obtain ⟨S18, hS18⟩ : ∃ W, S17.setCell ⟨S1.heap.size, 5, none⟩ (.int .i64 s) = W := ⟨_, rfl⟩
    rw [hS18] at Nb18 Na18 E18
    clear Na17 Nb17 E17
    obtain ⟨c19_0, c19_1, c19_2, c19_3, c19_4, c19_5⟩ := Nb18.out.cells
    go_wp2_with fail
    rw [HT.out, HZZ.out, HY.out]
    exact bodyPost_ret (v := .tuple #[.agg #[.int .i64 raw, .int .i64 T, .int .i64 p, .int .i64 Y, .int .i64 q, .int .i64 s], .int .i64 0]) (by simp [results, Try.results32, go_sem, c19_0, c19_1, c19_2, c19_3, c19_4, c19_5]) rfl ⟨rfl, E18.out⟩
set_option maxRecDepth 100000 in
theorem moved_over (r t p l q s raw : Int) (w : World) (hr : -4503599627370496 ≤ r ∧ r ≤ 4503599627370496) (ht : -4503599627370496 ≤ t ∧ t ≤ 4503599627370496) (hl : -4503599627370496 ≤ l ∧ l ≤ 4503599627370496) (hp : -500000 ≤ p ∧ p ≤ 500000) (hq : 0 ≤ q ∧ q ≤ 500000) (hlq : l = 0 ∨ 0 < q) (h0 : r ≤ raw) (h1 : raw ≤ 4503599627370496) (hw : win (shn t p l q (raw - r)) 4503599627370496 = true) (hz : l - slw l q (raw - r) = 0) :
    Calls Try.prog 32 #[.agg #[.int .i64 r, .int .i64 t, .int .i64 p, .int .i64 l, .int .i64 q, .int .i64 s], .int .i64 raw] w fun x w' => x = .returned (.tuple #[.agg #[.int .i64 raw, .int .i64 ((shn t p l q (raw - r))), .int .i64 p, .int .i64 ((l - slw l q (raw - r))), .int .i64 0, .int .i64 s], .int .i64 0]) ∧ Below w.heap.size w w' := by
  have sb := slw_bound (l := l) (q := q) (e := raw - r) hl (by omega) (by omega) hq.1 hq.2
  obtain ⟨Z, hZ⟩ : ∃ Z, slw l q (raw - r) = Z := ⟨_, rfl⟩
  rw [hZ] at sb hz
  obtain ⟨Y, hY⟩ : ∃ Y, l - Z = Y := ⟨_, rfl⟩
  rw [hY] at hz
  obtain ⟨z0, z1⟩ := sb
  have HY := Lib.hid hY
  have HZZ := Lib.hid hZ
  have HL := Lib.hid hl
  subst hz
  have hd : ¬ raw < r := by omega
  have hd2 : ¬ 4503599627370496 < raw := by omega
  have tb := shn_bound ht hp hq hlq (show 0 ≤ raw - r by omega) (by omega)
  obtain ⟨T, hT⟩ : ∃ T, shn t p l q (raw - r) = T := ⟨_, rfl⟩
  rw [hT] at hw tb
  have HT := Lib.hid hT
  have HR := Lib.hid (And.intro ht (And.intro hl (And.intro hp (And.intro hq (And.intro hlq (show 0 ≤ raw - r ∧ raw - r ≤ 9007199254740992 by omega))))))
  have hw' := hw
  obtain ⟨tb0, tb1⟩ := tb
  obtain ⟨r0, r1⟩ := hr
  clear hT ht hl hp hq hlq hw' hZ
  have BB := Lib.hid (Below.refl w.heap.size w)
  have Na1 : Hid (KB 23 (w.alloc (.cells #[.int .i64 r, .int .i64 t, .int .i64 p, .int .i64 l, .int .i64 q, .int .i64 s] 23)) w.heap.size ⟨r, t, p, l, q, s⟩) := Lib.hid (kb_new _ w r t p l q s)
  have E1 := Lib.hid (BB.out.alloc BB.out.size (.cells #[.int .i64 r, .int .i64 t, .int .i64 p, .int .i64 l, .int .i64 q, .int .i64 s] 23))
  have hs1 := BB.out.size
  obtain ⟨S1, hS1⟩ : ∃ W, w.alloc (.cells #[.int .i64 r, .int .i64 t, .int .i64 p, .int .i64 l, .int .i64 q, .int .i64 s] 23) = W := ⟨_, rfl⟩
  have hsz1 : S1.heap.size = w.heap.size + 1 := by rw [← hS1]; simp
  have HSZ1 := Lib.hid hsz1
  have hle1 : w.heap.size < S1.heap.size := by omega
  clear hsz1
  rw [hS1] at Na1 E1
  clear BB
  have Nb2 : Hid (KB 23 (S1.alloc (.cells #[.int .i64 0, .int .i64 0, .int .i64 0, .int .i64 0, .int .i64 0, .int .i64 0] 23)) S1.heap.size ⟨0, 0, 0, 0, 0, 0⟩) := Lib.hid (kb_new _ S1 0 0 0 0 0 0)
  have la2 := Na1.out.lt
  have Na2 := Lib.hid (Na1.out.alloc (.cells #[.int .i64 0, .int .i64 0, .int .i64 0, .int .i64 0, .int .i64 0, .int .i64 0] 23))
  have E2 := Lib.hid (E1.out.alloc E1.out.size (.cells #[.int .i64 0, .int .i64 0, .int .i64 0, .int .i64 0, .int .i64 0, .int .i64 0] 23))
  have hs2 := E1.out.size
  obtain ⟨S2, hS2⟩ : ∃ W, S1.alloc (.cells #[.int .i64 0, .int .i64 0, .int .i64 0, .int .i64 0, .int .i64 0, .int .i64 0] 23) = W := ⟨_, rfl⟩
  have hsz2 : S2.heap.size = S1.heap.size + 1 := by rw [← hS2]; simp
  have HSZ2 := Lib.hid hsz2
  have hle2 : S1.heap.size < S2.heap.size := by omega
  clear hsz2
  rw [hS2] at Nb2 Na2 E2
  clear Na1 E1
  obtain ⟨c3_0, c3_1, c3_2, c3_3, c3_4, c3_5⟩ := Na2.out.cells
  obtain ⟨c4_0, c4_1, c4_2, c4_3, c4_4, c4_5⟩ := Nb2.out.cells
  obtain ⟨l0, l1⟩ := HL.out
  go_enter Try.func32, Try.ntmps32
  go_wp2_with fail
  clear hS1 hS2 c3_0 c3_1 c3_2 c3_3 c3_4 c3_5 c4_0 c4_1 c4_2 c4_3 c4_4 c4_5
  refine (shown_any r t p l q s (raw - r) _ HR.out.1 HR.out.2.1 HR.out.2.2.1 HR.out.2.2.2.1 HR.out.2.2.2.2.1 HR.out.2.2.2.2.2.1 HR.out.2.2.2.2.2.2).mono ?_
  rintro e w5 ⟨rfl, hb⟩
  have Xa5 := Lib.hid (Na2.out.below hb Na2.out.lt)
  have Xb5 := Lib.hid (Nb2.out.below hb Nb2.out.lt)
  have B5 := Lib.hid (E2.out.trans (hb.mono E2.out.size))
  have hz5 := hb.size
  clear hb Na2 Nb2 E2
  rw [HT.out]
  have r6 := Xa5.out.cells.2.1
  have g6 := Xa5.out.thaw.2.1
  have Na6 : Hid (KB 23 (w5.setCell ⟨w.heap.size, 1, none⟩ (.int .i64 T)) w.heap.size ⟨r, T, p, l, q, s⟩) := Lib.hid (Xa5.out.set1 T)
  have Nb6 := Lib.hid (Xb5.out.other (D := w.heap.size) (i := 1) (by omega) (.int .i64 T))
  have E6 := Lib.hid (below_set (C := w.heap.size) (i := 1) B5.out (by omega) (.int .i64 T))
  obtain ⟨S6, hS6⟩ : ∃ W, w5.setCell ⟨w.heap.size, 1, none⟩ (.int .i64 T) = W := ⟨_, rfl⟩
  rw [hS6] at Na6 Nb6 E6
  clear Xa5 Xb5 B5
  obtain ⟨c7_0, c7_1, c7_2, c7_3, c7_4, c7_5⟩ := Na6.out.cells
  go_wp2_with fail
  clear r6 g6 hS6 c7_0 c7_1 c7_2 c7_3 c7_4 c7_5
  refine (win_any T 4503599627370496 _ (by decide) (by decide)).mono ?_
  rintro e w' ⟨rfl, rfl⟩
  have r8 := Na6.out.cells.1
  have g8 := Na6.out.thaw.1
  have Na8 : Hid (KB 23 (S6.setCell ⟨w.heap.size, 0, none⟩ (.int .i64 raw)) w.heap.size ⟨raw, T, p, l, q, s⟩) := Lib.hid (Na6.out.set0 raw)
  have Nb8 := Lib.hid (Nb6.out.other (D := w.heap.size) (i := 0) (by omega) (.int .i64 raw))
  have E8 := Lib.hid (below_set (C := w.heap.size) (i := 0) E6.out (by omega) (.int .i64 raw))
  obtain ⟨S8, hS8⟩ : ∃ W, S6.setCell ⟨w.heap.size, 0, none⟩ (.int .i64 raw) = W := ⟨_, rfl⟩
  rw [hS8] at Na8 Nb8 E8
  clear Na6 Nb6 E6
  obtain ⟨c9_0, c9_1, c9_2, c9_3, c9_4, c9_5⟩ := Na8.out.cells
  go_wp2_with fail
  have hwr : IntKind.i64.wrap (l - Z) = 0 := by rw [IntWalk.i64_in _ (by omega)]; exact HY.out
  have hwy := HY.out
  go_region_with (go_at_call 42; refine (slewed_any raw T p l q s (raw - r) _ HR.out.2.1.1 HR.out.2.1.2 HR.out.2.2.2.1.1 HR.out.2.2.2.1.2 HR.out.2.2.2.2.2.1 HR.out.2.2.2.2.2.2).mono ?_; rintro e w10 ⟨rfl, hb⟩; have hb : Below S8.heap.size S8 w10 := ⟨hb.os, hb.tape, hb.output, hb.size, hb.block⟩; have Xa10 := Lib.hid (Na8.out.below hb Na8.out.lt); obtain ⟨ca10_0, ca10_1, ca10_2, ca10_3, ca10_4, ca10_5⟩ := Xa10.out.cells; have Xb10 := Lib.hid (Nb8.out.below hb Nb8.out.lt); obtain ⟨cb10_0, cb10_1, cb10_2, cb10_3, cb10_4, cb10_5⟩ := Xb10.out.cells; have B10 := Lib.hid (E8.out.trans (hb.mono E8.out.size)); have hz10 := hb.size; clear hb Na8 Nb8 E8; rw [HZZ.out]; have gf := Xa10.out.thaw.2.2.2.1)
  all_goals
    clear hwr hwy
    have r11 := Xa10.out.cells.2.2.2.1
    have g11 := Xa10.out.thaw.2.2.2.1
    have Na11 : Hid (KB 23 (w10.setCell ⟨w.heap.size, 3, none⟩ (.int .i64 0)) w.heap.size ⟨raw, T, p, 0, q, s⟩) := Lib.hid (Xa10.out.set3 0)
    have Nb11 := Lib.hid (Xb10.out.other (D := w.heap.size) (i := 3) (by omega) (.int .i64 0))
    have E11 := Lib.hid (below_set (C := w.heap.size) (i := 3) B10.out (by omega) (.int .i64 0))
    obtain ⟨S11, hS11⟩ : ∃ W, w10.setCell ⟨w.heap.size, 3, none⟩ (.int .i64 0) = W := ⟨_, rfl⟩
    rw [hS11] at Na11 Nb11 E11
    clear Xa10 Xb10 B10
    obtain ⟨c12_0, c12_1, c12_2, c12_3, c12_4, c12_5⟩ := Na11.out.cells
    have r13 := Na11.out.cells.2.2.2.2.1
    have g13 := Na11.out.thaw.2.2.2.2.1
    have Na13 : Hid (KB 23 (S11.setCell ⟨w.heap.size, 4, none⟩ (.int .i64 0)) w.heap.size ⟨raw, T, p, 0, 0, s⟩) := Lib.hid (Na11.out.set4 0)
    have Nb13 := Lib.hid (Nb11.out.other (D := w.heap.size) (i := 4) (by omega) (.int .i64 0))
    have E13 := Lib.hid (below_set (C := w.heap.size) (i := 4) E11.out (by omega) (.int .i64 0))
    obtain ⟨S13, hS13⟩ : ∃ W, S11.setCell ⟨w.heap.size, 4, none⟩ (.int .i64 0) = W := ⟨_, rfl⟩
    rw [hS13] at Na13 Nb13 E13
    clear Na11 Nb11 E11
    obtain ⟨c14_0, c14_1, c14_2, c14_3, c14_4, c14_5⟩ := Na13.out.cells
    have r15 := Nb13.out.cells.1
    have g15 := Nb13.out.thaw.1
    have Nb15 : Hid (KB 23 (S13.setCell ⟨S1.heap.size, 0, none⟩ (.int .i64 raw)) S1.heap.size ⟨raw, 0, 0, 0, 0, 0⟩) := Lib.hid (Nb13.out.set0 raw)
    have Na15 := Lib.hid (Na13.out.other (D := S1.heap.size) (i := 0) (by omega) (.int .i64 raw))
    have E15 := Lib.hid (below_set (C := S1.heap.size) (i := 0) E13.out (by omega) (.int .i64 raw))
    obtain ⟨S15, hS15⟩ : ∃ W, S13.setCell ⟨S1.heap.size, 0, none⟩ (.int .i64 raw) = W := ⟨_, rfl⟩
    rw [hS15] at Nb15 Na15 E15
    clear Na13 Nb13 E13
    have r16 := Nb15.out.cells.2.1
    have g16 := Nb15.out.thaw.2.1
    have Nb16 : Hid (KB 23 (S15.setCell ⟨S1.heap.size, 1, none⟩ (.int .i64 T)) S1.heap.size ⟨raw, T, 0, 0, 0, 0⟩) := Lib.hid (Nb15.out.set1 T)
    have Na16 := Lib.hid (Na15.out.other (D := S1.heap.size) (i := 1) (by omega) (.int .i64 T))
    have E16 := Lib.hid (below_set (C := S1.heap.size) (i := 1) E15.out (by omega) (.int .i64 T))
    obtain ⟨S16, hS16⟩ : ∃ W, S15.setCell ⟨S1.heap.size, 1, none⟩ (.int .i64 T) = W := ⟨_, rfl⟩
    rw [hS16] at Nb16 Na16 E16
    clear Na15 Nb15 E15
    have r17 := Nb16.out.cells.2.2.1
    have g17 := Nb16.out.thaw.2.2.1
    have Nb17 : Hid (KB 23 (S16.setCell ⟨S1.heap.size, 2, none⟩ (.int .i64 p)) S1.heap.size ⟨raw, T, p, 0, 0, 0⟩) := Lib.hid (Nb16.out.set2 p)
    have Na17 := Lib.hid (Na16.out.other (D := S1.heap.size) (i := 2) (by omega) (.int .i64 p))
    have E17 := Lib.hid (below_set (C := S1.heap.size) (i := 2) E16.out (by omega) (.int .i64 p))
    obtain ⟨S17, hS17⟩ : ∃ W, S16.setCell ⟨S1.heap.size, 2, none⟩ (.int .i64 p) = W := ⟨_, rfl⟩
    rw [hS17] at Nb17 Na17 E17
    clear Na16 Nb16 E16
    have r18 := Nb17.out.cells.2.2.2.1
    have g18 := Nb17.out.thaw.2.2.2.1
    have Nb18 : Hid (KB 23 (S17.setCell ⟨S1.heap.size, 3, none⟩ (.int .i64 0)) S1.heap.size ⟨raw, T, p, 0, 0, 0⟩) := Lib.hid (Nb17.out.set3 0)
    have Na18 := Lib.hid (Na17.out.other (D := S1.heap.size) (i := 3) (by omega) (.int .i64 0))
    have E18 := Lib.hid (below_set (C := S1.heap.size) (i := 3) E17.out (by omega) (.int .i64 0))
    obtain ⟨S18, hS18⟩ : ∃ W, S17.setCell ⟨S1.heap.size, 3, none⟩ (.int .i64 0) = W := ⟨_, rfl⟩
    rw [hS18] at Nb18 Na18 E18
    clear Na17 Nb17 E17
    have r19 := Nb18.out.cells.2.2.2.2.1
    have g19 := Nb18.out.thaw.2.2.2.2.1
    have Nb19 : Hid (KB 23 (S18.setCell ⟨S1.heap.size, 4, none⟩ (.int .i64 0)) S1.heap.size ⟨raw, T, p, 0, 0, 0⟩) := Lib.hid (Nb18.out.set4 0)
    have Na19 := Lib.hid (Na18.out.other (D := S1.heap.size) (i := 4) (by omega) (.int .i64 0))
    have E19 := Lib.hid (below_set (C := S1.heap.size) (i := 4) E18.out (by omega) (.int .i64 0))
    obtain ⟨S19, hS19⟩ : ∃ W, S18.setCell ⟨S1.heap.size, 4, none⟩ (.int .i64 0) = W := ⟨_, rfl⟩
    rw [hS19] at Nb19 Na19 E19
    clear Na18 Nb18 E18
    have r20 := Nb19.out.cells.2.2.2.2.2
    have g20 := Nb19.out.thaw.2.2.2.2.2
    have Nb20 : Hid (KB 23 (S19.setCell ⟨S1.heap.size, 5, none⟩ (.int .i64 s)) S1.heap.size ⟨raw, T, p, 0, 0, s⟩) := Lib.hid (Nb19.out.set5 s)
    have Na20 := Lib.hid (Na19.out.other (D := S1.heap.size) (i := 5) (by omega) (.int .i64 s))
    have E20 := Lib.hid (below_set (C := S1.heap.size) (i := 5) E19.out (by omega) (.int .i64 s))
    obtain ⟨S20, hS20⟩ : ∃ W, S19.setCell ⟨S1.heap.size, 5, none⟩ (.int .i64 s) = W := ⟨_, rfl⟩
    rw [hS20] at Nb20 Na20 E20
    clear Na19 Nb19 E19
    obtain ⟨c21_0, c21_1, c21_2, c21_3, c21_4, c21_5⟩ := Nb20.out.cells
    go_wp2_with fail
    rw [HT.out, HZZ.out, HY.out]
    exact bodyPost_ret (v := .tuple #[.agg #[.int .i64 raw, .int .i64 T, .int .i64 p, .int .i64 0, .int .i64 0, .int .i64 s], .int .i64 0]) (by simp [results, Try.results32, go_sem, c21_0, c21_1, c21_2, c21_3, c21_4, c21_5]) rfl ⟨rfl, E20.out⟩
/-- The program's move. -/
theorem moved_any (x : St) (raw : Int) (w : World) (h : Ok x) :
    Calls Try.prog 32 #[.agg #[.int .i64 x.r, .int .i64 x.t, .int .i64 x.p, .int .i64 x.l, .int .i64 x.q, .int .i64 x.s], .int .i64 raw] w fun e w' => e = .returned (.tuple #[.agg #[.int .i64 ((mvS x raw).r), .int .i64 ((mvS x raw).t), .int .i64 ((mvS x raw).p), .int .i64 ((mvS x raw).l), .int .i64 ((mvS x raw).q), .int .i64 ((mvS x raw).s)], .int .i64 (mvE x raw)]) ∧ Below w.heap.size w w' := by
  obtain ⟨r, t, p, l, q, s⟩ := x
  obtain ⟨hr, ht, hl, hp, hq, hlq, hs⟩ := h
  by_cases h0 : raw < r
  · have e0 : mvE ⟨r, t, p, l, q, s⟩ raw = 12 := if_pos h0
    have e1 : mvS ⟨r, t, p, l, q, s⟩ raw = zer := if_neg (by rw [e0]; decide)
    rw [e1, e0]
    exact moved_early r t p l q s raw w h0
  · by_cases h1 : 4503599627370496 < raw
    · have e0 : mvE ⟨r, t, p, l, q, s⟩ raw = 3 := (if_neg h0).trans (if_pos h1)
      have e1 : mvS ⟨r, t, p, l, q, s⟩ raw = zer := if_neg (by rw [e0]; decide)
      rw [e1, e0]
      exact moved_late r t p l q s raw w (by omega) h1
    · cases hw : win (shn t p l q (raw - r)) 4503599627370496 with
      | false =>
        have e0 : mvE ⟨r, t, p, l, q, s⟩ raw = 3 := (if_neg h0).trans ((if_neg h1).trans (if_neg (by show ¬ win (shn t p l q (raw - r)) 4503599627370496 = true; rw [hw]; decide)))
        have e1 : mvS ⟨r, t, p, l, q, s⟩ raw = zer := if_neg (by rw [e0]; decide)
        rw [e1, e0]
        exact moved_far r t p l q s raw w hr ht hl hp hq hlq (by omega) (by omega) hw
      | true =>
        have e0 : mvE ⟨r, t, p, l, q, s⟩ raw = 0 := (if_neg h0).trans ((if_neg h1).trans (if_pos hw))
        have e1 : mvS ⟨r, t, p, l, q, s⟩ raw = mvG ⟨r, t, p, l, q, s⟩ raw := if_pos e0
        rw [e1, e0]
        by_cases hz : l - slw l q (raw - r) = 0
        · have e2 : mvG ⟨r, t, p, l, q, s⟩ raw = ⟨raw, shn t p l q (raw - r), p, l - slw l q (raw - r), 0, s⟩ := by
            unfold mvG lft at'; rw [if_pos hz]
          rw [e2]
          exact moved_over r t p l q s raw w hr ht hl hp hq hlq (by omega) (by omega) hw hz
        · have e2 : mvG ⟨r, t, p, l, q, s⟩ raw = ⟨raw, shn t p l q (raw - r), p, l - slw l q (raw - r), q, s⟩ := by
            unfold mvG lft at'; rw [if_neg hz]
          rw [e2]
          exact moved_left r t p l q s raw w hr ht hl hp hq hlq (by omega) (by omega) hw hz
end Go.Proofs.Ytjcpfkibaohjjaa
