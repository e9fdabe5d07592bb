/- Contracts of layer 10: the program's methods that read. -/
import Derived.Test.YtjcpfkibaohjjaaClkD
namespace Go.Proofs.Ytjcpfkibaohjjaa
open Go.RowKit Fx Ck

theorem Ck.ret_t {a b a' b' : Int} (h : a = a') (h' : b = b') : Ending.returned (.tuple #[.int .i64 a, .int .i64 b]) = .returned (.tuple #[.int .i64 a', .int .i64 b']) := by rw [h, h']
theorem now_nil (raw : Int) (w : World) :
    Calls Try.prog 20 #[.pointer none, .int .i64 raw] w fun e w' => e = .returned (.tuple #[.int .i64 0, .int .i64 1]) ∧ w = w' := by
  go_enter Try.func20, Try.ntmps20
  go_wp2
  go_ret2
  exact ⟨rfl, rfl⟩
theorem pend_nil (raw : Int) (w : World) :
    Calls Try.prog 23 #[.pointer none, .int .i64 raw] w fun e w' => e = .returned (.int .i64 0) ∧ w = w' := by
  go_enter Try.func23, Try.ntmps23
  go_wp2
  go_ret
  exact ⟨rfl, rfl⟩
theorem state_nil (w : World) :
    Calls Try.prog 13 #[.pointer none] w fun e w' => e = .returned (.agg #[.int .i64 0, .int .i64 0, .int .i64 0, .int .i64 0, .int .i64 0, .int .i64 0]) ∧ Below w.heap.size w w' := by
  go_enter Try.func13, Try.ntmps13
  go_wp2
  exact bodyPost_ret (v := .agg #[.int .i64 0, .int .i64 0, .int .i64 0, .int .i64 0, .int .i64 0, .int .i64 0]) (by simp [results, Try.results13, go_sem]) rfl ⟨rfl, (Below.refl _ _).alloc (Nat.le_refl _) _⟩
set_option maxRecDepth 100000 in
theorem now_any (C : Nat) (x : St) (raw : Int) (w : World) (hx : Ok x) (hk : KB 51 w C x) :
    Calls Try.prog 20 #[.pointer (some ⟨C, 0, none⟩), .int .i64 raw] w fun e w' => e = .returned (.tuple #[.int .i64 (mvS x raw).t, .int .i64 (mvE x raw)]) ∧ Below w.heap.size w w' := by
  have KC := Lib.hid hk
  have HOK := Lib.hid hx
  have BB := Lib.hid (Below.refl w.heap.size w)
  clear hk hx
  go_enter Try.func20, Try.ntmps20
  obtain ⟨c1_0, c1_1, c1_2, c1_3, c1_4, c1_5⟩ := KC.out.cells
  go_wp2_with fail
  clear c1_0 c1_1 c1_2 c1_3 c1_4 c1_5
  refine (moved_any x raw _ HOK.out).mono ?_
  rintro e w2 ⟨rfl, hb⟩
  have XC2 := Lib.hid (KC.out.below hb KC.out.lt)
  have B2 := Lib.hid (BB.out.trans (hb.mono BB.out.size))
  have hz2 := hb.size
  clear hb KC BB
  obtain ⟨y, hy⟩ : ∃ y, mvS x raw = y := ⟨_, rfl⟩
  rw [hy]
  have HY := Lib.hid hy
  clear hy
  have Nm3 : Hid (KB 23 (w2.alloc (.cells #[.int .i64 y.r, .int .i64 y.t, .int .i64 y.p, .int .i64 y.l, .int .i64 y.q, .int .i64 y.s] 23)) w2.heap.size ⟨y.r, y.t, y.p, y.l, y.q, y.s⟩) := Lib.hid (kb_new _ w2 y.r y.t y.p y.l y.q y.s)
  have lC3 := XC2.out.lt
  have NC3 := Lib.hid (XC2.out.alloc (.cells #[.int .i64 y.r, .int .i64 y.t, .int .i64 y.p, .int .i64 y.l, .int .i64 y.q, .int .i64 y.s] 23))
  have E3 := Lib.hid (B2.out.alloc B2.out.size (.cells #[.int .i64 y.r, .int .i64 y.t, .int .i64 y.p, .int .i64 y.l, .int .i64 y.q, .int .i64 y.s] 23))
  have hs3 := B2.out.size
  obtain ⟨S3, hS3⟩ : ∃ W, w2.alloc (.cells #[.int .i64 y.r, .int .i64 y.t, .int .i64 y.p, .int .i64 y.l, .int .i64 y.q, .int .i64 y.s] 23) = W := ⟨_, rfl⟩
  have hsz3 : S3.heap.size = w2.heap.size + 1 := by rw [← hS3]; simp
  have HSZ3 := Lib.hid hsz3
  have hle3 : w2.heap.size < S3.heap.size := by omega
  clear hsz3
  rw [hS3] at Nm3 NC3 E3
  clear XC2 B2
  obtain ⟨c4_0, c4_1, c4_2, c4_3, c4_4, c4_5⟩ := Nm3.out.cells
  go_wp2_with fail
  go_ret2
  rw [HY.out]
  exact ⟨rfl, E3.out⟩
set_option maxRecDepth 100000 in
theorem pend_any (C : Nat) (x : St) (raw : Int) (w : World) (hx : Ok x) (hk : KB 51 w C x) :
    Calls Try.prog 23 #[.pointer (some ⟨C, 0, none⟩), .int .i64 raw] w fun e w' => e = .returned (.int .i64 (mvS x raw).l) ∧ Below w.heap.size w w' := by
  have KC := Lib.hid hk
  have HOK := Lib.hid hx
  have BB := Lib.hid (Below.refl w.heap.size w)
  clear hk hx
  go_enter Try.func23, Try.ntmps23
  obtain ⟨c1_0, c1_1, c1_2, c1_3, c1_4, c1_5⟩ := KC.out.cells
  go_wp2_with fail
  clear c1_0 c1_1 c1_2 c1_3 c1_4 c1_5
  refine (moved_any x raw _ HOK.out).mono ?_
  rintro e w2 ⟨rfl, hb⟩
  have XC2 := Lib.hid (KC.out.below hb KC.out.lt)
  have B2 := Lib.hid (BB.out.trans (hb.mono BB.out.size))
  have hz2 := hb.size
  clear hb KC BB
  obtain ⟨y, hy⟩ : ∃ y, mvS x raw = y := ⟨_, rfl⟩
  rw [hy]
  have HY := Lib.hid hy
  clear hy
  have Nm3 : Hid (KB 23 (w2.alloc (.cells #[.int .i64 y.r, .int .i64 y.t, .int .i64 y.p, .int .i64 y.l, .int .i64 y.q, .int .i64 y.s] 23)) w2.heap.size ⟨y.r, y.t, y.p, y.l, y.q, y.s⟩) := Lib.hid (kb_new _ w2 y.r y.t y.p y.l y.q y.s)
  have lC3 := XC2.out.lt
  have NC3 := Lib.hid (XC2.out.alloc (.cells #[.int .i64 y.r, .int .i64 y.t, .int .i64 y.p, .int .i64 y.l, .int .i64 y.q, .int .i64 y.s] 23))
  have E3 := Lib.hid (B2.out.alloc B2.out.size (.cells #[.int .i64 y.r, .int .i64 y.t, .int .i64 y.p, .int .i64 y.l, .int .i64 y.q, .int .i64 y.s] 23))
  have hs3 := B2.out.size
  obtain ⟨S3, hS3⟩ : ∃ W, w2.alloc (.cells #[.int .i64 y.r, .int .i64 y.t, .int .i64 y.p, .int .i64 y.l, .int .i64 y.q, .int .i64 y.s] 23) = W := ⟨_, rfl⟩
  have hsz3 : S3.heap.size = w2.heap.size + 1 := by rw [← hS3]; simp
  have HSZ3 := Lib.hid hsz3
  have hle3 : w2.heap.size < S3.heap.size := by omega
  clear hsz3
  rw [hS3] at Nm3 NC3 E3
  clear XC2 B2
  obtain ⟨c4_0, c4_1, c4_2, c4_3, c4_4, c4_5⟩ := Nm3.out.cells
  go_wp2_with fail
  go_ret
  rw [HY.out]
  exact ⟨rfl, E3.out⟩
set_option maxRecDepth 100000 in
theorem state_any (C : Nat) (x : St) (w : World) (hk : KB 51 w C x) :
    Calls Try.prog 13 #[.pointer (some ⟨C, 0, none⟩)] w fun e w' => e = .returned (.agg #[.int .i64 x.r, .int .i64 x.t, .int .i64 x.p, .int .i64 x.l, .int .i64 x.q, .int .i64 x.s]) ∧ Below w.heap.size w w' := by
  have KC := Lib.hid hk
  have BB := Lib.hid (Below.refl w.heap.size w)
  clear hk
  go_enter Try.func13, Try.ntmps13
  have Nm1 : Hid (KB 23 (w.alloc (.cells #[.int .i64 0, .int .i64 0, .int .i64 0, .int .i64 0, .int .i64 0, .int .i64 0] 23)) w.heap.size ⟨0, 0, 0, 0, 0, 0⟩) := Lib.hid (kb_new _ w 0 0 0 0 0 0)
  have lC1 := KC.out.lt
  have NC1 := Lib.hid (KC.out.alloc (.cells #[.int .i64 0, .int .i64 0, .int .i64 0, .int .i64 0, .int .i64 0, .int .i64 0] 23))
  have E1 := Lib.hid (BB.out.alloc BB.out.size (.cells #[.int .i64 0, .int .i64 0, .int .i64 0, .int .i64 0, .int .i64 0, .int .i64 0] 23))
  have hs1 := BB.out.size
  obtain ⟨S1, hS1⟩ : ∃ W, w.alloc (.cells #[.int .i64 0, .int .i64 0, .int .i64 0, .int .i64 0, .int .i64 0, .int .i64 0] 23) = W := ⟨_, rfl⟩
  have hsz1 : S1.heap.size = w.heap.size + 1 := by rw [← hS1]; simp
  have HSZ1 := Lib.hid hsz1
  have hle1 : w.heap.size < S1.heap.size := by omega
  clear hsz1
  rw [hS1] at Nm1 NC1 E1
  clear KC BB
  obtain ⟨c2_0, c2_1, c2_2, c2_3, c2_4, c2_5⟩ := NC1.out.cells
  have r3 := Nm1.out.cells.1
  have g3 := Nm1.out.thaw.1
  have Nm3 : Hid (KB 23 (S1.setCell ⟨w.heap.size, 0, none⟩ (.int .i64 x.r)) w.heap.size ⟨x.r, 0, 0, 0, 0, 0⟩) := Lib.hid (Nm1.out.set0 x.r)
  have NC3 := Lib.hid (NC1.out.other (D := w.heap.size) (i := 0) (by omega) (.int .i64 x.r))
  have E3 := Lib.hid (below_set (C := w.heap.size) (i := 0) E1.out (by omega) (.int .i64 x.r))
  obtain ⟨S3, hS3⟩ : ∃ W, S1.setCell ⟨w.heap.size, 0, none⟩ (.int .i64 x.r) = W := ⟨_, rfl⟩
  rw [hS3] at Nm3 NC3 E3
  clear NC1 Nm1 E1
  have r4 := Nm3.out.cells.2.1
  have g4 := Nm3.out.thaw.2.1
  have Nm4 : Hid (KB 23 (S3.setCell ⟨w.heap.size, 1, none⟩ (.int .i64 x.t)) w.heap.size ⟨x.r, x.t, 0, 0, 0, 0⟩) := Lib.hid (Nm3.out.set1 x.t)
  have NC4 := Lib.hid (NC3.out.other (D := w.heap.size) (i := 1) (by omega) (.int .i64 x.t))
  have E4 := Lib.hid (below_set (C := w.heap.size) (i := 1) E3.out (by omega) (.int .i64 x.t))
  obtain ⟨S4, hS4⟩ : ∃ W, S3.setCell ⟨w.heap.size, 1, none⟩ (.int .i64 x.t) = W := ⟨_, rfl⟩
  rw [hS4] at Nm4 NC4 E4
  clear NC3 Nm3 E3
  have r5 := Nm4.out.cells.2.2.1
  have g5 := Nm4.out.thaw.2.2.1
  have Nm5 : Hid (KB 23 (S4.setCell ⟨w.heap.size, 2, none⟩ (.int .i64 x.p)) w.heap.size ⟨x.r, x.t, x.p, 0, 0, 0⟩) := Lib.hid (Nm4.out.set2 x.p)
  have NC5 := Lib.hid (NC4.out.other (D := w.heap.size) (i := 2) (by omega) (.int .i64 x.p))
  have E5 := Lib.hid (below_set (C := w.heap.size) (i := 2) E4.out (by omega) (.int .i64 x.p))
  obtain ⟨S5, hS5⟩ : ∃ W, S4.setCell ⟨w.heap.size, 2, none⟩ (.int .i64 x.p) = W := ⟨_, rfl⟩
  rw [hS5] at Nm5 NC5 E5
  clear NC4 Nm4 E4
  have r6 := Nm5.out.cells.2.2.2.1
  have g6 := Nm5.out.thaw.2.2.2.1
  have Nm6 : Hid (KB 23 (S5.setCell ⟨w.heap.size, 3, none⟩ (.int .i64 x.l)) w.heap.size ⟨x.r, x.t, x.p, x.l, 0, 0⟩) := Lib.hid (Nm5.out.set3 x.l)
  have NC6 := Lib.hid (NC5.out.other (D := w.heap.size) (i := 3) (by omega) (.int .i64 x.l))
  have E6 := Lib.hid (below_set (C := w.heap.size) (i := 3) E5.out (by omega) (.int .i64 x.l))
  obtain ⟨S6, hS6⟩ : ∃ W, S5.setCell ⟨w.heap.size, 3, none⟩ (.int .i64 x.l) = W := ⟨_, rfl⟩
  rw [hS6] at Nm6 NC6 E6
  clear NC5 Nm5 E5
  have r7 := Nm6.out.cells.2.2.2.2.1
  have g7 := Nm6.out.thaw.2.2.2.2.1
  have Nm7 : Hid (KB 23 (S6.setCell ⟨w.heap.size, 4, none⟩ (.int .i64 x.q)) w.heap.size ⟨x.r, x.t, x.p, x.l, x.q, 0⟩) := Lib.hid (Nm6.out.set4 x.q)
  have NC7 := Lib.hid (NC6.out.other (D := w.heap.size) (i := 4) (by omega) (.int .i64 x.q))
  have E7 := Lib.hid (below_set (C := w.heap.size) (i := 4) E6.out (by omega) (.int .i64 x.q))
  obtain ⟨S7, hS7⟩ : ∃ W, S6.setCell ⟨w.heap.size, 4, none⟩ (.int .i64 x.q) = W := ⟨_, rfl⟩
  rw [hS7] at Nm7 NC7 E7
  clear NC6 Nm6 E6
  have r8 := Nm7.out.cells.2.2.2.2.2
  have g8 := Nm7.out.thaw.2.2.2.2.2
  have Nm8 : Hid (KB 23 (S7.setCell ⟨w.heap.size, 5, none⟩ (.int .i64 x.s)) w.heap.size ⟨x.r, x.t, x.p, x.l, x.q, x.s⟩) := Lib.hid (Nm7.out.set5 x.s)
  have NC8 := Lib.hid (NC7.out.other (D := w.heap.size) (i := 5) (by omega) (.int .i64 x.s))
  have E8 := Lib.hid (below_set (C := w.heap.size) (i := 5) E7.out (by omega) (.int .i64 x.s))
  obtain ⟨S8, hS8⟩ : ∃ W, S7.setCell ⟨w.heap.size, 5, none⟩ (.int .i64 x.s) = W := ⟨_, rfl⟩
  rw [hS8] at Nm8 NC8 E8
  clear NC7 Nm7 E7
  obtain ⟨c9_0, c9_1, c9_2, c9_3, c9_4, c9_5⟩ := Nm8.out.cells
  go_wp2_with fail
  exact bodyPost_ret (v := .agg #[.int .i64 x.r, .int .i64 x.t, .int .i64 x.p, .int .i64 x.l, .int .i64 x.q, .int .i64 x.s]) (by simp [results, Try.results13, go_sem, c9_0, c9_1, c9_2, c9_3, c9_4, c9_5]) rfl ⟨rfl, E8.out⟩
end Go.Proofs.Ytjcpfkibaohjjaa
