/- Contracts of layer 10: the program's methods that write. -/
import Derived.Test.YtjcpfkibaohjjaaClkE
namespace Go.Proofs.Ytjcpfkibaohjjaa
open Go.RowKit Fx Ck

/-- A number is returned; the clock's state is z; no other block that was there has turned. -/
def Ck.Done (T : TypeId) (C : Nat) (w : World) (n : Int) (z : St) (e : Ending) (w' : World) : Prop := e = .returned (.int .i64 n) ∧ KB T w' C z ∧ w.grownBy w' (some C)
theorem Ck.grown_refl (w : World) (r : Option Nat) : w.grownBy w r := ⟨rfl, rfl, rfl, Nat.le_refl _, fun _ _ _ => rfl⟩
theorem Ck.grown_of_below {w w1 : World} {r : Option Nat} (h : Below w.heap.size w w1) : w.grownBy w1 r := ⟨h.os, h.tape, h.output, h.size, fun k hk _ => h.block k hk⟩
theorem Ck.grown_trans {w w1 w2 : World} {r : Option Nat} (h : w.grownBy w1 r) (h2 : w1.grownBy w2 r) : w.grownBy w2 r :=
  ⟨h2.os.trans h.os, h2.tape.trans h.tape, h2.output.trans h.output, Nat.le_trans h.size h2.size, fun k hk hr => (h2.block k (Nat.lt_of_lt_of_le hk h.size) hr).trans (h.block k hk hr)⟩
theorem Ck.KB.grownOld {T : TypeId} {w w' : World} {C D : Nat} {x : St} (h : KB T w C x) (hg : w.grownBy w' (some D)) (hne : C ≠ D) : KB T w' C x := (hg.block C h.lt (fun e => hne (by injection e))).trans h
/-- What is unchanged below D stays so where only a block from D on is written. -/
theorem Ck.below_of_grown' {w0 w w' : World} {D g : Nat} (h : Below D w0 w) (hg : w.grownBy w' (some g)) (hD : D ≤ g) (hz : D ≤ w.heap.size) : Below D w0 w' :=
  h.trans ⟨hg.os, hg.tape, hg.output, hg.size, fun k hk => hg.block k (by omega) (fun e => by injection e; omega)⟩

theorem change_nil (f : FuncId) (caps : Array Value) (raw : Int) (b : Bool) (w : World) :
    Calls Try.prog 34 #[.pointer none, .int .i64 raw, .bool b, .func (Fn.func f) #[] caps] w fun e w' => e = .returned (.int .i64 1) ∧ w = w' := by
  go_enter Try.func34, Try.ntmps34
  go_wp2
  go_ret
  exact ⟨rfl, rfl⟩
theorem change_bad (f : FuncId) (caps : Array Value) (C : Nat) (raw : Int) (w : World) :
    Calls Try.prog 34 #[.pointer (some ⟨C, 0, none⟩), .int .i64 raw, .bool false, .func (Fn.func f) #[] caps] w fun e w' => e = .returned (.int .i64 3) ∧ w = w' := by
  go_enter Try.func34, Try.ntmps34
  go_wp2
  go_ret
  exact ⟨rfl, rfl⟩
set_option maxRecDepth 100000 in
theorem change_no (f : FuncId) (caps : Array Value) (C : Nat) (x : St) (raw : Int) (w : World) (hx : Ok x) (hk : KB 51 w C x) (he : ¬ mvE x raw = 0) :
    Calls Try.prog 34 #[.pointer (some ⟨C, 0, none⟩), .int .i64 raw, .bool true, .func (Fn.func f) #[] caps] w (Done 51 C w (mvE x raw) x) := by
  have KC := Lib.hid hk
  have HOK := Lib.hid hx
  have BB := Lib.hid (Below.refl w.heap.size w)
  have HC := hk.lt
  obtain ⟨m, hm⟩ : ∃ m, mvE x raw = m := ⟨_, rfl⟩
  rw [hm] at he
  have m0 : (m == 0) = false := by simpa using he
  have m1 : (m != 0) = true := by simpa using he
  have HM := Lib.hid hm
  rw [hm]
  clear hk hx he hm
  go_enter Try.func34, Try.ntmps34
  obtain ⟨c1_0, c1_1, c1_2, c1_3, c1_4, c1_5⟩ := KC.out.cells
  go_wp2_with fail
  clear c1_0 c1_1 c1_2 c1_3 c1_4 c1_5
  refine (moved_any x raw _ HOK.out).mono ?_
  rintro e w2 ⟨rfl, hb⟩
  have XC2 := Lib.hid (KC.out.below hb KC.out.lt)
  have B2 := Lib.hid (BB.out.trans (hb.mono BB.out.size))
  have hz2 := hb.size
  clear hb KC BB
  rw [HM.out]
  obtain ⟨y, hy⟩ : ∃ y, mvS x raw = y := ⟨_, rfl⟩
  rw [hy]
  clear hy
  go_wp2_with fail
  go_ret
  exact ⟨rfl, XC2.out.alloc _, grown_of_below (B2.out.alloc B2.out.size _)⟩
set_option maxRecDepth 100000 in
theorem changeFreq_yes (p0 : Option Addr) (C : Nat) (x z : St) (raw : Int) (w : World) (hx : Ok x) (hk : KB 51 w C x) (hm : mvE x raw = 0) 
    (HF : ∀ (w1 : World) (M : Nat), Below w.heap.size w w1 → w.heap.size ≤ M → KB 23 w1 M (mvG x raw) → Calls Try.prog 35 #[.pointer (some ⟨M, 0, none⟩), .pointer p0] w1 (Done 23 M w1 0 z)) :
    Calls Try.prog 34 #[.pointer (some ⟨C, 0, none⟩), .int .i64 raw, .bool true, .func (Fn.func 35) #[] #[.pointer p0]] w (Done 51 C w 0 z) := by
  have KC := Lib.hid hk
  have HOK := Lib.hid hx
  have BB := Lib.hid (Below.refl w.heap.size w)
  have HC := hk.lt
  have HM := Lib.hid hm
  have HF := Lib.hid HF
  clear hk hx hm 
  go_enter Try.func34, Try.ntmps34
  obtain ⟨c1_0, c1_1, c1_2, c1_3, c1_4, c1_5⟩ := KC.out.cells
  go_wp2_with fail
  clear c1_0 c1_1 c1_2 c1_3 c1_4 c1_5
  refine (moved_any x raw _ HOK.out).mono ?_
  rintro e w2 ⟨rfl, hb⟩
  have XC2 := Lib.hid (KC.out.below hb KC.out.lt)
  have B2 := Lib.hid (BB.out.trans (hb.mono BB.out.size))
  have hz2 := hb.size
  clear hb KC BB
  rw [HM.out]
  obtain ⟨y, hy⟩ : ∃ y, mvS x raw = y := ⟨_, rfl⟩
  rw [hy]
  have HY : Hid (y = mvG x raw) := Lib.hid (by rw [← hy]; exact if_pos HM.out)
  clear hy
  have Nm3 : Hid (KB 23 (w2.alloc (.cells #[.int .i64 y.r, .int .i64 y.t, .int .i64 y.p, .int .i64 y.l, .int .i64 y.q, .int .i64 y.s] 23)) w2.heap.size ⟨y.r, y.t, y.p, y.l, y.q, y.s⟩) := Lib.hid (kb_new _ w2 y.r y.t y.p y.l y.q y.s)
  have lC3 := XC2.out.lt
  have NC3 := Lib.hid (XC2.out.alloc (.cells #[.int .i64 y.r, .int .i64 y.t, .int .i64 y.p, .int .i64 y.l, .int .i64 y.q, .int .i64 y.s] 23))
  have E3 := Lib.hid (B2.out.alloc B2.out.size (.cells #[.int .i64 y.r, .int .i64 y.t, .int .i64 y.p, .int .i64 y.l, .int .i64 y.q, .int .i64 y.s] 23))
  have hs3 := B2.out.size
  obtain ⟨S3, hS3⟩ : ∃ W, w2.alloc (.cells #[.int .i64 y.r, .int .i64 y.t, .int .i64 y.p, .int .i64 y.l, .int .i64 y.q, .int .i64 y.s] 23) = W := ⟨_, rfl⟩
  have hsz3 : S3.heap.size = w2.heap.size + 1 := by rw [← hS3]; simp
  have HSZ3 := Lib.hid hsz3
  have hle3 : w2.heap.size < S3.heap.size := by omega
  clear hsz3
  rw [hS3] at Nm3 NC3 E3
  clear XC2 B2
  go_wp2_with fail
  clear hS3
  refine (HF.out S3 (w2.heap.size) (E3.out) (by omega) (by rw [← HY.out]; exact Nm3.out)).mono ?_
  rintro e v1 ⟨rfl, hkm, hg⟩
  have XM := Lib.hid hkm
  have XC := Lib.hid (NC3.out.grown hg (by omega))
  have BE := Lib.hid (below_of_grown' E3.out hg (by omega) E3.out.size)
  clear hkm hg Nm3 NC3 E3 HF
  obtain ⟨c4_0, c4_1, c4_2, c4_3, c4_4, c4_5⟩ := XM.out.cells
  have GG := Lib.hid (grown_of_below (r := some C) BE.out)
  have r5 := XC.out.cells.1
  have g5 := XC.out.thaw.1
  have NC5 : Hid (KB 51 (v1.setCell ⟨C, 0, none⟩ (.int .i64 z.r)) C ⟨z.r, x.t, x.p, x.l, x.q, x.s⟩) := Lib.hid (XC.out.set0 z.r)
  have NG5 := Lib.hid (grown_set (i := 0) GG.out (.int .i64 z.r))
  obtain ⟨S5, hS5⟩ : ∃ W, v1.setCell ⟨C, 0, none⟩ (.int .i64 z.r) = W := ⟨_, rfl⟩
  rw [hS5] at NC5 NG5
  clear XC GG
  have r6 := NC5.out.cells.2.1
  have g6 := NC5.out.thaw.2.1
  have NC6 : Hid (KB 51 (S5.setCell ⟨C, 1, none⟩ (.int .i64 z.t)) C ⟨z.r, z.t, x.p, x.l, x.q, x.s⟩) := Lib.hid (NC5.out.set1 z.t)
  have NG6 := Lib.hid (grown_set (i := 1) NG5.out (.int .i64 z.t))
  obtain ⟨S6, hS6⟩ : ∃ W, S5.setCell ⟨C, 1, none⟩ (.int .i64 z.t) = W := ⟨_, rfl⟩
  rw [hS6] at NC6 NG6
  clear NC5 NG5
  have r7 := NC6.out.cells.2.2.1
  have g7 := NC6.out.thaw.2.2.1
  have NC7 : Hid (KB 51 (S6.setCell ⟨C, 2, none⟩ (.int .i64 z.p)) C ⟨z.r, z.t, z.p, x.l, x.q, x.s⟩) := Lib.hid (NC6.out.set2 z.p)
  have NG7 := Lib.hid (grown_set (i := 2) NG6.out (.int .i64 z.p))
  obtain ⟨S7, hS7⟩ : ∃ W, S6.setCell ⟨C, 2, none⟩ (.int .i64 z.p) = W := ⟨_, rfl⟩
  rw [hS7] at NC7 NG7
  clear NC6 NG6
  have r8 := NC7.out.cells.2.2.2.1
  have g8 := NC7.out.thaw.2.2.2.1
  have NC8 : Hid (KB 51 (S7.setCell ⟨C, 3, none⟩ (.int .i64 z.l)) C ⟨z.r, z.t, z.p, z.l, x.q, x.s⟩) := Lib.hid (NC7.out.set3 z.l)
  have NG8 := Lib.hid (grown_set (i := 3) NG7.out (.int .i64 z.l))
  obtain ⟨S8, hS8⟩ : ∃ W, S7.setCell ⟨C, 3, none⟩ (.int .i64 z.l) = W := ⟨_, rfl⟩
  rw [hS8] at NC8 NG8
  clear NC7 NG7
  have r9 := NC8.out.cells.2.2.2.2.1
  have g9 := NC8.out.thaw.2.2.2.2.1
  have NC9 : Hid (KB 51 (S8.setCell ⟨C, 4, none⟩ (.int .i64 z.q)) C ⟨z.r, z.t, z.p, z.l, z.q, x.s⟩) := Lib.hid (NC8.out.set4 z.q)
  have NG9 := Lib.hid (grown_set (i := 4) NG8.out (.int .i64 z.q))
  obtain ⟨S9, hS9⟩ : ∃ W, S8.setCell ⟨C, 4, none⟩ (.int .i64 z.q) = W := ⟨_, rfl⟩
  rw [hS9] at NC9 NG9
  clear NC8 NG8
  have r10 := NC9.out.cells.2.2.2.2.2
  have g10 := NC9.out.thaw.2.2.2.2.2
  have NC10 : Hid (KB 51 (S9.setCell ⟨C, 5, none⟩ (.int .i64 z.s)) C ⟨z.r, z.t, z.p, z.l, z.q, z.s⟩) := Lib.hid (NC9.out.set5 z.s)
  have NG10 := Lib.hid (grown_set (i := 5) NG9.out (.int .i64 z.s))
  obtain ⟨S10, hS10⟩ : ∃ W, S9.setCell ⟨C, 5, none⟩ (.int .i64 z.s) = W := ⟨_, rfl⟩
  rw [hS10] at NC10 NG10
  clear NC9 NG9
  go_wp2_with fail
  go_ret
  exact ⟨rfl, NC10.out, NG10.out⟩
set_option maxRecDepth 100000 in
theorem changeSlew_yes (p0 p1 : Option Addr) (C : Nat) (x z : St) (raw : Int) (w : World) (hx : Ok x) (hk : KB 51 w C x) (hm : mvE x raw = 0) 
    (HF : ∀ (w1 : World) (M : Nat), Below w.heap.size w w1 → w.heap.size ≤ M → KB 23 w1 M (mvG x raw) → Calls Try.prog 36 #[.pointer (some ⟨M, 0, none⟩), .pointer p0, .pointer p1] w1 (Done 23 M w1 0 z)) :
    Calls Try.prog 34 #[.pointer (some ⟨C, 0, none⟩), .int .i64 raw, .bool true, .func (Fn.func 36) #[] #[.pointer p0, .pointer p1]] w (Done 51 C w 0 z) := by
  have KC := Lib.hid hk
  have HOK := Lib.hid hx
  have BB := Lib.hid (Below.refl w.heap.size w)
  have HC := hk.lt
  have HM := Lib.hid hm
  have HF := Lib.hid HF
  clear hk hx hm 
  go_enter Try.func34, Try.ntmps34
  obtain ⟨c1_0, c1_1, c1_2, c1_3, c1_4, c1_5⟩ := KC.out.cells
  go_wp2_with fail
  clear c1_0 c1_1 c1_2 c1_3 c1_4 c1_5
  refine (moved_any x raw _ HOK.out).mono ?_
  rintro e w2 ⟨rfl, hb⟩
  have XC2 := Lib.hid (KC.out.below hb KC.out.lt)
  have B2 := Lib.hid (BB.out.trans (hb.mono BB.out.size))
  have hz2 := hb.size
  clear hb KC BB
  rw [HM.out]
  obtain ⟨y, hy⟩ : ∃ y, mvS x raw = y := ⟨_, rfl⟩
  rw [hy]
  have HY : Hid (y = mvG x raw) := Lib.hid (by rw [← hy]; exact if_pos HM.out)
  clear hy
  have Nm3 : Hid (KB 23 (w2.alloc (.cells #[.int .i64 y.r, .int .i64 y.t, .int .i64 y.p, .int .i64 y.l, .int .i64 y.q, .int .i64 y.s] 23)) w2.heap.size ⟨y.r, y.t, y.p, y.l, y.q, y.s⟩) := Lib.hid (kb_new _ w2 y.r y.t y.p y.l y.q y.s)
  have lC3 := XC2.out.lt
  have NC3 := Lib.hid (XC2.out.alloc (.cells #[.int .i64 y.r, .int .i64 y.t, .int .i64 y.p, .int .i64 y.l, .int .i64 y.q, .int .i64 y.s] 23))
  have E3 := Lib.hid (B2.out.alloc B2.out.size (.cells #[.int .i64 y.r, .int .i64 y.t, .int .i64 y.p, .int .i64 y.l, .int .i64 y.q, .int .i64 y.s] 23))
  have hs3 := B2.out.size
  obtain ⟨S3, hS3⟩ : ∃ W, w2.alloc (.cells #[.int .i64 y.r, .int .i64 y.t, .int .i64 y.p, .int .i64 y.l, .int .i64 y.q, .int .i64 y.s] 23) = W := ⟨_, rfl⟩
  have hsz3 : S3.heap.size = w2.heap.size + 1 := by rw [← hS3]; simp
  have HSZ3 := Lib.hid hsz3
  have hle3 : w2.heap.size < S3.heap.size := by omega
  clear hsz3
  rw [hS3] at Nm3 NC3 E3
  clear XC2 B2
  go_wp2_with fail
  clear hS3
  refine (HF.out S3 (w2.heap.size) (E3.out) (by omega) (by rw [← HY.out]; exact Nm3.out)).mono ?_
  rintro e v1 ⟨rfl, hkm, hg⟩
  have XM := Lib.hid hkm
  have XC := Lib.hid (NC3.out.grown hg (by omega))
  have BE := Lib.hid (below_of_grown' E3.out hg (by omega) E3.out.size)
  clear hkm hg Nm3 NC3 E3 HF
  obtain ⟨c4_0, c4_1, c4_2, c4_3, c4_4, c4_5⟩ := XM.out.cells
  have GG := Lib.hid (grown_of_below (r := some C) BE.out)
  have r5 := XC.out.cells.1
  have g5 := XC.out.thaw.1
  have NC5 : Hid (KB 51 (v1.setCell ⟨C, 0, none⟩ (.int .i64 z.r)) C ⟨z.r, x.t, x.p, x.l, x.q, x.s⟩) := Lib.hid (XC.out.set0 z.r)
  have NG5 := Lib.hid (grown_set (i := 0) GG.out (.int .i64 z.r))
  obtain ⟨S5, hS5⟩ : ∃ W, v1.setCell ⟨C, 0, none⟩ (.int .i64 z.r) = W := ⟨_, rfl⟩
  rw [hS5] at NC5 NG5
  clear XC GG
  have r6 := NC5.out.cells.2.1
  have g6 := NC5.out.thaw.2.1
  have NC6 : Hid (KB 51 (S5.setCell ⟨C, 1, none⟩ (.int .i64 z.t)) C ⟨z.r, z.t, x.p, x.l, x.q, x.s⟩) := Lib.hid (NC5.out.set1 z.t)
  have NG6 := Lib.hid (grown_set (i := 1) NG5.out (.int .i64 z.t))
  obtain ⟨S6, hS6⟩ : ∃ W, S5.setCell ⟨C, 1, none⟩ (.int .i64 z.t) = W := ⟨_, rfl⟩
  rw [hS6] at NC6 NG6
  clear NC5 NG5
  have r7 := NC6.out.cells.2.2.1
  have g7 := NC6.out.thaw.2.2.1
  have NC7 : Hid (KB 51 (S6.setCell ⟨C, 2, none⟩ (.int .i64 z.p)) C ⟨z.r, z.t, z.p, x.l, x.q, x.s⟩) := Lib.hid (NC6.out.set2 z.p)
  have NG7 := Lib.hid (grown_set (i := 2) NG6.out (.int .i64 z.p))
  obtain ⟨S7, hS7⟩ : ∃ W, S6.setCell ⟨C, 2, none⟩ (.int .i64 z.p) = W := ⟨_, rfl⟩
  rw [hS7] at NC7 NG7
  clear NC6 NG6
  have r8 := NC7.out.cells.2.2.2.1
  have g8 := NC7.out.thaw.2.2.2.1
  have NC8 : Hid (KB 51 (S7.setCell ⟨C, 3, none⟩ (.int .i64 z.l)) C ⟨z.r, z.t, z.p, z.l, x.q, x.s⟩) := Lib.hid (NC7.out.set3 z.l)
  have NG8 := Lib.hid (grown_set (i := 3) NG7.out (.int .i64 z.l))
  obtain ⟨S8, hS8⟩ : ∃ W, S7.setCell ⟨C, 3, none⟩ (.int .i64 z.l) = W := ⟨_, rfl⟩
  rw [hS8] at NC8 NG8
  clear NC7 NG7
  have r9 := NC8.out.cells.2.2.2.2.1
  have g9 := NC8.out.thaw.2.2.2.2.1
  have NC9 : Hid (KB 51 (S8.setCell ⟨C, 4, none⟩ (.int .i64 z.q)) C ⟨z.r, z.t, z.p, z.l, z.q, x.s⟩) := Lib.hid (NC8.out.set4 z.q)
  have NG9 := Lib.hid (grown_set (i := 4) NG8.out (.int .i64 z.q))
  obtain ⟨S9, hS9⟩ : ∃ W, S8.setCell ⟨C, 4, none⟩ (.int .i64 z.q) = W := ⟨_, rfl⟩
  rw [hS9] at NC9 NG9
  clear NC8 NG8
  have r10 := NC9.out.cells.2.2.2.2.2
  have g10 := NC9.out.thaw.2.2.2.2.2
  have NC10 : Hid (KB 51 (S9.setCell ⟨C, 5, none⟩ (.int .i64 z.s)) C ⟨z.r, z.t, z.p, z.l, z.q, z.s⟩) := Lib.hid (NC9.out.set5 z.s)
  have NG10 := Lib.hid (grown_set (i := 5) NG9.out (.int .i64 z.s))
  obtain ⟨S10, hS10⟩ : ∃ W, S9.setCell ⟨C, 5, none⟩ (.int .i64 z.s) = W := ⟨_, rfl⟩
  rw [hS10] at NC10 NG10
  clear NC9 NG9
  go_wp2_with fail
  go_ret
  exact ⟨rfl, NC10.out, NG10.out⟩
set_option maxRecDepth 100000 in
theorem changeStep_yes (p0 : Option Addr) (C : Nat) (x z : St) (raw : Int) (w : World) (hx : Ok x) (hk : KB 51 w C x) (hm : mvE x raw = 0) 
    (HF : ∀ (w1 : World) (M : Nat), Below w.heap.size w w1 → w.heap.size ≤ M → KB 23 w1 M (mvG x raw) → Calls Try.prog 37 #[.pointer (some ⟨M, 0, none⟩), .pointer p0] w1 (Done 23 M w1 0 z)) :
    Calls Try.prog 34 #[.pointer (some ⟨C, 0, none⟩), .int .i64 raw, .bool true, .func (Fn.func 37) #[] #[.pointer p0]] w (Done 51 C w 0 z) := by
  have KC := Lib.hid hk
  have HOK := Lib.hid hx
  have BB := Lib.hid (Below.refl w.heap.size w)
  have HC := hk.lt
  have HM := Lib.hid hm
  have HF := Lib.hid HF
  clear hk hx hm 
  go_enter Try.func34, Try.ntmps34
  obtain ⟨c1_0, c1_1, c1_2, c1_3, c1_4, c1_5⟩ := KC.out.cells
  go_wp2_with fail
  clear c1_0 c1_1 c1_2 c1_3 c1_4 c1_5
  refine (moved_any x raw _ HOK.out).mono ?_
  rintro e w2 ⟨rfl, hb⟩
  have XC2 := Lib.hid (KC.out.below hb KC.out.lt)
  have B2 := Lib.hid (BB.out.trans (hb.mono BB.out.size))
  have hz2 := hb.size
  clear hb KC BB
  rw [HM.out]
  obtain ⟨y, hy⟩ : ∃ y, mvS x raw = y := ⟨_, rfl⟩
  rw [hy]
  have HY : Hid (y = mvG x raw) := Lib.hid (by rw [← hy]; exact if_pos HM.out)
  clear hy
  have Nm3 : Hid (KB 23 (w2.alloc (.cells #[.int .i64 y.r, .int .i64 y.t, .int .i64 y.p, .int .i64 y.l, .int .i64 y.q, .int .i64 y.s] 23)) w2.heap.size ⟨y.r, y.t, y.p, y.l, y.q, y.s⟩) := Lib.hid (kb_new _ w2 y.r y.t y.p y.l y.q y.s)
  have lC3 := XC2.out.lt
  have NC3 := Lib.hid (XC2.out.alloc (.cells #[.int .i64 y.r, .int .i64 y.t, .int .i64 y.p, .int .i64 y.l, .int .i64 y.q, .int .i64 y.s] 23))
  have E3 := Lib.hid (B2.out.alloc B2.out.size (.cells #[.int .i64 y.r, .int .i64 y.t, .int .i64 y.p, .int .i64 y.l, .int .i64 y.q, .int .i64 y.s] 23))
  have hs3 := B2.out.size
  obtain ⟨S3, hS3⟩ : ∃ W, w2.alloc (.cells #[.int .i64 y.r, .int .i64 y.t, .int .i64 y.p, .int .i64 y.l, .int .i64 y.q, .int .i64 y.s] 23) = W := ⟨_, rfl⟩
  have hsz3 : S3.heap.size = w2.heap.size + 1 := by rw [← hS3]; simp
  have HSZ3 := Lib.hid hsz3
  have hle3 : w2.heap.size < S3.heap.size := by omega
  clear hsz3
  rw [hS3] at Nm3 NC3 E3
  clear XC2 B2
  go_wp2_with fail
  clear hS3
  refine (HF.out S3 (w2.heap.size) (E3.out) (by omega) (by rw [← HY.out]; exact Nm3.out)).mono ?_
  rintro e v1 ⟨rfl, hkm, hg⟩
  have XM := Lib.hid hkm
  have XC := Lib.hid (NC3.out.grown hg (by omega))
  have BE := Lib.hid (below_of_grown' E3.out hg (by omega) E3.out.size)
  clear hkm hg Nm3 NC3 E3 HF
  obtain ⟨c4_0, c4_1, c4_2, c4_3, c4_4, c4_5⟩ := XM.out.cells
  have GG := Lib.hid (grown_of_below (r := some C) BE.out)
  have r5 := XC.out.cells.1
  have g5 := XC.out.thaw.1
  have NC5 : Hid (KB 51 (v1.setCell ⟨C, 0, none⟩ (.int .i64 z.r)) C ⟨z.r, x.t, x.p, x.l, x.q, x.s⟩) := Lib.hid (XC.out.set0 z.r)
  have NG5 := Lib.hid (grown_set (i := 0) GG.out (.int .i64 z.r))
  obtain ⟨S5, hS5⟩ : ∃ W, v1.setCell ⟨C, 0, none⟩ (.int .i64 z.r) = W := ⟨_, rfl⟩
  rw [hS5] at NC5 NG5
  clear XC GG
  have r6 := NC5.out.cells.2.1
  have g6 := NC5.out.thaw.2.1
  have NC6 : Hid (KB 51 (S5.setCell ⟨C, 1, none⟩ (.int .i64 z.t)) C ⟨z.r, z.t, x.p, x.l, x.q, x.s⟩) := Lib.hid (NC5.out.set1 z.t)
  have NG6 := Lib.hid (grown_set (i := 1) NG5.out (.int .i64 z.t))
  obtain ⟨S6, hS6⟩ : ∃ W, S5.setCell ⟨C, 1, none⟩ (.int .i64 z.t) = W := ⟨_, rfl⟩
  rw [hS6] at NC6 NG6
  clear NC5 NG5
  have r7 := NC6.out.cells.2.2.1
  have g7 := NC6.out.thaw.2.2.1
  have NC7 : Hid (KB 51 (S6.setCell ⟨C, 2, none⟩ (.int .i64 z.p)) C ⟨z.r, z.t, z.p, x.l, x.q, x.s⟩) := Lib.hid (NC6.out.set2 z.p)
  have NG7 := Lib.hid (grown_set (i := 2) NG6.out (.int .i64 z.p))
  obtain ⟨S7, hS7⟩ : ∃ W, S6.setCell ⟨C, 2, none⟩ (.int .i64 z.p) = W := ⟨_, rfl⟩
  rw [hS7] at NC7 NG7
  clear NC6 NG6
  have r8 := NC7.out.cells.2.2.2.1
  have g8 := NC7.out.thaw.2.2.2.1
  have NC8 : Hid (KB 51 (S7.setCell ⟨C, 3, none⟩ (.int .i64 z.l)) C ⟨z.r, z.t, z.p, z.l, x.q, x.s⟩) := Lib.hid (NC7.out.set3 z.l)
  have NG8 := Lib.hid (grown_set (i := 3) NG7.out (.int .i64 z.l))
  obtain ⟨S8, hS8⟩ : ∃ W, S7.setCell ⟨C, 3, none⟩ (.int .i64 z.l) = W := ⟨_, rfl⟩
  rw [hS8] at NC8 NG8
  clear NC7 NG7
  have r9 := NC8.out.cells.2.2.2.2.1
  have g9 := NC8.out.thaw.2.2.2.2.1
  have NC9 : Hid (KB 51 (S8.setCell ⟨C, 4, none⟩ (.int .i64 z.q)) C ⟨z.r, z.t, z.p, z.l, z.q, x.s⟩) := Lib.hid (NC8.out.set4 z.q)
  have NG9 := Lib.hid (grown_set (i := 4) NG8.out (.int .i64 z.q))
  obtain ⟨S9, hS9⟩ : ∃ W, S8.setCell ⟨C, 4, none⟩ (.int .i64 z.q) = W := ⟨_, rfl⟩
  rw [hS9] at NC9 NG9
  clear NC8 NG8
  have r10 := NC9.out.cells.2.2.2.2.2
  have g10 := NC9.out.thaw.2.2.2.2.2
  have NC10 : Hid (KB 51 (S9.setCell ⟨C, 5, none⟩ (.int .i64 z.s)) C ⟨z.r, z.t, z.p, z.l, z.q, z.s⟩) := Lib.hid (NC9.out.set5 z.s)
  have NG10 := Lib.hid (grown_set (i := 5) NG9.out (.int .i64 z.s))
  obtain ⟨S10, hS10⟩ : ∃ W, S9.setCell ⟨C, 5, none⟩ (.int .i64 z.s) = W := ⟨_, rfl⟩
  rw [hS10] at NC10 NG10
  clear NC9 NG9
  go_wp2_with fail
  go_ret
  exact ⟨rfl, NC10.out, NG10.out⟩
set_option maxRecDepth 100000 in
theorem changeStep_then (p0 : Option Addr) (C : Nat) (x z : St) (raw ee : Int) (w : World) (hx : Ok x) (hk : KB 51 w C x) (hm : mvE x raw = 0) (he : ¬ ee = 0)
    (HF : ∀ (w1 : World) (M : Nat), Below w.heap.size w w1 → w.heap.size ≤ M → KB 23 w1 M (mvG x raw) → Calls Try.prog 37 #[.pointer (some ⟨M, 0, none⟩), .pointer p0] w1 (Done 23 M w1 ee z)) :
    Calls Try.prog 34 #[.pointer (some ⟨C, 0, none⟩), .int .i64 raw, .bool true, .func (Fn.func 37) #[] #[.pointer p0]] w (Done 51 C w ee x) := by
  have KC := Lib.hid hk
  have HOK := Lib.hid hx
  have BB := Lib.hid (Below.refl w.heap.size w)
  have HC := hk.lt
  have HM := Lib.hid hm
  have HF := Lib.hid HF
  have m0 : (ee == 0) = false := by simpa using he
  have m1 : (ee != 0) = true := by simpa using he
  clear hk hx hm he
  go_enter Try.func34, Try.ntmps34
  obtain ⟨c1_0, c1_1, c1_2, c1_3, c1_4, c1_5⟩ := KC.out.cells
  go_wp2_with fail
  clear c1_0 c1_1 c1_2 c1_3 c1_4 c1_5
  refine (moved_any x raw _ HOK.out).mono ?_
  rintro e w2 ⟨rfl, hb⟩
  have XC2 := Lib.hid (KC.out.below hb KC.out.lt)
  have B2 := Lib.hid (BB.out.trans (hb.mono BB.out.size))
  have hz2 := hb.size
  clear hb KC BB
  rw [HM.out]
  obtain ⟨y, hy⟩ : ∃ y, mvS x raw = y := ⟨_, rfl⟩
  rw [hy]
  have HY : Hid (y = mvG x raw) := Lib.hid (by rw [← hy]; exact if_pos HM.out)
  clear hy
  have Nm3 : Hid (KB 23 (w2.alloc (.cells #[.int .i64 y.r, .int .i64 y.t, .int .i64 y.p, .int .i64 y.l, .int .i64 y.q, .int .i64 y.s] 23)) w2.heap.size ⟨y.r, y.t, y.p, y.l, y.q, y.s⟩) := Lib.hid (kb_new _ w2 y.r y.t y.p y.l y.q y.s)
  have lC3 := XC2.out.lt
  have NC3 := Lib.hid (XC2.out.alloc (.cells #[.int .i64 y.r, .int .i64 y.t, .int .i64 y.p, .int .i64 y.l, .int .i64 y.q, .int .i64 y.s] 23))
  have E3 := Lib.hid (B2.out.alloc B2.out.size (.cells #[.int .i64 y.r, .int .i64 y.t, .int .i64 y.p, .int .i64 y.l, .int .i64 y.q, .int .i64 y.s] 23))
  have hs3 := B2.out.size
  obtain ⟨S3, hS3⟩ : ∃ W, w2.alloc (.cells #[.int .i64 y.r, .int .i64 y.t, .int .i64 y.p, .int .i64 y.l, .int .i64 y.q, .int .i64 y.s] 23) = W := ⟨_, rfl⟩
  have hsz3 : S3.heap.size = w2.heap.size + 1 := by rw [← hS3]; simp
  have HSZ3 := Lib.hid hsz3
  have hle3 : w2.heap.size < S3.heap.size := by omega
  clear hsz3
  rw [hS3] at Nm3 NC3 E3
  clear XC2 B2
  go_wp2_with fail
  clear hS3
  refine (HF.out S3 (w2.heap.size) (E3.out) (by omega) (by rw [← HY.out]; exact Nm3.out)).mono ?_
  rintro e v1 ⟨rfl, hkm, hg⟩
  have XM := Lib.hid hkm
  have XC := Lib.hid (NC3.out.grown hg (by omega))
  have BE := Lib.hid (below_of_grown' E3.out hg (by omega) E3.out.size)
  clear hkm hg Nm3 NC3 E3 HF
  go_wp2_with fail
  go_ret
  exact ⟨rfl, XC.out, grown_of_below BE.out⟩
end Go.Proofs.Ytjcpfkibaohjjaa
