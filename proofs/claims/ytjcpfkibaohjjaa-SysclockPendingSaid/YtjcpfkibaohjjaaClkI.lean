/- Contracts of layer 10: the specification's methods that read. -/
import Derived.Test.YtjcpfkibaohjjaaClkH
namespace Go.Proofs.Ytjcpfkibaohjjaa
open Go.RowKit Fx Ck

set_option maxRecDepth 100000 in
theorem rnow_early (C : Nat) (r t p l q s raw : Int) (w : World) (hk : KB 53 w C ⟨r, t, p, l, q, s⟩) (h : raw < r) :
    Calls Try.prog 27 #[.pointer (some ⟨C, 0, none⟩), .int .i64 raw] w fun e w' => e = .returned (.tuple #[.int .i64 0, .int .i64 12]) ∧ Below w.heap.size w w' := by
  have KC := Lib.hid hk
  have BB := Lib.hid (Below.refl w.heap.size w)
  clear hk
  have d1 : decide (raw < r) = true := decide_eq_true h
  obtain ⟨c1_0, c1_1, c1_2, c1_3, c1_4, c1_5⟩ := KC.out.cells
  go_enter Try.func27, Try.ntmps27
  go_wp2
  go_ret2
  exact ⟨rfl, Below.refl _ _⟩
set_option maxRecDepth 100000 in
theorem rnow_late (C : Nat) (r t p l q s raw : Int) (w : World) (hk : KB 53 w C ⟨r, t, p, l, q, s⟩) (h0 : r ≤ raw) (h : 4503599627370496 < raw) :
    Calls Try.prog 27 #[.pointer (some ⟨C, 0, none⟩), .int .i64 raw] w fun e w' => e = .returned (.tuple #[.int .i64 0, .int .i64 3]) ∧ Below w.heap.size w w' := by
  have KC := Lib.hid hk
  have BB := Lib.hid (Below.refl w.heap.size w)
  clear hk
  have d1 : decide (raw < r) = false := decide_eq_false (by omega)
  have d2 : decide (4503599627370496 < raw) = true := decide_eq_true h
  obtain ⟨c1_0, c1_1, c1_2, c1_3, c1_4, c1_5⟩ := KC.out.cells
  go_enter Try.func27, Try.ntmps27
  go_wp2
  go_ret2
  exact ⟨rfl, Below.refl _ _⟩
set_option maxRecDepth 100000 in
theorem rnow_far (C : Nat) (r t p l q s raw : Int) (w : World) (hk : KB 53 w C ⟨r, t, p, l, q, s⟩) (hr : -4503599627370496 ≤ r ∧ r ≤ 4503599627370496) (ht : -4503599627370496 ≤ t ∧ t ≤ 4503599627370496) (hl : -4503599627370496 ≤ l ∧ l ≤ 4503599627370496) (hp : -500000 ≤ p ∧ p ≤ 500000) (hq : 0 ≤ q ∧ q ≤ 500000) (hlq : l = 0 ∨ 0 < q) (h0 : r ≤ raw) (h1 : raw ≤ 4503599627370496) (hw : win (shn t p l q (raw - r)) 4503599627370496 = false) :
    Calls Try.prog 27 #[.pointer (some ⟨C, 0, none⟩), .int .i64 raw] w fun e w' => e = .returned (.tuple #[.int .i64 0, .int .i64 3]) ∧ Below w.heap.size w w' := by
  have KC := Lib.hid hk
  have BB := Lib.hid (Below.refl w.heap.size w)
  clear hk
  have d1 : decide (raw < r) = false := decide_eq_false (by omega)
  have d2 : decide (4503599627370496 < raw) = false := decide_eq_false (by omega)
  obtain ⟨T, hT⟩ : ∃ T, shn t p l q (raw - r) = T := ⟨_, rfl⟩
  rw [hT] at hw
  have HT := Lib.hid hT
  have HR := Lib.hid (And.intro ht (And.intro hl (And.intro hp (And.intro hq (And.intro hlq (show 0 ≤ raw - r ∧ raw - r ≤ 9007199254740992 by omega))))))
  have hsub : IntKind.i64.wrap (raw - r) = raw - r := IntWalk.i64_in _ (by omega)
  obtain ⟨r0, r1⟩ := hr
  clear hT ht hl hp hq hlq
  obtain ⟨c1_0, c1_1, c1_2, c1_3, c1_4, c1_5⟩ := KC.out.cells
  go_enter Try.func27, Try.ntmps27
  go_wp2_with fail
  go_region_held3 (fun w' => w'.cell? ⟨C, 0, none⟩ = some (.int .i64 r) ∧ w'.cell? ⟨C, 1, none⟩ = some (.int .i64 t) ∧ w'.cell? ⟨C, 2, none⟩ = some (.int .i64 p) ∧ w'.cell? ⟨C, 3, none⟩ = some (.int .i64 l) ∧ w'.cell? ⟨C, 4, none⟩ = some (.int .i64 q) ∧ w'.cell? ⟨C, 5, none⟩ = some (.int .i64 s)) (go_keep)
      (first | (go_at_call 39; refine (rshown_any r t p l q s (raw - r) _ HR.out.1 HR.out.2.1 HR.out.2.2.1 HR.out.2.2.2.1 HR.out.2.2.2.2.1 HR.out.2.2.2.2.2.1 HR.out.2.2.2.2.2.2).mono ?_; rintro e w2 ⟨rfl, hb⟩; have hb : Below w.heap.size w w2 := ⟨hb.os, hb.tape, hb.output, hb.size, hb.block⟩; have XC2 := Lib.hid (KC.out.below hb KC.out.lt); obtain ⟨cC2_0, cC2_1, cC2_2, cC2_3, cC2_4, cC2_5⟩ := XC2.out.cells; have B2 := Lib.hid (BB.out.trans (hb.mono BB.out.size)); have hz2 := hb.size; clear hb KC BB; rw [HT.out]; clear c1_0 c1_1 c1_2 c1_3 c1_4 c1_5))
  go_wp2_with fail
  refine (rwin_any T 4503599627370496 _ (by decide) (by decide)).mono ?_
  rintro e w' ⟨rfl, rfl⟩
  go_wp2_with fail
  go_ret2
  exact ⟨rfl, B2.out⟩
set_option maxRecDepth 100000 in
theorem rnow_ok (C : Nat) (r t p l q s raw : Int) (w : World) (hk : KB 53 w C ⟨r, t, p, l, q, s⟩) (hr : -4503599627370496 ≤ r ∧ r ≤ 4503599627370496) (ht : -4503599627370496 ≤ t ∧ t ≤ 4503599627370496) (hl : -4503599627370496 ≤ l ∧ l ≤ 4503599627370496) (hp : -500000 ≤ p ∧ p ≤ 500000) (hq : 0 ≤ q ∧ q ≤ 500000) (hlq : l = 0 ∨ 0 < q) (h0 : r ≤ raw) (h1 : raw ≤ 4503599627370496) (hw : win (shn t p l q (raw - r)) 4503599627370496 = true) :
    Calls Try.prog 27 #[.pointer (some ⟨C, 0, none⟩), .int .i64 raw] w fun e w' => e = .returned (.tuple #[.int .i64 (shn t p l q (raw - r)), .int .i64 0]) ∧ Below w.heap.size w w' := by
  have KC := Lib.hid hk
  have BB := Lib.hid (Below.refl w.heap.size w)
  clear hk
  have d1 : decide (raw < r) = false := decide_eq_false (by omega)
  have d2 : decide (4503599627370496 < raw) = false := decide_eq_false (by omega)
  obtain ⟨T, hT⟩ : ∃ T, shn t p l q (raw - r) = T := ⟨_, rfl⟩
  rw [hT] at hw
  have HT := Lib.hid hT
  have HR := Lib.hid (And.intro ht (And.intro hl (And.intro hp (And.intro hq (And.intro hlq (show 0 ≤ raw - r ∧ raw - r ≤ 9007199254740992 by omega))))))
  have hsub : IntKind.i64.wrap (raw - r) = raw - r := IntWalk.i64_in _ (by omega)
  obtain ⟨r0, r1⟩ := hr
  clear hT ht hl hp hq hlq
  obtain ⟨c1_0, c1_1, c1_2, c1_3, c1_4, c1_5⟩ := KC.out.cells
  go_enter Try.func27, Try.ntmps27
  go_wp2_with fail
  go_region_held3 (fun w' => w'.cell? ⟨C, 0, none⟩ = some (.int .i64 r) ∧ w'.cell? ⟨C, 1, none⟩ = some (.int .i64 t) ∧ w'.cell? ⟨C, 2, none⟩ = some (.int .i64 p) ∧ w'.cell? ⟨C, 3, none⟩ = some (.int .i64 l) ∧ w'.cell? ⟨C, 4, none⟩ = some (.int .i64 q) ∧ w'.cell? ⟨C, 5, none⟩ = some (.int .i64 s)) (go_keep)
      (first | (go_at_call 39; refine (rshown_any r t p l q s (raw - r) _ HR.out.1 HR.out.2.1 HR.out.2.2.1 HR.out.2.2.2.1 HR.out.2.2.2.2.1 HR.out.2.2.2.2.2.1 HR.out.2.2.2.2.2.2).mono ?_; rintro e w2 ⟨rfl, hb⟩; have hb : Below w.heap.size w w2 := ⟨hb.os, hb.tape, hb.output, hb.size, hb.block⟩; have XC2 := Lib.hid (KC.out.below hb KC.out.lt); obtain ⟨cC2_0, cC2_1, cC2_2, cC2_3, cC2_4, cC2_5⟩ := XC2.out.cells; have B2 := Lib.hid (BB.out.trans (hb.mono BB.out.size)); have hz2 := hb.size; clear hb KC BB; rw [HT.out]; clear c1_0 c1_1 c1_2 c1_3 c1_4 c1_5))
  go_wp2_with fail
  refine (rwin_any T 4503599627370496 _ (by decide) (by decide)).mono ?_
  rintro e w' ⟨rfl, rfl⟩
  go_wp2_with fail
  go_ret2
  exact ⟨ret_t HT.out.symm rfl, B2.out⟩
theorem rnow_any (C : Nat) (x : St) (raw : Int) (w : World) (h : Ok x) (hk : KB 53 w C x) :
    Calls Try.prog 27 #[.pointer (some ⟨C, 0, none⟩), .int .i64 raw] w fun e w' => e = .returned (.tuple #[.int .i64 (mvS x raw).t, .int .i64 (mvE x raw)]) ∧ Below w.heap.size w w' := by
  obtain ⟨r, t, p, l, q, s⟩ := x
  obtain ⟨hr, ht, hl, hp, hq, hlq, hs⟩ := h
  by_cases h0 : raw < r
  · have e0 : mvE ⟨r, t, p, l, q, s⟩ raw = 12 := if_pos h0
    have e1 : mvS ⟨r, t, p, l, q, s⟩ raw = zer := if_neg (by rw [e0]; decide)
    rw [e1, e0]
    exact rnow_early C r t p l q s raw w hk h0
  · by_cases h1 : 4503599627370496 < raw
    · have e0 : mvE ⟨r, t, p, l, q, s⟩ raw = 3 := (if_neg h0).trans (if_pos h1)
      have e1 : mvS ⟨r, t, p, l, q, s⟩ raw = zer := if_neg (by rw [e0]; decide)
      rw [e1, e0]
      exact rnow_late C r t p l q s raw w hk (by omega) h1
    · cases hw : win (shn t p l q (raw - r)) 4503599627370496 with
      | false =>
        have e0 : mvE ⟨r, t, p, l, q, s⟩ raw = 3 := (if_neg h0).trans ((if_neg h1).trans (if_neg (by show ¬ win (shn t p l q (raw - r)) 4503599627370496 = true; rw [hw]; decide)))
        have e1 : mvS ⟨r, t, p, l, q, s⟩ raw = zer := if_neg (by rw [e0]; decide)
        rw [e1, e0]
        exact rnow_far C r t p l q s raw w hk hr ht hl hp hq hlq (by omega) (by omega) hw
      | true =>
        have e0 : mvE ⟨r, t, p, l, q, s⟩ raw = 0 := (if_neg h0).trans ((if_neg h1).trans (if_pos hw))
        have e1 : mvS ⟨r, t, p, l, q, s⟩ raw = mvG ⟨r, t, p, l, q, s⟩ raw := if_pos e0
        rw [e1, e0]
        exact rnow_ok C r t p l q s raw w hk hr ht hl hp hq hlq (by omega) (by omega) hw
set_option maxRecDepth 100000 in
theorem rstate_any (C : Nat) (x : St) (w : World) (hk : KB 53 w C x) :
    Calls Try.prog 19 #[.pointer (some ⟨C, 0, none⟩)] w fun e w' => e = .returned (.agg #[.int .i64 x.r, .int .i64 x.t, .int .i64 x.p, .int .i64 x.l, .int .i64 x.q, .int .i64 x.s]) ∧ Below w.heap.size w w' := by
  have KC := Lib.hid hk
  have BB := Lib.hid (Below.refl w.heap.size w)
  clear hk
  go_enter Try.func19, Try.ntmps19
  have Nm1 : Hid (KB 23 (w.alloc (.cells #[.int .i64 0, .int .i64 0, .int .i64 0, .int .i64 0, .int .i64 0, .int .i64 0] 23)) w.heap.size ⟨0, 0, 0, 0, 0, 0⟩) := Lib.hid (kb_new _ w 0 0 0 0 0 0)
  have lC1 := KC.out.lt
  have NC1 := Lib.hid (KC.out.alloc (.cells #[.int .i64 0, .int .i64 0, .int .i64 0, .int .i64 0, .int .i64 0, .int .i64 0] 23))
  have E1 := Lib.hid (BB.out.alloc BB.out.size (.cells #[.int .i64 0, .int .i64 0, .int .i64 0, .int .i64 0, .int .i64 0, .int .i64 0] 23))
  have hs1 := BB.out.size
  obtain ⟨S1, hS1⟩ : ∃ W, w.alloc (.cells #[.int .i64 0, .int .i64 0, .int .i64 0, .int .i64 0, .int .i64 0, .int .i64 0] 23) = W := ⟨_, rfl⟩
  have hsz1 : S1.heap.size = w.heap.size + 1 := by rw [← hS1]; simp
  have HSZ1 := Lib.hid hsz1
  have hle1 : w.heap.size < S1.heap.size := by omega
  clear hsz1
  rw [hS1] at Nm1 NC1 E1
  clear KC BB
  obtain ⟨c2_0, c2_1, c2_2, c2_3, c2_4, c2_5⟩ := NC1.out.cells
  have r3 := Nm1.out.cells.1
  have g3 := Nm1.out.thaw.1
  have Nm3 : Hid (KB 23 (S1.setCell ⟨w.heap.size, 0, none⟩ (.int .i64 x.r)) w.heap.size ⟨x.r, 0, 0, 0, 0, 0⟩) := Lib.hid (Nm1.out.set0 x.r)
  have NC3 := Lib.hid (NC1.out.other (D := w.heap.size) (i := 0) (by omega) (.int .i64 x.r))
  have E3 := Lib.hid (below_set (C := w.heap.size) (i := 0) E1.out (by omega) (.int .i64 x.r))
  obtain ⟨S3, hS3⟩ : ∃ W, S1.setCell ⟨w.heap.size, 0, none⟩ (.int .i64 x.r) = W := ⟨_, rfl⟩
  rw [hS3] at Nm3 NC3 E3
  clear NC1 Nm1 E1
  have r4 := Nm3.out.cells.2.1
  have g4 := Nm3.out.thaw.2.1
  have Nm4 : Hid (KB 23 (S3.setCell ⟨w.heap.size, 1, none⟩ (.int .i64 x.t)) w.heap.size ⟨x.r, x.t, 0, 0, 0, 0⟩) := Lib.hid (Nm3.out.set1 x.t)
  have NC4 := Lib.hid (NC3.out.other (D := w.heap.size) (i := 1) (by omega) (.int .i64 x.t))
  have E4 := Lib.hid (below_set (C := w.heap.size) (i := 1) E3.out (by omega) (.int .i64 x.t))
  obtain ⟨S4, hS4⟩ : ∃ W, S3.setCell ⟨w.heap.size, 1, none⟩ (.int .i64 x.t) = W := ⟨_, rfl⟩
  rw [hS4] at Nm4 NC4 E4
  clear NC3 Nm3 E3
  have r5 := Nm4.out.cells.2.2.1
  have g5 := Nm4.out.thaw.2.2.1
  have Nm5 : Hid (KB 23 (S4.setCell ⟨w.heap.size, 2, none⟩ (.int .i64 x.p)) w.heap.size ⟨x.r, x.t, x.p, 0, 0, 0⟩) := Lib.hid (Nm4.out.set2 x.p)
  have NC5 := Lib.hid (NC4.out.other (D := w.heap.size) (i := 2) (by omega) (.int .i64 x.p))
  have E5 := Lib.hid (below_set (C := w.heap.size) (i := 2) E4.out (by omega) (.int .i64 x.p))
  obtain ⟨S5, hS5⟩ : ∃ W, S4.setCell ⟨w.heap.size, 2, none⟩ (.int .i64 x.p) = W := ⟨_, rfl⟩
  rw [hS5] at Nm5 NC5 E5
  clear NC4 Nm4 E4
  have r6 := Nm5.out.cells.2.2.2.1
  have g6 := Nm5.out.thaw.2.2.2.1
  have Nm6 : Hid (KB 23 (S5.setCell ⟨w.heap.size, 3, none⟩ (.int .i64 x.l)) w.heap.size ⟨x.r, x.t, x.p, x.l, 0, 0⟩) := Lib.hid (Nm5.out.set3 x.l)
  have NC6 := Lib.hid (NC5.out.other (D := w.heap.size) (i := 3) (by omega) (.int .i64 x.l))
  have E6 := Lib.hid (below_set (C := w.heap.size) (i := 3) E5.out (by omega) (.int .i64 x.l))
  obtain ⟨S6, hS6⟩ : ∃ W, S5.setCell ⟨w.heap.size, 3, none⟩ (.int .i64 x.l) = W := ⟨_, rfl⟩
  rw [hS6] at Nm6 NC6 E6
  clear NC5 Nm5 E5
  have r7 := Nm6.out.cells.2.2.2.2.1
  have g7 := Nm6.out.thaw.2.2.2.2.1
  have Nm7 : Hid (KB 23 (S6.setCell ⟨w.heap.size, 4, none⟩ (.int .i64 x.q)) w.heap.size ⟨x.r, x.t, x.p, x.l, x.q, 0⟩) := Lib.hid (Nm6.out.set4 x.q)
  have NC7 := Lib.hid (NC6.out.other (D := w.heap.size) (i := 4) (by omega) (.int .i64 x.q))
  have E7 := Lib.hid (below_set (C := w.heap.size) (i := 4) E6.out (by omega) (.int .i64 x.q))
  obtain ⟨S7, hS7⟩ : ∃ W, S6.setCell ⟨w.heap.size, 4, none⟩ (.int .i64 x.q) = W := ⟨_, rfl⟩
  rw [hS7] at Nm7 NC7 E7
  clear NC6 Nm6 E6
  have r8 := Nm7.out.cells.2.2.2.2.2
  have g8 := Nm7.out.thaw.2.2.2.2.2
  have Nm8 : Hid (KB 23 (S7.setCell ⟨w.heap.size, 5, none⟩ (.int .i64 x.s)) w.heap.size ⟨x.r, x.t, x.p, x.l, x.q, x.s⟩) := Lib.hid (Nm7.out.set5 x.s)
  have NC8 := Lib.hid (NC7.out.other (D := w.heap.size) (i := 5) (by omega) (.int .i64 x.s))
  have E8 := Lib.hid (below_set (C := w.heap.size) (i := 5) E7.out (by omega) (.int .i64 x.s))
  obtain ⟨S8, hS8⟩ : ∃ W, S7.setCell ⟨w.heap.size, 5, none⟩ (.int .i64 x.s) = W := ⟨_, rfl⟩
  rw [hS8] at Nm8 NC8 E8
  clear NC7 Nm7 E7
  obtain ⟨c9_0, c9_1, c9_2, c9_3, c9_4, c9_5⟩ := Nm8.out.cells
  go_wp2_with fail
  exact bodyPost_ret (v := .agg #[.int .i64 x.r, .int .i64 x.t, .int .i64 x.p, .int .i64 x.l, .int .i64 x.q, .int .i64 x.s]) (by simp [results, Try.results19, go_sem, c9_0, c9_1, c9_2, c9_3, c9_4, c9_5]) rfl ⟨rfl, E8.out⟩
set_option maxRecDepth 100000 in
theorem rmoved_no (C : Nat) (x : St) (raw : Int) (w : World) (hx : Ok x) (hk : KB 53 w C x) (he : ¬ mvE x raw = 0) :
    Calls Try.prog 40 #[.pointer (some ⟨C, 0, none⟩), .int .i64 raw] w fun e w' => e = .returned (.tuple #[.agg #[.int .i64 0, .int .i64 0, .int .i64 0, .int .i64 0, .int .i64 0, .int .i64 0], .int .i64 (mvE x raw)]) ∧ Below w.heap.size w w' := by
  have KC := Lib.hid hk
  have HOK := Lib.hid hx
  have BB := Lib.hid (Below.refl w.heap.size w)
  obtain ⟨m, hm⟩ : ∃ m, mvE x raw = m := ⟨_, rfl⟩
  rw [hm] at he
  have m0 : (m == 0) = false := by simpa using he
  have m1 : (m != 0) = true := by simpa using he
  have HM := Lib.hid hm
  rw [hm]
  clear hk hx he hm
  have Nb1 : Hid (KB 23 (w.alloc (.cells #[.int .i64 0, .int .i64 0, .int .i64 0, .int .i64 0, .int .i64 0, .int .i64 0] 23)) w.heap.size ⟨0, 0, 0, 0, 0, 0⟩) := Lib.hid (kb_new _ w 0 0 0 0 0 0)
  have lC1 := KC.out.lt
  have NC1 := Lib.hid (KC.out.alloc (.cells #[.int .i64 0, .int .i64 0, .int .i64 0, .int .i64 0, .int .i64 0, .int .i64 0] 23))
  have E1 := Lib.hid (BB.out.alloc BB.out.size (.cells #[.int .i64 0, .int .i64 0, .int .i64 0, .int .i64 0, .int .i64 0, .int .i64 0] 23))
  have hs1 := BB.out.size
  obtain ⟨S1, hS1⟩ : ∃ W, w.alloc (.cells #[.int .i64 0, .int .i64 0, .int .i64 0, .int .i64 0, .int .i64 0, .int .i64 0] 23) = W := ⟨_, rfl⟩
  have hsz1 : S1.heap.size = w.heap.size + 1 := by rw [← hS1]; simp
  have HSZ1 := Lib.hid hsz1
  have hle1 : w.heap.size < S1.heap.size := by omega
  clear hsz1
  rw [hS1] at Nb1 NC1 E1
  clear KC BB
  go_enter Try.func40, Try.ntmps40
  go_wp2_with fail
  clear hS1
  refine (rnow_any C x raw _ HOK.out NC1.out).mono ?_
  rintro e w2 ⟨rfl, hb⟩
  have XC2 := Lib.hid (NC1.out.below hb NC1.out.lt)
  have Xb2 := Lib.hid (Nb1.out.below hb Nb1.out.lt)
  have B2 := Lib.hid (E1.out.trans (hb.mono E1.out.size))
  have hz2 := hb.size
  clear hb NC1 Nb1 E1
  rw [HM.out]
  obtain ⟨T, hT⟩ : ∃ T, (mvS x raw).t = T := ⟨_, rfl⟩
  rw [hT]
  clear hT
  have r3 := Xb2.out.cells.1
  have g3 := Xb2.out.thaw.1
  have Nb3 : Hid (KB 23 (w2.setCell ⟨w.heap.size, 0, none⟩ (.int .i64 0)) w.heap.size ⟨0, 0, 0, 0, 0, 0⟩) := Lib.hid (Xb2.out.set0 0)
  have NC3 := Lib.hid (XC2.out.other (D := w.heap.size) (i := 0) (by omega) (.int .i64 0))
  have E3 := Lib.hid (below_set (C := w.heap.size) (i := 0) B2.out (by omega) (.int .i64 0))
  obtain ⟨S3, hS3⟩ : ∃ W, w2.setCell ⟨w.heap.size, 0, none⟩ (.int .i64 0) = W := ⟨_, rfl⟩
  rw [hS3] at Nb3 NC3 E3
  clear XC2 Xb2 B2
  have r4 := Nb3.out.cells.2.1
  have g4 := Nb3.out.thaw.2.1
  have Nb4 : Hid (KB 23 (S3.setCell ⟨w.heap.size, 1, none⟩ (.int .i64 0)) w.heap.size ⟨0, 0, 0, 0, 0, 0⟩) := Lib.hid (Nb3.out.set1 0)
  have NC4 := Lib.hid (NC3.out.other (D := w.heap.size) (i := 1) (by omega) (.int .i64 0))
  have E4 := Lib.hid (below_set (C := w.heap.size) (i := 1) E3.out (by omega) (.int .i64 0))
  obtain ⟨S4, hS4⟩ : ∃ W, S3.setCell ⟨w.heap.size, 1, none⟩ (.int .i64 0) = W := ⟨_, rfl⟩
  rw [hS4] at Nb4 NC4 E4
  clear NC3 Nb3 E3
  have r5 := Nb4.out.cells.2.2.1
  have g5 := Nb4.out.thaw.2.2.1
  have Nb5 : Hid (KB 23 (S4.setCell ⟨w.heap.size, 2, none⟩ (.int .i64 0)) w.heap.size ⟨0, 0, 0, 0, 0, 0⟩) := Lib.hid (Nb4.out.set2 0)
  have NC5 := Lib.hid (NC4.out.other (D := w.heap.size) (i := 2) (by omega) (.int .i64 0))
  have E5 := Lib.hid (below_set (C := w.heap.size) (i := 2) E4.out (by omega) (.int .i64 0))
  obtain ⟨S5, hS5⟩ : ∃ W, S4.setCell ⟨w.heap.size, 2, none⟩ (.int .i64 0) = W := ⟨_, rfl⟩
  rw [hS5] at Nb5 NC5 E5
  clear NC4 Nb4 E4
  have r6 := Nb5.out.cells.2.2.2.1
  have g6 := Nb5.out.thaw.2.2.2.1
  have Nb6 : Hid (KB 23 (S5.setCell ⟨w.heap.size, 3, none⟩ (.int .i64 0)) w.heap.size ⟨0, 0, 0, 0, 0, 0⟩) := Lib.hid (Nb5.out.set3 0)
  have NC6 := Lib.hid (NC5.out.other (D := w.heap.size) (i := 3) (by omega) (.int .i64 0))
  have E6 := Lib.hid (below_set (C := w.heap.size) (i := 3) E5.out (by omega) (.int .i64 0))
  obtain ⟨S6, hS6⟩ : ∃ W, S5.setCell ⟨w.heap.size, 3, none⟩ (.int .i64 0) = W := ⟨_, rfl⟩
  rw [hS6] at Nb6 NC6 E6
  clear NC5 Nb5 E5
  have r7 := Nb6.out.cells.2.2.2.2.1
  have g7 := Nb6.out.thaw.2.2.2.2.1
  have Nb7 : Hid (KB 23 (S6.setCell ⟨w.heap.size, 4, none⟩ (.int .i64 0)) w.heap.size ⟨0, 0, 0, 0, 0, 0⟩) := Lib.hid (Nb6.out.set4 0)
  have NC7 := Lib.hid (NC6.out.other (D := w.heap.size) (i := 4) (by omega) (.int .i64 0))
  have E7 := Lib.hid (below_set (C := w.heap.size) (i := 4) E6.out (by omega) (.int .i64 0))
  obtain ⟨S7, hS7⟩ : ∃ W, S6.setCell ⟨w.heap.size, 4, none⟩ (.int .i64 0) = W := ⟨_, rfl⟩
  rw [hS7] at Nb7 NC7 E7
  clear NC6 Nb6 E6
  have r8 := Nb7.out.cells.2.2.2.2.2
  have g8 := Nb7.out.thaw.2.2.2.2.2
  have Nb8 : Hid (KB 23 (S7.setCell ⟨w.heap.size, 5, none⟩ (.int .i64 0)) w.heap.size ⟨0, 0, 0, 0, 0, 0⟩) := Lib.hid (Nb7.out.set5 0)
  have NC8 := Lib.hid (NC7.out.other (D := w.heap.size) (i := 5) (by omega) (.int .i64 0))
  have E8 := Lib.hid (below_set (C := w.heap.size) (i := 5) E7.out (by omega) (.int .i64 0))
  obtain ⟨S8, hS8⟩ : ∃ W, S7.setCell ⟨w.heap.size, 5, none⟩ (.int .i64 0) = W := ⟨_, rfl⟩
  rw [hS8] at Nb8 NC8 E8
  clear NC7 Nb7 E7
  obtain ⟨c9_0, c9_1, c9_2, c9_3, c9_4, c9_5⟩ := Nb8.out.cells
  go_wp2_with fail
  exact bodyPost_ret (v := .tuple #[.agg #[.int .i64 0, .int .i64 0, .int .i64 0, .int .i64 0, .int .i64 0, .int .i64 0], .int .i64 m]) (by simp [results, Try.results40, go_sem, c9_0, c9_1, c9_2, c9_3, c9_4, c9_5]) rfl ⟨rfl, E8.out⟩
end Go.Proofs.Ytjcpfkibaohjjaa
