/- The walk of LeapTicks. -/
import Derived.Test.YtegpajdahanhfaaGreatDoorLevB
import Derived.Deep.RegionHeld3
namespace Go.Proofs.YtegpajdahanhfaaGreatDoor
open Go.RowKit Go.Shelf Fx Cv Lp Pt

theorem Lp.Lw.drew {w v : World} {G : Nat} {B E : Int} {a : Option Addr} {n c : Nat} {f : Nat → Int × Int} (h : Lw w v G B E a n c f) : Lw w v.drew G B E a n c f :=
  ⟨h.box, h.lrd, h.mt, h.tab, h.errs, h.bel.drew⟩
theorem Lp.offU_in {B E : Int} {f : Nat → Int × Int} {n : Nat} {u : Int} : -1000 ≤ offU B E f n u ∧ offU B E f n u ≤ 1000 := by
  unfold offU
  by_cases he : chkL B E f n = 0
  · rw [if_pos he]; exact (val_of he).bndA (psU_le f n u)
  · rw [if_neg he]; omega

set_option maxRecDepth 100000 in
set_option linter.unusedVariables false in
theorem ticks_large (B E : Int) (a : Option Addr) (n c : Nat) (f : Nat → Int × Int) (t : Int) (w : World) (ht : MT w) (hp : Tab w) (he : Errs w) (hr : LRd w w.heap.size a n f) (tb0 : -9223372036854775808 ≤ t) (tb1 : t ≤ 9223372036854775807) (hn : ¬ n ≤ 70) :
    Calls Tryz.prog 6 #[.agg #[.int .i64 B, .int .i64 E, .slice a n c], .int .i64 t] w fun e w' => e = .returned (.bool true) ∧ Below w.heap.size w w' := by
  have HN := Lib.hid (decide_eq_false hn)
  clear hn
  have S0' := Lib.hid (lw_new w B E a n c f hr ht hp he)
  clear ht hp he hr
  obtain ⟨v0, hv0⟩ : ∃ v, w.alloc (.cells #[.int .i64 B, .int .i64 E, .slice a n c] 24) = v := ⟨_, rfl⟩
  obtain ⟨G, hG⟩ : ∃ G, w.heap.size = G := ⟨_, rfl⟩
  have S0 : Hid (Lw w v0 G B E a n c f) := Lib.hid (by rw [← hv0, ← hG]; exact S0'.out)
  clear S0'
  obtain ⟨t0', t1', t2'⟩ := S0.out.cells
  go_enter Tryz.func6, Tryz.ntmps6
  go_wp2_with fail
  refine (small6_v HN.out v0).mono ?_
  rintro e v1 ⟨rfl, hbl⟩
  have S1 := Lib.hid (S0.out.below hbl)
  clear hbl S0 t0' t1' t2' hv0 hG
  obtain ⟨t0, t1, t2⟩ := S1.out.cells
  go_wp2_with fail
  refine (awake6_any v1 S1.out.mt S1.out.tab S1.out.errs).mono ?_
  rintro e v2 ⟨rfl, hbl⟩
  have S2 := Lib.hid (S1.out.below hbl)
  go_wp2_with fail
  go_ret
  exact ⟨rfl, S2.out.bel⟩

set_option maxRecDepth 100000 in
set_option linter.unusedVariables false in
theorem ticks_low (B E : Int) (a : Option Addr) (n c : Nat) (f : Nat → Int × Int) (t : Int) (w : World) (ht : MT w) (hp : Tab w) (he : Errs w) (hr : LRd w w.heap.size a n f) (tb0 : -9223372036854775808 ≤ t) (tb1 : t ≤ 9223372036854775807) (hn : n ≤ 70) (hl : t < -9000000000) :
    Calls Tryz.prog 6 #[.agg #[.int .i64 B, .int .i64 E, .slice a n c], .int .i64 t] w fun e w' => e = .returned (.bool true) ∧ Below w.heap.size w w' := by
  have HN := Lib.hid (decide_eq_true hn)
  clear hn
  have S0' := Lib.hid (lw_new w B E a n c f hr ht hp he)
  clear ht hp he hr
  obtain ⟨v0, hv0⟩ : ∃ v, w.alloc (.cells #[.int .i64 B, .int .i64 E, .slice a n c] 24) = v := ⟨_, rfl⟩
  obtain ⟨G, hG⟩ : ∃ G, w.heap.size = G := ⟨_, rfl⟩
  have S0 : Hid (Lw w v0 G B E a n c f) := Lib.hid (by rw [← hv0, ← hG]; exact S0'.out)
  clear S0'
  obtain ⟨t0', t1', t2'⟩ := S0.out.cells
  go_enter Tryz.func6, Tryz.ntmps6
  go_wp2_with fail
  refine (small6_v HN.out v0).mono ?_
  rintro e v1 ⟨rfl, hbl⟩
  have S1 := Lib.hid (S0.out.below hbl)
  clear hbl S0 t0' t1' t2' hv0 hG
  obtain ⟨t0, t1, t2⟩ := S1.out.cells
  go_wp2_with fail
  refine (awake6_any v1 S1.out.mt S1.out.tab S1.out.errs).mono ?_
  rintro e v2 ⟨rfl, hbl⟩
  have S2 := Lib.hid (S1.out.below hbl)
  go_wp2_with fail
  go_ret
  exact ⟨rfl, S2.out.bel⟩

set_option maxRecDepth 100000 in
set_option linter.unusedVariables false in
theorem ticks_high (B E : Int) (a : Option Addr) (n c : Nat) (f : Nat → Int × Int) (t : Int) (w : World) (ht : MT w) (hp : Tab w) (he : Errs w) (hr : LRd w w.heap.size a n f) (tb0 : -9223372036854775808 ≤ t) (tb1 : t ≤ 9223372036854775807) (hn : n ≤ 70) (hl : ¬ t < -9000000000) (hh : 9000000000 < t) :
    Calls Tryz.prog 6 #[.agg #[.int .i64 B, .int .i64 E, .slice a n c], .int .i64 t] w fun e w' => e = .returned (.bool true) ∧ Below w.heap.size w w' := by
  have hl2 : decide (t < -9000000000) = false := decide_eq_false hl
  have hl3 : -9000000000 ≤ t := by omega
  have HN := Lib.hid (decide_eq_true hn)
  clear hn
  have S0' := Lib.hid (lw_new w B E a n c f hr ht hp he)
  clear ht hp he hr
  obtain ⟨v0, hv0⟩ : ∃ v, w.alloc (.cells #[.int .i64 B, .int .i64 E, .slice a n c] 24) = v := ⟨_, rfl⟩
  obtain ⟨G, hG⟩ : ∃ G, w.heap.size = G := ⟨_, rfl⟩
  have S0 : Hid (Lw w v0 G B E a n c f) := Lib.hid (by rw [← hv0, ← hG]; exact S0'.out)
  clear S0'
  obtain ⟨t0', t1', t2'⟩ := S0.out.cells
  go_enter Tryz.func6, Tryz.ntmps6
  go_wp2_with fail
  refine (small6_v HN.out v0).mono ?_
  rintro e v1 ⟨rfl, hbl⟩
  have S1 := Lib.hid (S0.out.below hbl)
  clear hbl S0 t0' t1' t2' hv0 hG
  obtain ⟨t0, t1, t2⟩ := S1.out.cells
  go_wp2_with fail
  refine (awake6_any v1 S1.out.mt S1.out.tab S1.out.errs).mono ?_
  rintro e v2 ⟨rfl, hbl⟩
  have S2 := Lib.hid (S1.out.below hbl)
  go_wp2_with fail
  go_ret
  exact ⟨rfl, S2.out.bel⟩

set_option maxRecDepth 100000 in
set_option linter.unusedVariables false in
theorem ticks_e10 (B E : Int) (a : Option Addr) (n c : Nat) (f : Nat → Int × Int) (t : Int) (w : World) (ht : MT w) (hp : Tab w) (he : Errs w) (hr : LRd w w.heap.size a n f) (tb0 : -9223372036854775808 ≤ t) (tb1 : t ≤ 9223372036854775807) (hn : n ≤ 70) (hl : ¬ t < -9000000000) (hh : ¬ 9000000000 < t) (h1 : ¬ utE B E f n t = 0) (h2 : utE B E f n (t + 1) = 0) :
    Calls Tryz.prog 6 #[.agg #[.int .i64 B, .int .i64 E, .slice a n c], .int .i64 t] w fun e w' => e = .returned (.bool true) ∧ Below w.heap.size w w' := by
  have hh2 : decide (9000000000 < t) = false := decide_eq_false hh
  have hh3 : t ≤ 9000000000 := by omega
  have hl2 : decide (t < -9000000000) = false := decide_eq_false hl
  have hl3 : -9000000000 ≤ t := by omega
  have HN := Lib.hid (decide_eq_true hn)
  obtain ⟨y, hy⟩ : ∃ y, utE B E f n t = y := ⟨_, rfl⟩
  obtain ⟨z, hz⟩ : ∃ z, utE B E f n (t + 1) = z := ⟨_, rfl⟩
  rw [hy] at h1
  rw [hz] at h2
  have g1 : decide (y = 0) = false := decide_eq_false h1
  have g2 : (y == 0) = false := by simpa using h1
  have g3 : (y != 0) = true := by simp [bne, g2]
  subst h2
  have H1 := Lib.hid hy
  have H2 := Lib.hid hz
  clear hy hz hn
  clear h1
  have S0' := Lib.hid (lw_new w B E a n c f hr ht hp he)
  clear ht hp he hr
  obtain ⟨v0, hv0⟩ : ∃ v, w.alloc (.cells #[.int .i64 B, .int .i64 E, .slice a n c] 24) = v := ⟨_, rfl⟩
  obtain ⟨G, hG⟩ : ∃ G, w.heap.size = G := ⟨_, rfl⟩
  have S0 : Hid (Lw w v0 G B E a n c f) := Lib.hid (by rw [← hv0, ← hG]; exact S0'.out)
  clear S0'
  obtain ⟨t0', t1', t2'⟩ := S0.out.cells
  go_enter Tryz.func6, Tryz.ntmps6
  go_wp2_with fail
  refine (small6_v HN.out v0).mono ?_
  rintro e v1 ⟨rfl, hbl⟩
  have S1 := Lib.hid (S0.out.below hbl)
  clear hbl S0 t0' t1' t2' hv0 hG
  obtain ⟨t0, t1, t2⟩ := S1.out.cells
  go_wp2_with fail
  refine (lutc_v rfl rfl H1.out v1 S1.out.mt S1.out.lrd tb0 tb1).mono ?_
  rintro e v2 ⟨rfl, hbl⟩
  have S2 := Lib.hid (S1.out.below hbl)
  clear hbl S1 t0 t1 t2
  obtain ⟨t0, t1, t2⟩ := S2.out.cells
  go_wp2_with fail
  refine (lutc_v rfl rfl H2.out v2 S2.out.mt S2.out.lrd (by omega) (by omega)).mono ?_
  rintro e v3 ⟨rfl, hbl⟩
  have S3 := Lib.hid (S2.out.below hbl)
  clear hbl S2 t0 t1 t2
  obtain ⟨t0, t1, t2⟩ := S3.out.cells
  go_wp2_with fail
  refine (awake6_any v3 S3.out.mt S3.out.tab S3.out.errs).mono ?_
  rintro e v4 ⟨rfl, hbl⟩
  have S4 := Lib.hid (S3.out.below hbl)
  go_wp2_with fail
  go_ret
  exact ⟨rfl, S4.out.bel⟩

set_option maxRecDepth 100000 in
set_option linter.unusedVariables false in
theorem ticks_e11 (B E : Int) (a : Option Addr) (n c : Nat) (f : Nat → Int × Int) (t : Int) (w : World) (ht : MT w) (hp : Tab w) (he : Errs w) (hr : LRd w w.heap.size a n f) (tb0 : -9223372036854775808 ≤ t) (tb1 : t ≤ 9223372036854775807) (hn : n ≤ 70) (hl : ¬ t < -9000000000) (hh : ¬ 9000000000 < t) (h1 : ¬ utE B E f n t = 0) (h2 : ¬ utE B E f n (t + 1) = 0) :
    Calls Tryz.prog 6 #[.agg #[.int .i64 B, .int .i64 E, .slice a n c], .int .i64 t] w fun e w' => e = .returned (.bool true) ∧ Below w.heap.size w w' := by
  have hh2 : decide (9000000000 < t) = false := decide_eq_false hh
  have hh3 : t ≤ 9000000000 := by omega
  have hl2 : decide (t < -9000000000) = false := decide_eq_false hl
  have hl3 : -9000000000 ≤ t := by omega
  have HN := Lib.hid (decide_eq_true hn)
  obtain ⟨y, hy⟩ : ∃ y, utE B E f n t = y := ⟨_, rfl⟩
  obtain ⟨z, hz⟩ : ∃ z, utE B E f n (t + 1) = z := ⟨_, rfl⟩
  rw [hy] at h1
  rw [hz] at h2
  have g1 : decide (y = 0) = false := decide_eq_false h1
  have g2 : (y == 0) = false := by simpa using h1
  have g3 : (y != 0) = true := by simp [bne, g2]
  have q1 : decide (z = 0) = false := decide_eq_false h2
  have q2 : (z == 0) = false := by simpa using h2
  have q3 : (z != 0) = true := by simp [bne, q2]
  have H1 := Lib.hid hy
  have H2 := Lib.hid hz
  clear hy hz hn
  clear h1
  clear h2
  have S0' := Lib.hid (lw_new w B E a n c f hr ht hp he)
  clear ht hp he hr
  obtain ⟨v0, hv0⟩ : ∃ v, w.alloc (.cells #[.int .i64 B, .int .i64 E, .slice a n c] 24) = v := ⟨_, rfl⟩
  obtain ⟨G, hG⟩ : ∃ G, w.heap.size = G := ⟨_, rfl⟩
  have S0 : Hid (Lw w v0 G B E a n c f) := Lib.hid (by rw [← hv0, ← hG]; exact S0'.out)
  clear S0'
  obtain ⟨t0', t1', t2'⟩ := S0.out.cells
  go_enter Tryz.func6, Tryz.ntmps6
  go_wp2_with fail
  refine (small6_v HN.out v0).mono ?_
  rintro e v1 ⟨rfl, hbl⟩
  have S1 := Lib.hid (S0.out.below hbl)
  clear hbl S0 t0' t1' t2' hv0 hG
  obtain ⟨t0, t1, t2⟩ := S1.out.cells
  go_wp2_with fail
  refine (lutc_v rfl rfl H1.out v1 S1.out.mt S1.out.lrd tb0 tb1).mono ?_
  rintro e v2 ⟨rfl, hbl⟩
  have S2 := Lib.hid (S1.out.below hbl)
  clear hbl S1 t0 t1 t2
  obtain ⟨t0, t1, t2⟩ := S2.out.cells
  go_wp2_with fail
  refine (lutc_v rfl rfl H2.out v2 S2.out.mt S2.out.lrd (by omega) (by omega)).mono ?_
  rintro e v3 ⟨rfl, hbl⟩
  have S3 := Lib.hid (S2.out.below hbl)
  clear hbl S2 t0 t1 t2
  obtain ⟨t0, t1, t2⟩ := S3.out.cells
  go_wp2_with fail
  refine (awake6_any v3 S3.out.mt S3.out.tab S3.out.errs).mono ?_
  rintro e v4 ⟨rfl, hbl⟩
  have S4 := Lib.hid (S3.out.below hbl)
  go_wp2_with fail
  go_ret
  exact ⟨rfl, S4.out.bel⟩

set_option maxRecDepth 100000 in
set_option linter.unusedVariables false in
theorem ticks_e01 (B E : Int) (a : Option Addr) (n c : Nat) (f : Nat → Int × Int) (t : Int) (w : World) (ht : MT w) (hp : Tab w) (he : Errs w) (hr : LRd w w.heap.size a n f) (tb0 : -9223372036854775808 ≤ t) (tb1 : t ≤ 9223372036854775807) (hn : n ≤ 70) (hl : ¬ t < -9000000000) (hh : ¬ 9000000000 < t) (h1 : utE B E f n t = 0) (h2 : ¬ utE B E f n (t + 1) = 0) :
    Calls Tryz.prog 6 #[.agg #[.int .i64 B, .int .i64 E, .slice a n c], .int .i64 t] w fun e w' => e = .returned (.bool true) ∧ Below w.heap.size w w' := by
  have hh2 : decide (9000000000 < t) = false := decide_eq_false hh
  have hh3 : t ≤ 9000000000 := by omega
  have hl2 : decide (t < -9000000000) = false := decide_eq_false hl
  have hl3 : -9000000000 ≤ t := by omega
  have HN := Lib.hid (decide_eq_true hn)
  obtain ⟨y, hy⟩ : ∃ y, utE B E f n t = y := ⟨_, rfl⟩
  obtain ⟨z, hz⟩ : ∃ z, utE B E f n (t + 1) = z := ⟨_, rfl⟩
  rw [hy] at h1
  rw [hz] at h2
  subst h1
  have q1 : decide (z = 0) = false := decide_eq_false h2
  have q2 : (z == 0) = false := by simpa using h2
  have q3 : (z != 0) = true := by simp [bne, q2]
  have H1 := Lib.hid hy
  have H2 := Lib.hid hz
  clear hy hz hn
  clear h2
  have S0' := Lib.hid (lw_new w B E a n c f hr ht hp he)
  clear ht hp he hr
  obtain ⟨v0, hv0⟩ : ∃ v, w.alloc (.cells #[.int .i64 B, .int .i64 E, .slice a n c] 24) = v := ⟨_, rfl⟩
  obtain ⟨G, hG⟩ : ∃ G, w.heap.size = G := ⟨_, rfl⟩
  have S0 : Hid (Lw w v0 G B E a n c f) := Lib.hid (by rw [← hv0, ← hG]; exact S0'.out)
  clear S0'
  obtain ⟨t0', t1', t2'⟩ := S0.out.cells
  go_enter Tryz.func6, Tryz.ntmps6
  go_wp2_with fail
  refine (small6_v HN.out v0).mono ?_
  rintro e v1 ⟨rfl, hbl⟩
  have S1 := Lib.hid (S0.out.below hbl)
  clear hbl S0 t0' t1' t2' hv0 hG
  obtain ⟨t0, t1, t2⟩ := S1.out.cells
  go_wp2_with fail
  refine (lutc_v rfl rfl H1.out v1 S1.out.mt S1.out.lrd tb0 tb1).mono ?_
  rintro e v2 ⟨rfl, hbl⟩
  have S2 := Lib.hid (S1.out.below hbl)
  clear hbl S1 t0 t1 t2
  obtain ⟨t0, t1, t2⟩ := S2.out.cells
  go_wp2_with fail
  refine (lutc_v rfl rfl H2.out v2 S2.out.mt S2.out.lrd (by omega) (by omega)).mono ?_
  rintro e v3 ⟨rfl, hbl⟩
  have S3 := Lib.hid (S2.out.below hbl)
  clear hbl S2 t0 t1 t2
  obtain ⟨t0, t1, t2⟩ := S3.out.cells
  go_wp2_with fail
  refine (awake6_any v3 S3.out.mt S3.out.tab S3.out.errs).mono ?_
  rintro e v4 ⟨rfl, hbl⟩
  have S4 := Lib.hid (S3.out.below hbl)
  go_wp2_with fail
  go_ret
  exact ⟨rfl, S4.out.bel⟩

set_option maxRecDepth 100000 in
set_option linter.unusedVariables false in
theorem ticks_q (B E : Int) (a : Option Addr) (n c : Nat) (f : Nat → Int × Int) (t : Int) (w : World) (ht : MT w) (hp : Tab w) (he : Errs w) (hr : LRd w w.heap.size a n f) (tb0 : -9223372036854775808 ≤ t) (tb1 : t ≤ 9223372036854775807) (hn : n ≤ 70) (hl : ¬ t < -9000000000) (hh : ¬ 9000000000 < t) (h1 : utE B E f n t = 0) (h2 : utE B E f n (t + 1) = 0) (hq : utP B E f n (t + 1) = true) :
    Calls Tryz.prog 6 #[.agg #[.int .i64 B, .int .i64 E, .slice a n c], .int .i64 t] w fun e w' => e = .returned (.bool true) ∧ Below w.heap.size w w' := by
  have hh2 : decide (9000000000 < t) = false := decide_eq_false hh
  have hh3 : t ≤ 9000000000 := by omega
  have hl2 : decide (t < -9000000000) = false := decide_eq_false hl
  have hl3 : -9000000000 ≤ t := by omega
  have HN := Lib.hid (decide_eq_true hn)
  have tk := ticks h1 h2
  have ub := ut_in (B := B) (E := E) (f := f) (n := n) (t := t)
  have ub2 := ut_in (B := B) (E := E) (f := f) (n := n) (t := t + 1)
  have H1 := Lib.hid h1
  have H2 := Lib.hid h2
  obtain ⟨U, hU⟩ : ∃ U, utV B E f n t = U := ⟨_, rfl⟩
  obtain ⟨V, hV⟩ : ∃ V, utV B E f n (t + 1) = V := ⟨_, rfl⟩
  obtain ⟨P, hP⟩ : ∃ P, utP B E f n t = P := ⟨_, rfl⟩
  obtain ⟨Q, hQ⟩ : ∃ Q, utP B E f n (t + 1) = Q := ⟨_, rfl⟩
  rw [hU, hV, hP, hQ] at tk
  rw [hQ] at hq
  rw [hU] at ub
  rw [hV] at ub2
  obtain ⟨ub0, ub1⟩ := ub
  obtain ⟨ub2, ub3⟩ := ub2
  clear h1 h2 hn
  subst hq
  obtain ⟨rfl, rfl, tk3⟩ := tk.1 rfl
  clear tk
  have o1 := offU_in (B := B) (E := E) (f := f) (n := n) (u := V + 1)
  have o2 := offU_in (B := B) (E := E) (f := f) (n := n) (u := V)
  have k1 : IntKind.i64.wrap (offU B E f n (V + 1) - offU B E f n V) = 1 := by rw [IntWalk.i64_in _ (by omega), tk3]
  have k2 : IntKind.i64.wrap (V + 1) = V + 1 := IntWalk.i64_in _ (by omega)
  clear tk3 o1 o2
  have HU := Lib.hid hU
  have HV := Lib.hid hV
  have HP := Lib.hid hP
  have HQ := Lib.hid hQ
  clear hU hV hP hQ
  have S0' := Lib.hid (lw_new w B E a n c f hr ht hp he)
  clear ht hp he hr
  obtain ⟨v0, hv0⟩ : ∃ v, w.alloc (.cells #[.int .i64 B, .int .i64 E, .slice a n c] 24) = v := ⟨_, rfl⟩
  obtain ⟨G, hG⟩ : ∃ G, w.heap.size = G := ⟨_, rfl⟩
  have S0 : Hid (Lw w v0 G B E a n c f) := Lib.hid (by rw [← hv0, ← hG]; exact S0'.out)
  clear S0'
  obtain ⟨t0', t1', t2'⟩ := S0.out.cells
  go_enter Tryz.func6, Tryz.ntmps6
  go_wp2_with fail
  refine (small6_v HN.out v0).mono ?_
  rintro e v1 ⟨rfl, hbl⟩
  have S1 := Lib.hid (S0.out.below hbl)
  clear hbl S0 t0' t1' t2' hv0 hG
  obtain ⟨t0, t1, t2⟩ := S1.out.cells
  go_wp2_with fail
  refine (lutc_v HU.out HP.out H1.out v1 S1.out.mt S1.out.lrd tb0 tb1).mono ?_
  rintro e v2 ⟨rfl, hbl⟩
  have S2 := Lib.hid (S1.out.below hbl)
  clear hbl S1 t0 t1 t2
  obtain ⟨t0, t1, t2⟩ := S2.out.cells
  go_wp2_with fail
  refine (lutc_v HV.out HQ.out H2.out v2 S2.out.mt S2.out.lrd (by omega) (by omega)).mono ?_
  rintro e v3 ⟨rfl, hbl⟩
  have S3 := Lib.hid (S2.out.below hbl)
  clear hbl S2 t0 t1 t2
  obtain ⟨t0, t1, t2⟩ := S3.out.cells
  go_wp2_with fail
  have S3d := Lib.hid S3.out.drew
  go_region_held3 (fun w' => w'.cell? ⟨G, 0, none⟩ = some (.int .i64 B) ∧ w'.cell? ⟨G, 1, none⟩ = some (.int .i64 E) ∧ w'.cell? ⟨G, 2, none⟩ = some (.slice a n c)) (go_keep)
    (first
      | (go_at_call 18; refine (loffset_any B E a n c f _ _ ?_ ?_).mono ?_; exact S3d.out.mt; exact S3d.out.lrd; rintro e v4 ⟨rfl, hbl⟩; have S4 := Lib.hid (S3d.out.below hbl); clear hbl S3d; obtain ⟨y00, y01, y02⟩ := S4.out.cells; clear t0 t1 t2)
      | (go_at_call 18; refine (loffset_any B E a n c f _ _ ?_ ?_).mono ?_; exact S4.out.mt; exact S4.out.lrd; rintro e v5 ⟨rfl, hbl⟩; have S5 := Lib.hid (S4.out.below hbl); clear hbl S4; obtain ⟨y10, y11, y12⟩ := S5.out.cells; clear y00 y01 y02)
      | (go_at_call 11; refine (awake6_any _ ?_ ?_ ?_).mono ?_; exact S5.out.mt; exact S5.out.tab; exact S5.out.errs; rintro e v6 ⟨rfl, hbl⟩; have S6 := Lib.hid (S5.out.below hbl); clear hbl; obtain ⟨z0, z1, z2⟩ := S6.out.cells; clear y10 y11 y12))
  go_wp2_with fail
  go_ret
  exact ⟨rfl, S6.out.bel⟩

set_option maxRecDepth 100000 in
set_option linter.unusedVariables false in
theorem ticks_d (B E : Int) (a : Option Addr) (n c : Nat) (f : Nat → Int × Int) (t : Int) (w : World) (ht : MT w) (hp : Tab w) (he : Errs w) (hr : LRd w w.heap.size a n f) (tb0 : -9223372036854775808 ≤ t) (tb1 : t ≤ 9223372036854775807) (hn : n ≤ 70) (hl : ¬ t < -9000000000) (hh : ¬ 9000000000 < t) (h1 : utE B E f n t = 0) (h2 : utE B E f n (t + 1) = 0) (hq : utP B E f n (t + 1) = false) (hd : utV B E f n (t + 1) - utV B E f n t = 2 ∧ utP B E f n t = false ∧ offU B E f n (utV B E f n (t + 1)) - offU B E f n (utV B E f n t) = -1) :
    Calls Tryz.prog 6 #[.agg #[.int .i64 B, .int .i64 E, .slice a n c], .int .i64 t] w fun e w' => e = .returned (.bool true) ∧ Below w.heap.size w w' := by
  have hh2 : decide (9000000000 < t) = false := decide_eq_false hh
  have hh3 : t ≤ 9000000000 := by omega
  have hl2 : decide (t < -9000000000) = false := decide_eq_false hl
  have hl3 : -9000000000 ≤ t := by omega
  have HN := Lib.hid (decide_eq_true hn)
  have tk := ticks h1 h2
  have ub := ut_in (B := B) (E := E) (f := f) (n := n) (t := t)
  have ub2 := ut_in (B := B) (E := E) (f := f) (n := n) (t := t + 1)
  have H1 := Lib.hid h1
  have H2 := Lib.hid h2
  obtain ⟨U, hU⟩ : ∃ U, utV B E f n t = U := ⟨_, rfl⟩
  obtain ⟨V, hV⟩ : ∃ V, utV B E f n (t + 1) = V := ⟨_, rfl⟩
  obtain ⟨P, hP⟩ : ∃ P, utP B E f n t = P := ⟨_, rfl⟩
  obtain ⟨Q, hQ⟩ : ∃ Q, utP B E f n (t + 1) = Q := ⟨_, rfl⟩
  rw [hU, hV, hP, hQ] at tk
  rw [hQ] at hq
  rw [hU, hV, hP] at hd
  rw [hU] at ub
  rw [hV] at ub2
  obtain ⟨ub0, ub1⟩ := ub
  obtain ⟨ub2, ub3⟩ := ub2
  clear h1 h2 hn
  subst hq
  obtain ⟨tk1, rfl, tk3⟩ := hd
  clear tk
  obtain rfl : V = U + 2 := by omega
  have o1 := offU_in (B := B) (E := E) (f := f) (n := n) (u := U + 2)
  have o2 := offU_in (B := B) (E := E) (f := f) (n := n) (u := U)
  have k1 : IntKind.i64.wrap (offU B E f n (U + 2) - offU B E f n U) = -1 := by rw [IntWalk.i64_in _ (by omega), tk3]
  have k3 : (U + 2 - U == 2) = true := by simp; omega
  clear tk3 o1 o2 tk1
  have HU := Lib.hid hU
  have HV := Lib.hid hV
  have HP := Lib.hid hP
  have HQ := Lib.hid hQ
  clear hU hV hP hQ
  have S0' := Lib.hid (lw_new w B E a n c f hr ht hp he)
  clear ht hp he hr
  obtain ⟨v0, hv0⟩ : ∃ v, w.alloc (.cells #[.int .i64 B, .int .i64 E, .slice a n c] 24) = v := ⟨_, rfl⟩
  obtain ⟨G, hG⟩ : ∃ G, w.heap.size = G := ⟨_, rfl⟩
  have S0 : Hid (Lw w v0 G B E a n c f) := Lib.hid (by rw [← hv0, ← hG]; exact S0'.out)
  clear S0'
  obtain ⟨t0', t1', t2'⟩ := S0.out.cells
  go_enter Tryz.func6, Tryz.ntmps6
  go_wp2_with fail
  refine (small6_v HN.out v0).mono ?_
  rintro e v1 ⟨rfl, hbl⟩
  have S1 := Lib.hid (S0.out.below hbl)
  clear hbl S0 t0' t1' t2' hv0 hG
  obtain ⟨t0, t1, t2⟩ := S1.out.cells
  go_wp2_with fail
  refine (lutc_v HU.out HP.out H1.out v1 S1.out.mt S1.out.lrd tb0 tb1).mono ?_
  rintro e v2 ⟨rfl, hbl⟩
  have S2 := Lib.hid (S1.out.below hbl)
  clear hbl S1 t0 t1 t2
  obtain ⟨t0, t1, t2⟩ := S2.out.cells
  go_wp2_with fail
  refine (lutc_v HV.out HQ.out H2.out v2 S2.out.mt S2.out.lrd (by omega) (by omega)).mono ?_
  rintro e v3 ⟨rfl, hbl⟩
  have S3 := Lib.hid (S2.out.below hbl)
  clear hbl S2 t0 t1 t2
  obtain ⟨t0, t1, t2⟩ := S3.out.cells
  go_wp2_with fail
  have S3d := Lib.hid S3.out.drew
  go_region_held3 (fun w' => w'.cell? ⟨G, 0, none⟩ = some (.int .i64 B) ∧ w'.cell? ⟨G, 1, none⟩ = some (.int .i64 E) ∧ w'.cell? ⟨G, 2, none⟩ = some (.slice a n c)) (go_keep)
    (first
      | (go_at_call 18; refine (loffset_any B E a n c f _ _ ?_ ?_).mono ?_; exact S3d.out.mt; exact S3d.out.lrd; rintro e v4 ⟨rfl, hbl⟩; have S4 := Lib.hid (S3d.out.below hbl); clear hbl S3d; obtain ⟨y00, y01, y02⟩ := S4.out.cells; clear t0 t1 t2)
      | (go_at_call 18; refine (loffset_any B E a n c f _ _ ?_ ?_).mono ?_; exact S4.out.mt; exact S4.out.lrd; rintro e v5 ⟨rfl, hbl⟩; have S5 := Lib.hid (S4.out.below hbl); clear hbl S4; obtain ⟨y10, y11, y12⟩ := S5.out.cells; clear y00 y01 y02)
      | (go_at_call 11; refine (awake6_any _ ?_ ?_ ?_).mono ?_; exact S5.out.mt; exact S5.out.tab; exact S5.out.errs; rintro e v6 ⟨rfl, hbl⟩; have S6 := Lib.hid (S5.out.below hbl); clear hbl; obtain ⟨z0, z1, z2⟩ := S6.out.cells; clear y10 y11 y12))
  go_wp2_with fail
  go_ret
  exact ⟨rfl, S6.out.bel⟩

set_option maxRecDepth 100000 in
set_option linter.unusedVariables false in
theorem ticks_nt (B E : Int) (a : Option Addr) (n c : Nat) (f : Nat → Int × Int) (t : Int) (w : World) (ht : MT w) (hp : Tab w) (he : Errs w) (hr : LRd w w.heap.size a n f) (tb0 : -9223372036854775808 ≤ t) (tb1 : t ≤ 9223372036854775807) (hn : n ≤ 70) (hl : ¬ t < -9000000000) (hh : ¬ 9000000000 < t) (h1 : utE B E f n t = 0) (h2 : utE B E f n (t + 1) = 0) (hq : utP B E f n (t + 1) = false) (hp2 : utP B E f n t = true) (hd : utV B E f n (t + 1) - utV B E f n t = 1 ∧ (utP B E f n t = true → offU B E f n (utV B E f n (t + 1)) - offU B E f n (utV B E f n t) = 1)) :
    Calls Tryz.prog 6 #[.agg #[.int .i64 B, .int .i64 E, .slice a n c], .int .i64 t] w fun e w' => e = .returned (.bool true) ∧ Below w.heap.size w w' := by
  have hh2 : decide (9000000000 < t) = false := decide_eq_false hh
  have hh3 : t ≤ 9000000000 := by omega
  have hl2 : decide (t < -9000000000) = false := decide_eq_false hl
  have hl3 : -9000000000 ≤ t := by omega
  have HN := Lib.hid (decide_eq_true hn)
  have tk := ticks h1 h2
  have ub := ut_in (B := B) (E := E) (f := f) (n := n) (t := t)
  have ub2 := ut_in (B := B) (E := E) (f := f) (n := n) (t := t + 1)
  have H1 := Lib.hid h1
  have H2 := Lib.hid h2
  obtain ⟨U, hU⟩ : ∃ U, utV B E f n t = U := ⟨_, rfl⟩
  obtain ⟨V, hV⟩ : ∃ V, utV B E f n (t + 1) = V := ⟨_, rfl⟩
  obtain ⟨P, hP⟩ : ∃ P, utP B E f n t = P := ⟨_, rfl⟩
  obtain ⟨Q, hQ⟩ : ∃ Q, utP B E f n (t + 1) = Q := ⟨_, rfl⟩
  rw [hU, hV, hP, hQ] at tk
  rw [hQ] at hq
  rw [hU, hV, hP] at hd
  rw [hP] at hp2
  rw [hU] at ub
  rw [hV] at ub2
  obtain ⟨ub0, ub1⟩ := ub
  obtain ⟨ub2, ub3⟩ := ub2
  clear h1 h2 hn
  subst hq
  obtain ⟨tk1, tk3⟩ := hd
  subst hp2
  clear tk
  obtain rfl : V = U + 1 := by omega
  have k4 : U + 1 - U = 1 := by omega
  have o1 := offU_in (B := B) (E := E) (f := f) (n := n) (u := U + 1)
  have o2 := offU_in (B := B) (E := E) (f := f) (n := n) (u := U)
  have k1 : IntKind.i64.wrap (offU B E f n (U + 1) - offU B E f n U) = 1 := by rw [IntWalk.i64_in _ (by omega), tk3 rfl]
  clear o1 o2
  clear tk3 tk1
  have HU := Lib.hid hU
  have HV := Lib.hid hV
  have HP := Lib.hid hP
  have HQ := Lib.hid hQ
  clear hU hV hP hQ
  have S0' := Lib.hid (lw_new w B E a n c f hr ht hp he)
  clear ht hp he hr
  obtain ⟨v0, hv0⟩ : ∃ v, w.alloc (.cells #[.int .i64 B, .int .i64 E, .slice a n c] 24) = v := ⟨_, rfl⟩
  obtain ⟨G, hG⟩ : ∃ G, w.heap.size = G := ⟨_, rfl⟩
  have S0 : Hid (Lw w v0 G B E a n c f) := Lib.hid (by rw [← hv0, ← hG]; exact S0'.out)
  clear S0'
  obtain ⟨t0', t1', t2'⟩ := S0.out.cells
  go_enter Tryz.func6, Tryz.ntmps6
  go_wp2_with fail
  refine (small6_v HN.out v0).mono ?_
  rintro e v1 ⟨rfl, hbl⟩
  have S1 := Lib.hid (S0.out.below hbl)
  clear hbl S0 t0' t1' t2' hv0 hG
  obtain ⟨t0, t1, t2⟩ := S1.out.cells
  go_wp2_with fail
  refine (lutc_v HU.out HP.out H1.out v1 S1.out.mt S1.out.lrd tb0 tb1).mono ?_
  rintro e v2 ⟨rfl, hbl⟩
  have S2 := Lib.hid (S1.out.below hbl)
  clear hbl S1 t0 t1 t2
  obtain ⟨t0, t1, t2⟩ := S2.out.cells
  go_wp2_with fail
  refine (lutc_v HV.out HQ.out H2.out v2 S2.out.mt S2.out.lrd (by omega) (by omega)).mono ?_
  rintro e v3 ⟨rfl, hbl⟩
  have S3 := Lib.hid (S2.out.below hbl)
  clear hbl S2 t0 t1 t2
  obtain ⟨t0, t1, t2⟩ := S3.out.cells
  go_wp2_with fail
  have S3d := Lib.hid S3.out.drew
  go_region_held3 (fun w' => w'.cell? ⟨G, 0, none⟩ = some (.int .i64 B) ∧ w'.cell? ⟨G, 1, none⟩ = some (.int .i64 E) ∧ w'.cell? ⟨G, 2, none⟩ = some (.slice a n c)) (go_keep)
    (first
      | (go_at_call 18; refine (loffset_any B E a n c f _ _ ?_ ?_).mono ?_; exact S3d.out.mt; exact S3d.out.lrd; rintro e v4 ⟨rfl, hbl⟩; have S4 := Lib.hid (S3d.out.below hbl); clear hbl S3d; obtain ⟨y00, y01, y02⟩ := S4.out.cells; clear t0 t1 t2)
      | (go_at_call 18; refine (loffset_any B E a n c f _ _ ?_ ?_).mono ?_; exact S4.out.mt; exact S4.out.lrd; rintro e v5 ⟨rfl, hbl⟩; have S5 := Lib.hid (S4.out.below hbl); clear hbl S4; obtain ⟨y10, y11, y12⟩ := S5.out.cells; clear y00 y01 y02)
      | (go_at_call 11; refine (awake6_any _ ?_ ?_ ?_).mono ?_; exact S5.out.mt; exact S5.out.tab; exact S5.out.errs; rintro e v6 ⟨rfl, hbl⟩; have S6 := Lib.hid (S5.out.below hbl); clear hbl; obtain ⟨z0, z1, z2⟩ := S6.out.cells; clear y10 y11 y12))
  go_wp2_with fail
  go_ret
  exact ⟨rfl, S6.out.bel⟩

set_option maxRecDepth 100000 in
set_option linter.unusedVariables false in
theorem ticks_nf (B E : Int) (a : Option Addr) (n c : Nat) (f : Nat → Int × Int) (t : Int) (w : World) (ht : MT w) (hp : Tab w) (he : Errs w) (hr : LRd w w.heap.size a n f) (tb0 : -9223372036854775808 ≤ t) (tb1 : t ≤ 9223372036854775807) (hn : n ≤ 70) (hl : ¬ t < -9000000000) (hh : ¬ 9000000000 < t) (h1 : utE B E f n t = 0) (h2 : utE B E f n (t + 1) = 0) (hq : utP B E f n (t + 1) = false) (hp2 : utP B E f n t = false) (hd : utV B E f n (t + 1) - utV B E f n t = 1 ∧ (utP B E f n t = true → offU B E f n (utV B E f n (t + 1)) - offU B E f n (utV B E f n t) = 1)) :
    Calls Tryz.prog 6 #[.agg #[.int .i64 B, .int .i64 E, .slice a n c], .int .i64 t] w fun e w' => e = .returned (.bool true) ∧ Below w.heap.size w w' := by
  have hh2 : decide (9000000000 < t) = false := decide_eq_false hh
  have hh3 : t ≤ 9000000000 := by omega
  have hl2 : decide (t < -9000000000) = false := decide_eq_false hl
  have hl3 : -9000000000 ≤ t := by omega
  have HN := Lib.hid (decide_eq_true hn)
  have tk := ticks h1 h2
  have ub := ut_in (B := B) (E := E) (f := f) (n := n) (t := t)
  have ub2 := ut_in (B := B) (E := E) (f := f) (n := n) (t := t + 1)
  have H1 := Lib.hid h1
  have H2 := Lib.hid h2
  obtain ⟨U, hU⟩ : ∃ U, utV B E f n t = U := ⟨_, rfl⟩
  obtain ⟨V, hV⟩ : ∃ V, utV B E f n (t + 1) = V := ⟨_, rfl⟩
  obtain ⟨P, hP⟩ : ∃ P, utP B E f n t = P := ⟨_, rfl⟩
  obtain ⟨Q, hQ⟩ : ∃ Q, utP B E f n (t + 1) = Q := ⟨_, rfl⟩
  rw [hU, hV, hP, hQ] at tk
  rw [hQ] at hq
  rw [hU, hV, hP] at hd
  rw [hP] at hp2
  rw [hU] at ub
  rw [hV] at ub2
  obtain ⟨ub0, ub1⟩ := ub
  obtain ⟨ub2, ub3⟩ := ub2
  clear h1 h2 hn
  subst hq
  obtain ⟨tk1, tk3⟩ := hd
  subst hp2
  clear tk
  obtain rfl : V = U + 1 := by omega
  have k4 : U + 1 - U = 1 := by omega
  clear tk3 tk1
  have HU := Lib.hid hU
  have HV := Lib.hid hV
  have HP := Lib.hid hP
  have HQ := Lib.hid hQ
  clear hU hV hP hQ
  have S0' := Lib.hid (lw_new w B E a n c f hr ht hp he)
  clear ht hp he hr
  obtain ⟨v0, hv0⟩ : ∃ v, w.alloc (.cells #[.int .i64 B, .int .i64 E, .slice a n c] 24) = v := ⟨_, rfl⟩
  obtain ⟨G, hG⟩ : ∃ G, w.heap.size = G := ⟨_, rfl⟩
  have S0 : Hid (Lw w v0 G B E a n c f) := Lib.hid (by rw [← hv0, ← hG]; exact S0'.out)
  clear S0'
  obtain ⟨t0', t1', t2'⟩ := S0.out.cells
  go_enter Tryz.func6, Tryz.ntmps6
  go_wp2_with fail
  refine (small6_v HN.out v0).mono ?_
  rintro e v1 ⟨rfl, hbl⟩
  have S1 := Lib.hid (S0.out.below hbl)
  clear hbl S0 t0' t1' t2' hv0 hG
  obtain ⟨t0, t1, t2⟩ := S1.out.cells
  go_wp2_with fail
  refine (lutc_v HU.out HP.out H1.out v1 S1.out.mt S1.out.lrd tb0 tb1).mono ?_
  rintro e v2 ⟨rfl, hbl⟩
  have S2 := Lib.hid (S1.out.below hbl)
  clear hbl S1 t0 t1 t2
  obtain ⟨t0, t1, t2⟩ := S2.out.cells
  go_wp2_with fail
  refine (lutc_v HV.out HQ.out H2.out v2 S2.out.mt S2.out.lrd (by omega) (by omega)).mono ?_
  rintro e v3 ⟨rfl, hbl⟩
  have S3 := Lib.hid (S2.out.below hbl)
  clear hbl S2 t0 t1 t2
  obtain ⟨t0, t1, t2⟩ := S3.out.cells
  go_wp2_with fail
  have S3d := Lib.hid S3.out.drew
  refine wp_region_held_drew (S := fun _ => True) (by kernel_rfl) trivial (fun hHeld => ?_)
  refine wpAnyH_take (i := 0) (oi := ⟨some 88, _, _, _, _, _⟩) (v := ?v0) rfl (by kernel_rfl) (by kernel_rfl) (by kernel_rfl) (fun _ _ _ h => h) (Or.inl ⟨by kernel_rfl, ?h0⟩) (trivial) ?r0
  case h0 => (intro w' hSw; (try dsimp only at hSw); go_simp; (try with_reducible rfl))
  try simp only [Act.put, List.setIfInBounds_toArray, List.set_cons_zero, List.set_cons_succ]
  refine wpAnyH_take (i := 1) (oi := ⟨some 89, _, _, _, _, _⟩) (v := ?v1) rfl (by kernel_rfl) (by kernel_rfl) (by kernel_rfl) (fun _ _ _ h => h) (Or.inl ⟨by kernel_rfl, ?h1⟩) (trivial) ?r1
  case h1 => (intro w' hSw; (try dsimp only at hSw); go_simp; (try with_reducible rfl))
  try simp only [Act.put, List.setIfInBounds_toArray, List.set_cons_zero, List.set_cons_succ]
  refine wpAnyH_take (i := 2) (oi := ⟨some 90, _, _, _, _, _⟩) (v := ?v2) rfl (by kernel_rfl) (by kernel_rfl) (by kernel_rfl) (fun _ _ _ h => h) (Or.inl ⟨by kernel_rfl, ?h2⟩) (trivial) ?r2
  case h2 => (intro w' hSw; (try dsimp only at hSw); go_simp; (try with_reducible rfl))
  try simp only [Act.put, List.setIfInBounds_toArray, List.set_cons_zero, List.set_cons_succ]
  refine wpAnyH_take (i := 3) (oi := ⟨some 91, _, _, _, _, _⟩) (v := ?v3) rfl (by kernel_rfl) (by kernel_rfl) (by kernel_rfl) (fun _ _ _ h => h) (Or.inl ⟨by kernel_rfl, ?h3⟩) (trivial) ?r3
  case h3 => (intro w' hSw; (try dsimp only at hSw); go_simp; (try with_reducible rfl))
  try simp only [Act.put, List.setIfInBounds_toArray, List.set_cons_zero, List.set_cons_succ]
  refine wpAnyH_take (i := 4) (oi := ⟨some 92, _, _, _, _, _⟩) (v := ?v4) rfl (by kernel_rfl) (by kernel_rfl) (by kernel_rfl) (fun _ _ _ h => h) (Or.inl ⟨by kernel_rfl, ?h4⟩) (trivial) ?r4
  case h4 => (intro w' hSw; (try dsimp only at hSw); go_simp; (try with_reducible rfl))
  try simp only [Act.put, List.setIfInBounds_toArray, List.set_cons_zero, List.set_cons_succ]
  refine wpAnyH_take (i := 5) (oi := ⟨some 93, _, _, _, _, _⟩) (v := ?v5) rfl (by kernel_rfl) (by kernel_rfl) (by kernel_rfl) (fun _ _ _ h => h) (Or.inl ⟨by kernel_rfl, ?h5⟩) (trivial) ?r5
  case h5 => (intro w' hSw; (try dsimp only at hSw); go_simp; (try with_reducible rfl))
  try simp only [Act.put, List.setIfInBounds_toArray, List.set_cons_zero, List.set_cons_succ]
  refine wpAnyH_take (i := 6) (oi := ⟨some 94, _, _, _, _, _⟩) (v := undef) rfl (by kernel_rfl) (by kernel_rfl) (by kernel_rfl) (fun _ _ _ h => h) (Or.inr ⟨by kernel_rfl, rfl⟩) (trivial) ?_
  try simp only [Act.put, List.setIfInBounds_toArray, List.set_cons_zero, List.set_cons_succ]
  refine wpAnyH_take (i := 7) (oi := ⟨some 95, _, _, _, _, _⟩) (v := undef) rfl (by kernel_rfl) (by kernel_rfl) (by kernel_rfl) (fun _ _ _ h => h) (Or.inr ⟨by kernel_rfl, rfl⟩) (trivial) ?_
  try simp only [Act.put, List.setIfInBounds_toArray, List.set_cons_zero, List.set_cons_succ]
  refine wpAnyH_take (i := 8) (oi := ⟨some 96, _, _, _, _, _⟩) (v := undef) rfl (by kernel_rfl) (by kernel_rfl) (by kernel_rfl) (fun _ _ _ h => h) (Or.inr ⟨by kernel_rfl, rfl⟩) (trivial) ?_
  try simp only [Act.put, List.setIfInBounds_toArray, List.set_cons_zero, List.set_cons_succ]
  refine wpAnyH_take (i := 9) (oi := ⟨some 97, _, _, _, _, _⟩) (v := undef) rfl (by kernel_rfl) (by kernel_rfl) (by kernel_rfl) (fun _ _ _ h => h) (Or.inr ⟨by kernel_rfl, rfl⟩) (trivial) ?_
  try simp only [Act.put, List.setIfInBounds_toArray, List.set_cons_zero, List.set_cons_succ]
  refine wpAnyH_take (i := 10) (oi := ⟨some 98, _, _, _, _, _⟩) (v := undef) rfl (by kernel_rfl) (by kernel_rfl) (by kernel_rfl) (fun _ _ _ h => h) (Or.inr ⟨by kernel_rfl, rfl⟩) (trivial) ?_
  try simp only [Act.put, List.setIfInBounds_toArray, List.set_cons_zero, List.set_cons_succ]
  refine wpAnyH_take (i := 11) (oi := ⟨some 99, _, _, _, _, _⟩) (v := undef) rfl (by kernel_rfl) (by kernel_rfl) (by kernel_rfl) (fun _ _ _ h => h) (Or.inr ⟨by kernel_rfl, rfl⟩) (trivial) ?_
  try simp only [Act.put, List.setIfInBounds_toArray, List.set_cons_zero, List.set_cons_succ]
  refine wpAnyH_take (i := 12) (oi := ⟨some 100, _, _, _, _, _⟩) (v := undef) rfl (by kernel_rfl) (by kernel_rfl) (by kernel_rfl) (fun _ _ _ h => h) (Or.inr ⟨by kernel_rfl, rfl⟩) (trivial) ?_
  try simp only [Act.put, List.setIfInBounds_toArray, List.set_cons_zero, List.set_cons_succ]
  refine wpAnyH_take (i := 13) (oi := ⟨some 101, _, _, _, _, _⟩) (v := undef) rfl (by kernel_rfl) (by kernel_rfl) (by kernel_rfl) (fun _ _ _ h => h) (Or.inr ⟨by kernel_rfl, rfl⟩) (trivial) ?_
  try simp only [Act.put, List.setIfInBounds_toArray, List.set_cons_zero, List.set_cons_succ]
  refine wpAnyH_take (i := 14) (oi := ⟨some 102, _, _, _, _, _⟩) (v := ?v14) rfl (by kernel_rfl) (by kernel_rfl) (by kernel_rfl) (fun _ _ _ h => h) (Or.inl ⟨by kernel_rfl, ?h14⟩) (trivial) ?r14
  case h14 => (intro w' hSw; (try dsimp only at hSw); go_simp; (try with_reducible rfl))
  try simp only [Act.put, List.setIfInBounds_toArray, List.set_cons_zero, List.set_cons_succ]
  refine wpAnyH_take (i := 15) (oi := ⟨some 103, _, _, _, _, _⟩) (v := ?v15) rfl (by kernel_rfl) (by kernel_rfl) (by kernel_rfl) (fun _ _ _ h => h) (Or.inl ⟨by kernel_rfl, ?h15⟩) (trivial) ?r15
  case h15 => (intro w' hSw; (try dsimp only at hSw); go_simp; (try with_reducible rfl))
  try simp only [Act.put, List.setIfInBounds_toArray, List.set_cons_zero, List.set_cons_succ]
  refine wpAnyH_take (i := 16) (oi := ⟨some 104, _, _, _, _, _⟩) (v := ?v16) rfl (by kernel_rfl) (by kernel_rfl) (by kernel_rfl) (fun _ _ _ h => h) (Or.inl ⟨by kernel_rfl, ?h16⟩) (trivial) ?r16
  case h16 => (intro w' hSw; (try dsimp only at hSw); go_simp; (try with_reducible rfl))
  try simp only [Act.put, List.setIfInBounds_toArray, List.set_cons_zero, List.set_cons_succ]
  refine wpAnyH_ready (rs := [17]) (by kernel_rfl) (by simp) ?_
  refine AllReadyH.cons (o := ⟨some 105, _, _, _, _, _⟩) rfl (fun K hK => ?_) AllReadyH.nil
  rw [if_pos (by kernel_rfl)]
  go_simp
  refine (awake6_any _ ?_ ?_ ?_).mono ?_
  · exact S3d.out.mt
  · exact S3d.out.tab
  · exact S3d.out.errs
  rintro e v4 ⟨rfl, hbl⟩
  have S4 := Lib.hid (S3d.out.below hbl)
  clear hbl
  go_wp2_with fail
  refine hK.out _ _ trivial (fun hHeld17 => ?_)
  clear hK K
  try simp only [Act.put, List.setIfInBounds_toArray, List.set_cons_zero, List.set_cons_succ]
  refine wpAnyH_take (i := 18) (oi := ⟨some 106, _, _, _, _, _⟩) (v := ?v18) rfl (by kernel_rfl) (by kernel_rfl) (by kernel_rfl) (fun _ _ _ h => h) (Or.inl ⟨by kernel_rfl, ?h18⟩) (trivial) ?r18
  case h18 => (intro w' hSw; (try dsimp only at hSw); go_simp; (try with_reducible rfl))
  try simp only [Act.put, List.setIfInBounds_toArray, List.set_cons_zero, List.set_cons_succ]
  refine wpAnyH_take (i := 19) (oi := ⟨some 4, _, _, _, _, _⟩) (v := ?v19) rfl (by kernel_rfl) (by kernel_rfl) (by kernel_rfl) (fun _ _ _ h => h) (Or.inl ⟨by kernel_rfl, ?h19⟩) (trivial) ?r19
  case h19 => (intro w' hSw; (try dsimp only at hSw); go_simp; (try with_reducible rfl))
  try simp only [Act.put, List.setIfInBounds_toArray, List.set_cons_zero, List.set_cons_succ]
  refine wpAnyH_done (by kernel_rfl) ?_ _
  go_wp2_with fail
  go_ret
  exact ⟨rfl, S4.out.bel⟩

theorem ticks_law (B E : Int) (a : Option Addr) (n c : Nat) (f : Nat → Int × Int) (t : Int) (w : World) (ht : MT w) (hp : Tab w) (he : Errs w) (hr : LRd w w.heap.size a n f) (t0 : -9223372036854775808 ≤ t) (t1 : t ≤ 9223372036854775807) :
    Calls Tryz.prog 6 #[.agg #[.int .i64 B, .int .i64 E, .slice a n c], .int .i64 t] w fun e w' => e = .returned (.bool true) ∧ Below w.heap.size w w' := by
  by_cases hn : n ≤ 70
  · by_cases hl : t < -9000000000
    · exact ticks_low B E a n c f t w ht hp he hr t0 t1 hn hl
    · by_cases hh : 9000000000 < t
      · exact ticks_high B E a n c f t w ht hp he hr t0 t1 hn hl hh
      · by_cases h1 : utE B E f n t = 0
        · by_cases h2 : utE B E f n (t + 1) = 0
          · cases hq : utP B E f n (t + 1)
            · rcases (ticks h1 h2).2 hq with hd | hd
              · exact ticks_d B E a n c f t w ht hp he hr t0 t1 hn hl hh h1 h2 hq hd
              · cases hp2 : utP B E f n t
                · exact ticks_nf B E a n c f t w ht hp he hr t0 t1 hn hl hh h1 h2 hq hp2 hd
                · exact ticks_nt B E a n c f t w ht hp he hr t0 t1 hn hl hh h1 h2 hq hp2 hd
            · exact ticks_q B E a n c f t w ht hp he hr t0 t1 hn hl hh h1 h2 hq
          · exact ticks_e01 B E a n c f t w ht hp he hr t0 t1 hn hl hh h1 h2
        · by_cases h2 : utE B E f n (t + 1) = 0
          · exact ticks_e10 B E a n c f t w ht hp he hr t0 t1 hn hl hh h1 h2
          · exact ticks_e11 B E a n c f t w ht hp he hr t0 t1 hn hl hh h1 h2
  · exact ticks_large B E a n c f t w ht hp he hr t0 t1 hn
end Go.Proofs.YtegpajdahanhfaaGreatDoor
