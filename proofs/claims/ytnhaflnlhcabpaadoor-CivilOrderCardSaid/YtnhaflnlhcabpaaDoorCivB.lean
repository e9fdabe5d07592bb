/- Contracts of layer 5: Check of the specification. -/
import Derived.Test.YtnhaflnlhcabpaaDoorCivA
import Derived.Deep.RegionHeld3
import Derived.BigQuiet
namespace Go.Proofs.YtnhaflnlhcabpaaDoor
open Go.RowKit Fx Cv

/-- A valid civil time. -/
def Cv.okC (y m d hh mi s n : Int) : Bool := decide (1600 ≤ y ∧ y ≤ 2200 ∧ 1 ≤ m ∧ m ≤ 12 ∧ 1 ≤ d ∧ d ≤ md y m ∧ 0 ≤ hh ∧ hh ≤ 23 ∧ 0 ≤ mi ∧ mi ≤ 59 ∧ 0 ≤ s ∧ s ≤ 59 ∧ 0 ≤ n ∧ n ≤ 999999999)
/-- What Check returns. -/
def Cv.chkC (y m d hh mi s n : Int) : Int := if okC y m d hh mi s n = true then 0 else 3
theorem Cv.okC_iff {y m d hh mi s n : Int} : okC y m d hh mi s n = true ↔ (1600 ≤ y ∧ y ≤ 2200 ∧ 1 ≤ m ∧ m ≤ 12 ∧ 1 ≤ d ∧ d ≤ md y m ∧ 0 ≤ hh ∧ hh ≤ 23 ∧ 0 ≤ mi ∧ mi ≤ 59 ∧ 0 ≤ s ∧ s ≤ 59 ∧ 0 ≤ n ∧ n ≤ 999999999) := by simp [okC]
theorem Cv.chk_ok {y m d hh mi s n : Int} (h : okC y m d hh mi s n = true) : chkC y m d hh mi s n = 0 := by unfold chkC; rw [if_pos h]
theorem Cv.chk_no {y m d hh mi s n : Int} (h : ¬ (1600 ≤ y ∧ y ≤ 2200 ∧ 1 ≤ m ∧ m ≤ 12 ∧ 1 ≤ d ∧ d ≤ md y m ∧ 0 ≤ hh ∧ hh ≤ 23 ∧ 0 ≤ mi ∧ mi ≤ 59 ∧ 0 ≤ s ∧ s ≤ 59 ∧ 0 ≤ n ∧ n ≤ 999999999)) : chkC y m d hh mi s n = 3 := by
  unfold chkC; rw [if_neg (fun k => h (okC_iff.1 k))]
theorem Cv.seven_cells {w : World} {g : Nat} {a b c d e f k : Value} {t : TypeId} (h : w.heap[g]? = some (.cells #[a, b, c, d, e, f, k] t (0, 0))) :
    w.cell? ⟨g, 0, none⟩ = some a ∧ w.cell? ⟨g, 1, none⟩ = some b ∧ w.cell? ⟨g, 2, none⟩ = some c ∧ w.cell? ⟨g, 3, none⟩ = some d ∧ w.cell? ⟨g, 4, none⟩ = some e ∧ w.cell? ⟨g, 5, none⟩ = some f ∧ w.cell? ⟨g, 6, none⟩ = some k := by
  simp [World.cell?, h]

set_option maxRecDepth 100000 in
theorem rcchk_0 (y m d hh mi s n : Int) (w : World) (a1 : y < 1600) :
    Calls Tryd.prog 14 #[.agg #[.int .i64 y, .int .i64 m, .int .i64 d, .int .i64 hh, .int .i64 mi, .int .i64 s, .int .i64 n]] w fun e w' => e = .returned (.int .i64 (chkC y m d hh mi s n)) ∧ ∃ k, w' = (w.alloc (.cells #[.int .i64 y, .int .i64 m, .int .i64 d, .int .i64 hh, .int .i64 mi, .int .i64 s, .int .i64 n] 23)).drewN k := by
  have HC := Lib.hid (chk_no (y := y) (m := m) (d := d) (hh := hh) (mi := mi) (s := s) (n := n) (by omega))
  rw [HC.out]
  obtain ⟨c0, c1, c2, c3, c4, c5, c6⟩ := seven_cells (heap_alloc_new w (.cells #[.int .i64 y, .int .i64 m, .int .i64 d, .int .i64 hh, .int .i64 mi, .int .i64 s, .int .i64 n] 23))
  go_enter Tryd.func14, Tryd.ntmps14
  go_wp2_with fail
  go_quiet (fail)
  go_wp2
  all_goals (go_ret; exact ⟨rfl, ⟨_, rfl⟩⟩)

set_option maxRecDepth 100000 in
theorem rcchk_1 (y m d hh mi s n : Int) (w : World) (y1 : y ≤ 9223372036854775807) (a1 : ¬ (y < 1600)) (a2 : 2200 < y) :
    Calls Tryd.prog 14 #[.agg #[.int .i64 y, .int .i64 m, .int .i64 d, .int .i64 hh, .int .i64 mi, .int .i64 s, .int .i64 n]] w fun e w' => e = .returned (.int .i64 (chkC y m d hh mi s n)) ∧ ∃ k, w' = (w.alloc (.cells #[.int .i64 y, .int .i64 m, .int .i64 d, .int .i64 hh, .int .i64 mi, .int .i64 s, .int .i64 n] 23)).drewN k := by
  have HC := Lib.hid (chk_no (y := y) (m := m) (d := d) (hh := hh) (mi := mi) (s := s) (n := n) (by omega))
  have d1 : decide (y < 1600) = false := decide_eq_false a1
  rw [HC.out]
  obtain ⟨c0, c1, c2, c3, c4, c5, c6⟩ := seven_cells (heap_alloc_new w (.cells #[.int .i64 y, .int .i64 m, .int .i64 d, .int .i64 hh, .int .i64 mi, .int .i64 s, .int .i64 n] 23))
  go_enter Tryd.func14, Tryd.ntmps14
  go_wp2_with fail
  go_quiet (fail)
  go_wp2
  all_goals (go_ret; exact ⟨rfl, ⟨_, rfl⟩⟩)

set_option maxRecDepth 100000 in
theorem rcchk_2 (y m d hh mi s n : Int) (w : World)  (a1 : ¬ (y < 1600)) (a2 : ¬ (2200 < y)) (a3 : m < 1) :
    Calls Tryd.prog 14 #[.agg #[.int .i64 y, .int .i64 m, .int .i64 d, .int .i64 hh, .int .i64 mi, .int .i64 s, .int .i64 n]] w fun e w' => e = .returned (.int .i64 (chkC y m d hh mi s n)) ∧ ∃ k, w' = (w.alloc (.cells #[.int .i64 y, .int .i64 m, .int .i64 d, .int .i64 hh, .int .i64 mi, .int .i64 s, .int .i64 n] 23)).drewN k := by
  have HC := Lib.hid (chk_no (y := y) (m := m) (d := d) (hh := hh) (mi := mi) (s := s) (n := n) (by omega))
  have d1 : decide (y < 1600) = false := decide_eq_false a1
  have d2 : decide (2200 < y) = false := decide_eq_false a2
  rw [HC.out]
  obtain ⟨c0, c1, c2, c3, c4, c5, c6⟩ := seven_cells (heap_alloc_new w (.cells #[.int .i64 y, .int .i64 m, .int .i64 d, .int .i64 hh, .int .i64 mi, .int .i64 s, .int .i64 n] 23))
  go_enter Tryd.func14, Tryd.ntmps14
  go_wp2_with fail
  go_quiet (fail)
  go_wp2
  all_goals (go_ret; exact ⟨rfl, ⟨_, rfl⟩⟩)

set_option maxRecDepth 100000 in
theorem rcchk_3 (y m d hh mi s n : Int) (w : World)  (a1 : ¬ (y < 1600)) (a2 : ¬ (2200 < y)) (a3 : ¬ (m < 1)) (a4 : 12 < m) :
    Calls Tryd.prog 14 #[.agg #[.int .i64 y, .int .i64 m, .int .i64 d, .int .i64 hh, .int .i64 mi, .int .i64 s, .int .i64 n]] w fun e w' => e = .returned (.int .i64 (chkC y m d hh mi s n)) ∧ ∃ k, w' = (w.alloc (.cells #[.int .i64 y, .int .i64 m, .int .i64 d, .int .i64 hh, .int .i64 mi, .int .i64 s, .int .i64 n] 23)).drewN k := by
  have HC := Lib.hid (chk_no (y := y) (m := m) (d := d) (hh := hh) (mi := mi) (s := s) (n := n) (by omega))
  have d1 : decide (y < 1600) = false := decide_eq_false a1
  have d2 : decide (2200 < y) = false := decide_eq_false a2
  have d3 : decide (m < 1) = false := decide_eq_false a3
  rw [HC.out]
  obtain ⟨c0, c1, c2, c3, c4, c5, c6⟩ := seven_cells (heap_alloc_new w (.cells #[.int .i64 y, .int .i64 m, .int .i64 d, .int .i64 hh, .int .i64 mi, .int .i64 s, .int .i64 n] 23))
  go_enter Tryd.func14, Tryd.ntmps14
  go_wp2_with fail
  go_quiet (fail)
  go_wp2
  all_goals (go_ret; exact ⟨rfl, ⟨_, rfl⟩⟩)

set_option maxRecDepth 100000 in
theorem rcchk_4 (y m d hh mi s n : Int) (w : World)  (a1 : ¬ (y < 1600)) (a2 : ¬ (2200 < y)) (a3 : ¬ (m < 1)) (a4 : ¬ (12 < m)) (a5 : d < 1) :
    Calls Tryd.prog 14 #[.agg #[.int .i64 y, .int .i64 m, .int .i64 d, .int .i64 hh, .int .i64 mi, .int .i64 s, .int .i64 n]] w fun e w' => e = .returned (.int .i64 (chkC y m d hh mi s n)) ∧ ∃ k, w' = (w.alloc (.cells #[.int .i64 y, .int .i64 m, .int .i64 d, .int .i64 hh, .int .i64 mi, .int .i64 s, .int .i64 n] 23)).drewN k := by
  have HC := Lib.hid (chk_no (y := y) (m := m) (d := d) (hh := hh) (mi := mi) (s := s) (n := n) (by omega))
  have d1 : decide (y < 1600) = false := decide_eq_false a1
  have d2 : decide (2200 < y) = false := decide_eq_false a2
  have d3 : decide (m < 1) = false := decide_eq_false a3
  have d4 : decide (12 < m) = false := decide_eq_false a4
  rw [HC.out]
  obtain ⟨c0, c1, c2, c3, c4, c5, c6⟩ := seven_cells (heap_alloc_new w (.cells #[.int .i64 y, .int .i64 m, .int .i64 d, .int .i64 hh, .int .i64 mi, .int .i64 s, .int .i64 n] 23))
  go_enter Tryd.func14, Tryd.ntmps14
  go_wp2_with fail
  go_quiet (fail)
  go_wp2
  all_goals (go_ret; exact ⟨rfl, ⟨_, rfl⟩⟩)

set_option maxRecDepth 100000 in
theorem rcchk_5 (y m d hh mi s n : Int) (w : World)  (a1 : ¬ (y < 1600)) (a2 : ¬ (2200 < y)) (a3 : ¬ (m < 1)) (a4 : ¬ (12 < m)) (a5 : ¬ (d < 1)) (a6 : md y m < d) :
    Calls Tryd.prog 14 #[.agg #[.int .i64 y, .int .i64 m, .int .i64 d, .int .i64 hh, .int .i64 mi, .int .i64 s, .int .i64 n]] w fun e w' => e = .returned (.int .i64 (chkC y m d hh mi s n)) ∧ ∃ k, w' = (w.alloc (.cells #[.int .i64 y, .int .i64 m, .int .i64 d, .int .i64 hh, .int .i64 mi, .int .i64 s, .int .i64 n] 23)).drewN k := by
  have HC := Lib.hid (chk_no (y := y) (m := m) (d := d) (hh := hh) (mi := mi) (s := s) (n := n) (by omega))
  obtain ⟨M, hM⟩ : ∃ M, md y m = M := ⟨_, rfl⟩
  rw [hM] at a6
  have HM := Lib.hid hM
  clear hM
  have d1 : decide (y < 1600) = false := decide_eq_false a1
  have d2 : decide (2200 < y) = false := decide_eq_false a2
  have d3 : decide (m < 1) = false := decide_eq_false a3
  have d4 : decide (12 < m) = false := decide_eq_false a4
  have d5 : decide (d < 1) = false := decide_eq_false a5
  rw [HC.out]
  obtain ⟨c0, c1, c2, c3, c4, c5, c6⟩ := seven_cells (heap_alloc_new w (.cells #[.int .i64 y, .int .i64 m, .int .i64 d, .int .i64 hh, .int .i64 mi, .int .i64 s, .int .i64 n] 23))
  go_enter Tryd.func14, Tryd.ntmps14
  go_wp2_with fail
  go_quiet ((go_at_call 23; exact Calls.quiet_of_same ((rmd_any y m _ (by omega) (by omega)).mono (by rintro e w' ⟨rfl, rfl⟩; rw [HM.out]; exact ⟨rfl, rfl⟩))))
  go_wp2
  all_goals (go_ret; exact ⟨rfl, ⟨_, rfl⟩⟩)

set_option maxRecDepth 100000 in
theorem rcchk_6 (y m d hh mi s n : Int) (w : World)  (a1 : ¬ (y < 1600)) (a2 : ¬ (2200 < y)) (a3 : ¬ (m < 1)) (a4 : ¬ (12 < m)) (a5 : ¬ (d < 1)) (a6 : ¬ (md y m < d)) (a7 : hh < 0) :
    Calls Tryd.prog 14 #[.agg #[.int .i64 y, .int .i64 m, .int .i64 d, .int .i64 hh, .int .i64 mi, .int .i64 s, .int .i64 n]] w fun e w' => e = .returned (.int .i64 (chkC y m d hh mi s n)) ∧ ∃ k, w' = (w.alloc (.cells #[.int .i64 y, .int .i64 m, .int .i64 d, .int .i64 hh, .int .i64 mi, .int .i64 s, .int .i64 n] 23)).drewN k := by
  have HC := Lib.hid (chk_no (y := y) (m := m) (d := d) (hh := hh) (mi := mi) (s := s) (n := n) (by omega))
  obtain ⟨M, hM⟩ : ∃ M, md y m = M := ⟨_, rfl⟩
  rw [hM] at a6
  have HM := Lib.hid hM
  clear hM
  have d1 : decide (y < 1600) = false := decide_eq_false a1
  have d2 : decide (2200 < y) = false := decide_eq_false a2
  have d3 : decide (m < 1) = false := decide_eq_false a3
  have d4 : decide (12 < m) = false := decide_eq_false a4
  have d5 : decide (d < 1) = false := decide_eq_false a5
  have d6 : decide (M < d) = false := decide_eq_false a6
  rw [HC.out]
  obtain ⟨c0, c1, c2, c3, c4, c5, c6⟩ := seven_cells (heap_alloc_new w (.cells #[.int .i64 y, .int .i64 m, .int .i64 d, .int .i64 hh, .int .i64 mi, .int .i64 s, .int .i64 n] 23))
  go_enter Tryd.func14, Tryd.ntmps14
  go_wp2_with fail
  go_quiet ((go_at_call 23; exact Calls.quiet_of_same ((rmd_any y m _ (by omega) (by omega)).mono (by rintro e w' ⟨rfl, rfl⟩; rw [HM.out]; exact ⟨rfl, rfl⟩))))
  go_wp2
  all_goals (go_ret; exact ⟨rfl, ⟨_, rfl⟩⟩)

set_option maxRecDepth 100000 in
theorem rcchk_7 (y m d hh mi s n : Int) (w : World)  (a1 : ¬ (y < 1600)) (a2 : ¬ (2200 < y)) (a3 : ¬ (m < 1)) (a4 : ¬ (12 < m)) (a5 : ¬ (d < 1)) (a6 : ¬ (md y m < d)) (a7 : ¬ (hh < 0)) (a8 : 23 < hh) :
    Calls Tryd.prog 14 #[.agg #[.int .i64 y, .int .i64 m, .int .i64 d, .int .i64 hh, .int .i64 mi, .int .i64 s, .int .i64 n]] w fun e w' => e = .returned (.int .i64 (chkC y m d hh mi s n)) ∧ ∃ k, w' = (w.alloc (.cells #[.int .i64 y, .int .i64 m, .int .i64 d, .int .i64 hh, .int .i64 mi, .int .i64 s, .int .i64 n] 23)).drewN k := by
  have HC := Lib.hid (chk_no (y := y) (m := m) (d := d) (hh := hh) (mi := mi) (s := s) (n := n) (by omega))
  obtain ⟨M, hM⟩ : ∃ M, md y m = M := ⟨_, rfl⟩
  rw [hM] at a6
  have HM := Lib.hid hM
  clear hM
  have d1 : decide (y < 1600) = false := decide_eq_false a1
  have d2 : decide (2200 < y) = false := decide_eq_false a2
  have d3 : decide (m < 1) = false := decide_eq_false a3
  have d4 : decide (12 < m) = false := decide_eq_false a4
  have d5 : decide (d < 1) = false := decide_eq_false a5
  have d6 : decide (M < d) = false := decide_eq_false a6
  have d7 : decide (hh < 0) = false := decide_eq_false a7
  rw [HC.out]
  obtain ⟨c0, c1, c2, c3, c4, c5, c6⟩ := seven_cells (heap_alloc_new w (.cells #[.int .i64 y, .int .i64 m, .int .i64 d, .int .i64 hh, .int .i64 mi, .int .i64 s, .int .i64 n] 23))
  go_enter Tryd.func14, Tryd.ntmps14
  go_wp2_with fail
  go_quiet ((go_at_call 23; exact Calls.quiet_of_same ((rmd_any y m _ (by omega) (by omega)).mono (by rintro e w' ⟨rfl, rfl⟩; rw [HM.out]; exact ⟨rfl, rfl⟩))))
  go_wp2
  all_goals (go_ret; exact ⟨rfl, ⟨_, rfl⟩⟩)

set_option maxRecDepth 100000 in
theorem rcchk_8 (y m d hh mi s n : Int) (w : World)  (a1 : ¬ (y < 1600)) (a2 : ¬ (2200 < y)) (a3 : ¬ (m < 1)) (a4 : ¬ (12 < m)) (a5 : ¬ (d < 1)) (a6 : ¬ (md y m < d)) (a7 : ¬ (hh < 0)) (a8 : ¬ (23 < hh)) (a9 : mi < 0) :
    Calls Tryd.prog 14 #[.agg #[.int .i64 y, .int .i64 m, .int .i64 d, .int .i64 hh, .int .i64 mi, .int .i64 s, .int .i64 n]] w fun e w' => e = .returned (.int .i64 (chkC y m d hh mi s n)) ∧ ∃ k, w' = (w.alloc (.cells #[.int .i64 y, .int .i64 m, .int .i64 d, .int .i64 hh, .int .i64 mi, .int .i64 s, .int .i64 n] 23)).drewN k := by
  have HC := Lib.hid (chk_no (y := y) (m := m) (d := d) (hh := hh) (mi := mi) (s := s) (n := n) (by omega))
  obtain ⟨M, hM⟩ : ∃ M, md y m = M := ⟨_, rfl⟩
  rw [hM] at a6
  have HM := Lib.hid hM
  clear hM
  have d1 : decide (y < 1600) = false := decide_eq_false a1
  have d2 : decide (2200 < y) = false := decide_eq_false a2
  have d3 : decide (m < 1) = false := decide_eq_false a3
  have d4 : decide (12 < m) = false := decide_eq_false a4
  have d5 : decide (d < 1) = false := decide_eq_false a5
  have d6 : decide (M < d) = false := decide_eq_false a6
  have d7 : decide (hh < 0) = false := decide_eq_false a7
  have d8 : decide (23 < hh) = false := decide_eq_false a8
  rw [HC.out]
  obtain ⟨c0, c1, c2, c3, c4, c5, c6⟩ := seven_cells (heap_alloc_new w (.cells #[.int .i64 y, .int .i64 m, .int .i64 d, .int .i64 hh, .int .i64 mi, .int .i64 s, .int .i64 n] 23))
  go_enter Tryd.func14, Tryd.ntmps14
  go_wp2_with fail
  go_quiet ((go_at_call 23; exact Calls.quiet_of_same ((rmd_any y m _ (by omega) (by omega)).mono (by rintro e w' ⟨rfl, rfl⟩; rw [HM.out]; exact ⟨rfl, rfl⟩))))
  go_wp2
  all_goals (go_ret; exact ⟨rfl, ⟨_, rfl⟩⟩)

set_option maxRecDepth 100000 in
theorem rcchk_9 (y m d hh mi s n : Int) (w : World)  (a1 : ¬ (y < 1600)) (a2 : ¬ (2200 < y)) (a3 : ¬ (m < 1)) (a4 : ¬ (12 < m)) (a5 : ¬ (d < 1)) (a6 : ¬ (md y m < d)) (a7 : ¬ (hh < 0)) (a8 : ¬ (23 < hh)) (a9 : ¬ (mi < 0)) (a10 : 59 < mi) :
    Calls Tryd.prog 14 #[.agg #[.int .i64 y, .int .i64 m, .int .i64 d, .int .i64 hh, .int .i64 mi, .int .i64 s, .int .i64 n]] w fun e w' => e = .returned (.int .i64 (chkC y m d hh mi s n)) ∧ ∃ k, w' = (w.alloc (.cells #[.int .i64 y, .int .i64 m, .int .i64 d, .int .i64 hh, .int .i64 mi, .int .i64 s, .int .i64 n] 23)).drewN k := by
  have HC := Lib.hid (chk_no (y := y) (m := m) (d := d) (hh := hh) (mi := mi) (s := s) (n := n) (by omega))
  obtain ⟨M, hM⟩ : ∃ M, md y m = M := ⟨_, rfl⟩
  rw [hM] at a6
  have HM := Lib.hid hM
  clear hM
  have d1 : decide (y < 1600) = false := decide_eq_false a1
  have d2 : decide (2200 < y) = false := decide_eq_false a2
  have d3 : decide (m < 1) = false := decide_eq_false a3
  have d4 : decide (12 < m) = false := decide_eq_false a4
  have d5 : decide (d < 1) = false := decide_eq_false a5
  have d6 : decide (M < d) = false := decide_eq_false a6
  have d7 : decide (hh < 0) = false := decide_eq_false a7
  have d8 : decide (23 < hh) = false := decide_eq_false a8
  have d9 : decide (mi < 0) = false := decide_eq_false a9
  rw [HC.out]
  obtain ⟨c0, c1, c2, c3, c4, c5, c6⟩ := seven_cells (heap_alloc_new w (.cells #[.int .i64 y, .int .i64 m, .int .i64 d, .int .i64 hh, .int .i64 mi, .int .i64 s, .int .i64 n] 23))
  go_enter Tryd.func14, Tryd.ntmps14
  go_wp2_with fail
  go_quiet ((go_at_call 23; exact Calls.quiet_of_same ((rmd_any y m _ (by omega) (by omega)).mono (by rintro e w' ⟨rfl, rfl⟩; rw [HM.out]; exact ⟨rfl, rfl⟩))))
  go_wp2
  all_goals (go_ret; exact ⟨rfl, ⟨_, rfl⟩⟩)

set_option maxRecDepth 100000 in
theorem rcchk_10 (y m d hh mi s n : Int) (w : World)  (a1 : ¬ (y < 1600)) (a2 : ¬ (2200 < y)) (a3 : ¬ (m < 1)) (a4 : ¬ (12 < m)) (a5 : ¬ (d < 1)) (a6 : ¬ (md y m < d)) (a7 : ¬ (hh < 0)) (a8 : ¬ (23 < hh)) (a9 : ¬ (mi < 0)) (a10 : ¬ (59 < mi)) (a11 : s < 0) :
    Calls Tryd.prog 14 #[.agg #[.int .i64 y, .int .i64 m, .int .i64 d, .int .i64 hh, .int .i64 mi, .int .i64 s, .int .i64 n]] w fun e w' => e = .returned (.int .i64 (chkC y m d hh mi s n)) ∧ ∃ k, w' = (w.alloc (.cells #[.int .i64 y, .int .i64 m, .int .i64 d, .int .i64 hh, .int .i64 mi, .int .i64 s, .int .i64 n] 23)).drewN k := by
  have HC := Lib.hid (chk_no (y := y) (m := m) (d := d) (hh := hh) (mi := mi) (s := s) (n := n) (by omega))
  obtain ⟨M, hM⟩ : ∃ M, md y m = M := ⟨_, rfl⟩
  rw [hM] at a6
  have HM := Lib.hid hM
  clear hM
  have d1 : decide (y < 1600) = false := decide_eq_false a1
  have d2 : decide (2200 < y) = false := decide_eq_false a2
  have d3 : decide (m < 1) = false := decide_eq_false a3
  have d4 : decide (12 < m) = false := decide_eq_false a4
  have d5 : decide (d < 1) = false := decide_eq_false a5
  have d6 : decide (M < d) = false := decide_eq_false a6
  have d7 : decide (hh < 0) = false := decide_eq_false a7
  have d8 : decide (23 < hh) = false := decide_eq_false a8
  have d9 : decide (mi < 0) = false := decide_eq_false a9
  have d10 : decide (59 < mi) = false := decide_eq_false a10
  rw [HC.out]
  obtain ⟨c0, c1, c2, c3, c4, c5, c6⟩ := seven_cells (heap_alloc_new w (.cells #[.int .i64 y, .int .i64 m, .int .i64 d, .int .i64 hh, .int .i64 mi, .int .i64 s, .int .i64 n] 23))
  go_enter Tryd.func14, Tryd.ntmps14
  go_wp2_with fail
  go_quiet ((go_at_call 23; exact Calls.quiet_of_same ((rmd_any y m _ (by omega) (by omega)).mono (by rintro e w' ⟨rfl, rfl⟩; rw [HM.out]; exact ⟨rfl, rfl⟩))))
  go_wp2
  all_goals (go_ret; exact ⟨rfl, ⟨_, rfl⟩⟩)

set_option maxRecDepth 100000 in
theorem rcchk_11 (y m d hh mi s n : Int) (w : World)  (a1 : ¬ (y < 1600)) (a2 : ¬ (2200 < y)) (a3 : ¬ (m < 1)) (a4 : ¬ (12 < m)) (a5 : ¬ (d < 1)) (a6 : ¬ (md y m < d)) (a7 : ¬ (hh < 0)) (a8 : ¬ (23 < hh)) (a9 : ¬ (mi < 0)) (a10 : ¬ (59 < mi)) (a11 : ¬ (s < 0)) (a12 : 59 < s) :
    Calls Tryd.prog 14 #[.agg #[.int .i64 y, .int .i64 m, .int .i64 d, .int .i64 hh, .int .i64 mi, .int .i64 s, .int .i64 n]] w fun e w' => e = .returned (.int .i64 (chkC y m d hh mi s n)) ∧ ∃ k, w' = (w.alloc (.cells #[.int .i64 y, .int .i64 m, .int .i64 d, .int .i64 hh, .int .i64 mi, .int .i64 s, .int .i64 n] 23)).drewN k := by
  have HC := Lib.hid (chk_no (y := y) (m := m) (d := d) (hh := hh) (mi := mi) (s := s) (n := n) (by omega))
  obtain ⟨M, hM⟩ : ∃ M, md y m = M := ⟨_, rfl⟩
  rw [hM] at a6
  have HM := Lib.hid hM
  clear hM
  have d1 : decide (y < 1600) = false := decide_eq_false a1
  have d2 : decide (2200 < y) = false := decide_eq_false a2
  have d3 : decide (m < 1) = false := decide_eq_false a3
  have d4 : decide (12 < m) = false := decide_eq_false a4
  have d5 : decide (d < 1) = false := decide_eq_false a5
  have d6 : decide (M < d) = false := decide_eq_false a6
  have d7 : decide (hh < 0) = false := decide_eq_false a7
  have d8 : decide (23 < hh) = false := decide_eq_false a8
  have d9 : decide (mi < 0) = false := decide_eq_false a9
  have d10 : decide (59 < mi) = false := decide_eq_false a10
  have d11 : decide (s < 0) = false := decide_eq_false a11
  rw [HC.out]
  obtain ⟨c0, c1, c2, c3, c4, c5, c6⟩ := seven_cells (heap_alloc_new w (.cells #[.int .i64 y, .int .i64 m, .int .i64 d, .int .i64 hh, .int .i64 mi, .int .i64 s, .int .i64 n] 23))
  go_enter Tryd.func14, Tryd.ntmps14
  go_wp2_with fail
  go_quiet ((go_at_call 23; exact Calls.quiet_of_same ((rmd_any y m _ (by omega) (by omega)).mono (by rintro e w' ⟨rfl, rfl⟩; rw [HM.out]; exact ⟨rfl, rfl⟩))))
  go_wp2
  all_goals (go_ret; exact ⟨rfl, ⟨_, rfl⟩⟩)

set_option maxRecDepth 100000 in
theorem rcchk_12 (y m d hh mi s n : Int) (w : World)  (a1 : ¬ (y < 1600)) (a2 : ¬ (2200 < y)) (a3 : ¬ (m < 1)) (a4 : ¬ (12 < m)) (a5 : ¬ (d < 1)) (a6 : ¬ (md y m < d)) (a7 : ¬ (hh < 0)) (a8 : ¬ (23 < hh)) (a9 : ¬ (mi < 0)) (a10 : ¬ (59 < mi)) (a11 : ¬ (s < 0)) (a12 : ¬ (59 < s)) (a13 : n < 0) :
    Calls Tryd.prog 14 #[.agg #[.int .i64 y, .int .i64 m, .int .i64 d, .int .i64 hh, .int .i64 mi, .int .i64 s, .int .i64 n]] w fun e w' => e = .returned (.int .i64 (chkC y m d hh mi s n)) ∧ ∃ k, w' = (w.alloc (.cells #[.int .i64 y, .int .i64 m, .int .i64 d, .int .i64 hh, .int .i64 mi, .int .i64 s, .int .i64 n] 23)).drewN k := by
  have HC := Lib.hid (chk_no (y := y) (m := m) (d := d) (hh := hh) (mi := mi) (s := s) (n := n) (by omega))
  obtain ⟨M, hM⟩ : ∃ M, md y m = M := ⟨_, rfl⟩
  rw [hM] at a6
  have HM := Lib.hid hM
  clear hM
  have d1 : decide (y < 1600) = false := decide_eq_false a1
  have d2 : decide (2200 < y) = false := decide_eq_false a2
  have d3 : decide (m < 1) = false := decide_eq_false a3
  have d4 : decide (12 < m) = false := decide_eq_false a4
  have d5 : decide (d < 1) = false := decide_eq_false a5
  have d6 : decide (M < d) = false := decide_eq_false a6
  have d7 : decide (hh < 0) = false := decide_eq_false a7
  have d8 : decide (23 < hh) = false := decide_eq_false a8
  have d9 : decide (mi < 0) = false := decide_eq_false a9
  have d10 : decide (59 < mi) = false := decide_eq_false a10
  have d11 : decide (s < 0) = false := decide_eq_false a11
  have d12 : decide (59 < s) = false := decide_eq_false a12
  rw [HC.out]
  obtain ⟨c0, c1, c2, c3, c4, c5, c6⟩ := seven_cells (heap_alloc_new w (.cells #[.int .i64 y, .int .i64 m, .int .i64 d, .int .i64 hh, .int .i64 mi, .int .i64 s, .int .i64 n] 23))
  go_enter Tryd.func14, Tryd.ntmps14
  go_wp2_with fail
  go_quiet ((go_at_call 23; exact Calls.quiet_of_same ((rmd_any y m _ (by omega) (by omega)).mono (by rintro e w' ⟨rfl, rfl⟩; rw [HM.out]; exact ⟨rfl, rfl⟩))))
  go_wp2
  all_goals (go_ret; exact ⟨rfl, ⟨_, rfl⟩⟩)

set_option maxRecDepth 100000 in
theorem rcchk_13 (y m d hh mi s n : Int) (w : World)  (a1 : ¬ (y < 1600)) (a2 : ¬ (2200 < y)) (a3 : ¬ (m < 1)) (a4 : ¬ (12 < m)) (a5 : ¬ (d < 1)) (a6 : ¬ (md y m < d)) (a7 : ¬ (hh < 0)) (a8 : ¬ (23 < hh)) (a9 : ¬ (mi < 0)) (a10 : ¬ (59 < mi)) (a11 : ¬ (s < 0)) (a12 : ¬ (59 < s)) (a13 : ¬ (n < 0)) (a14 : 999999999 < n) :
    Calls Tryd.prog 14 #[.agg #[.int .i64 y, .int .i64 m, .int .i64 d, .int .i64 hh, .int .i64 mi, .int .i64 s, .int .i64 n]] w fun e w' => e = .returned (.int .i64 (chkC y m d hh mi s n)) ∧ ∃ k, w' = (w.alloc (.cells #[.int .i64 y, .int .i64 m, .int .i64 d, .int .i64 hh, .int .i64 mi, .int .i64 s, .int .i64 n] 23)).drewN k := by
  have HC := Lib.hid (chk_no (y := y) (m := m) (d := d) (hh := hh) (mi := mi) (s := s) (n := n) (by omega))
  obtain ⟨M, hM⟩ : ∃ M, md y m = M := ⟨_, rfl⟩
  rw [hM] at a6
  have HM := Lib.hid hM
  clear hM
  have d1 : decide (y < 1600) = false := decide_eq_false a1
  have d2 : decide (2200 < y) = false := decide_eq_false a2
  have d3 : decide (m < 1) = false := decide_eq_false a3
  have d4 : decide (12 < m) = false := decide_eq_false a4
  have d5 : decide (d < 1) = false := decide_eq_false a5
  have d6 : decide (M < d) = false := decide_eq_false a6
  have d7 : decide (hh < 0) = false := decide_eq_false a7
  have d8 : decide (23 < hh) = false := decide_eq_false a8
  have d9 : decide (mi < 0) = false := decide_eq_false a9
  have d10 : decide (59 < mi) = false := decide_eq_false a10
  have d11 : decide (s < 0) = false := decide_eq_false a11
  have d12 : decide (59 < s) = false := decide_eq_false a12
  have d13 : decide (n < 0) = false := decide_eq_false a13
  rw [HC.out]
  obtain ⟨c0, c1, c2, c3, c4, c5, c6⟩ := seven_cells (heap_alloc_new w (.cells #[.int .i64 y, .int .i64 m, .int .i64 d, .int .i64 hh, .int .i64 mi, .int .i64 s, .int .i64 n] 23))
  go_enter Tryd.func14, Tryd.ntmps14
  go_wp2_with fail
  go_quiet ((go_at_call 23; exact Calls.quiet_of_same ((rmd_any y m _ (by omega) (by omega)).mono (by rintro e w' ⟨rfl, rfl⟩; rw [HM.out]; exact ⟨rfl, rfl⟩))))
  go_wp2
  all_goals (go_ret; exact ⟨rfl, ⟨_, rfl⟩⟩)

set_option maxRecDepth 100000 in
theorem rcchk_14 (y m d hh mi s n : Int) (w : World)  (a1 : ¬ (y < 1600)) (a2 : ¬ (2200 < y)) (a3 : ¬ (m < 1)) (a4 : ¬ (12 < m)) (a5 : ¬ (d < 1)) (a6 : ¬ (md y m < d)) (a7 : ¬ (hh < 0)) (a8 : ¬ (23 < hh)) (a9 : ¬ (mi < 0)) (a10 : ¬ (59 < mi)) (a11 : ¬ (s < 0)) (a12 : ¬ (59 < s)) (a13 : ¬ (n < 0)) (a14 : ¬ (999999999 < n)) :
    Calls Tryd.prog 14 #[.agg #[.int .i64 y, .int .i64 m, .int .i64 d, .int .i64 hh, .int .i64 mi, .int .i64 s, .int .i64 n]] w fun e w' => e = .returned (.int .i64 (chkC y m d hh mi s n)) ∧ ∃ k, w' = (w.alloc (.cells #[.int .i64 y, .int .i64 m, .int .i64 d, .int .i64 hh, .int .i64 mi, .int .i64 s, .int .i64 n] 23)).drewN k := by
  have HC := Lib.hid (chk_ok (y := y) (m := m) (d := d) (hh := hh) (mi := mi) (s := s) (n := n) (okC_iff.2 (by omega)))
  obtain ⟨M, hM⟩ : ∃ M, md y m = M := ⟨_, rfl⟩
  rw [hM] at a6
  have HM := Lib.hid hM
  clear hM
  have d1 : decide (y < 1600) = false := decide_eq_false a1
  have d2 : decide (2200 < y) = false := decide_eq_false a2
  have d3 : decide (m < 1) = false := decide_eq_false a3
  have d4 : decide (12 < m) = false := decide_eq_false a4
  have d5 : decide (d < 1) = false := decide_eq_false a5
  have d6 : decide (M < d) = false := decide_eq_false a6
  have d7 : decide (hh < 0) = false := decide_eq_false a7
  have d8 : decide (23 < hh) = false := decide_eq_false a8
  have d9 : decide (mi < 0) = false := decide_eq_false a9
  have d10 : decide (59 < mi) = false := decide_eq_false a10
  have d11 : decide (s < 0) = false := decide_eq_false a11
  have d12 : decide (59 < s) = false := decide_eq_false a12
  have d13 : decide (n < 0) = false := decide_eq_false a13
  have d14 : decide (999999999 < n) = false := decide_eq_false a14
  rw [HC.out]
  obtain ⟨c0, c1, c2, c3, c4, c5, c6⟩ := seven_cells (heap_alloc_new w (.cells #[.int .i64 y, .int .i64 m, .int .i64 d, .int .i64 hh, .int .i64 mi, .int .i64 s, .int .i64 n] 23))
  go_enter Tryd.func14, Tryd.ntmps14
  go_wp2_with fail
  go_quiet ((go_at_call 23; exact Calls.quiet_of_same ((rmd_any y m _ (by omega) (by omega)).mono (by rintro e w' ⟨rfl, rfl⟩; rw [HM.out]; exact ⟨rfl, rfl⟩))))
  go_wp2
  all_goals (go_ret; exact ⟨rfl, ⟨_, rfl⟩⟩)

theorem rcchk_any (y m d hh mi s n : Int) (w : World) (y1 : y ≤ 9223372036854775807) :
    Calls Tryd.prog 14 #[.agg #[.int .i64 y, .int .i64 m, .int .i64 d, .int .i64 hh, .int .i64 mi, .int .i64 s, .int .i64 n]] w fun e w' => e = .returned (.int .i64 (chkC y m d hh mi s n)) ∧ ∃ k, w' = (w.alloc (.cells #[.int .i64 y, .int .i64 m, .int .i64 d, .int .i64 hh, .int .i64 mi, .int .i64 s, .int .i64 n] 23)).drewN k := by
  by_cases a1 : y < 1600
  · exact rcchk_0 y m d hh mi s n w a1
  by_cases a2 : 2200 < y
  · exact rcchk_1 y m d hh mi s n w y1 a1 a2
  by_cases a3 : m < 1
  · exact rcchk_2 y m d hh mi s n w a1 a2 a3
  by_cases a4 : 12 < m
  · exact rcchk_3 y m d hh mi s n w a1 a2 a3 a4
  by_cases a5 : d < 1
  · exact rcchk_4 y m d hh mi s n w a1 a2 a3 a4 a5
  by_cases a6 : md y m < d
  · exact rcchk_5 y m d hh mi s n w a1 a2 a3 a4 a5 a6
  by_cases a7 : hh < 0
  · exact rcchk_6 y m d hh mi s n w a1 a2 a3 a4 a5 a6 a7
  by_cases a8 : 23 < hh
  · exact rcchk_7 y m d hh mi s n w a1 a2 a3 a4 a5 a6 a7 a8
  by_cases a9 : mi < 0
  · exact rcchk_8 y m d hh mi s n w a1 a2 a3 a4 a5 a6 a7 a8 a9
  by_cases a10 : 59 < mi
  · exact rcchk_9 y m d hh mi s n w a1 a2 a3 a4 a5 a6 a7 a8 a9 a10
  by_cases a11 : s < 0
  · exact rcchk_10 y m d hh mi s n w a1 a2 a3 a4 a5 a6 a7 a8 a9 a10 a11
  by_cases a12 : 59 < s
  · exact rcchk_11 y m d hh mi s n w a1 a2 a3 a4 a5 a6 a7 a8 a9 a10 a11 a12
  by_cases a13 : n < 0
  · exact rcchk_12 y m d hh mi s n w a1 a2 a3 a4 a5 a6 a7 a8 a9 a10 a11 a12 a13
  by_cases a14 : 999999999 < n
  · exact rcchk_13 y m d hh mi s n w a1 a2 a3 a4 a5 a6 a7 a8 a9 a10 a11 a12 a13 a14
  exact rcchk_14 y m d hh mi s n w a1 a2 a3 a4 a5 a6 a7 a8 a9 a10 a11 a12 a13 a14
end Go.Proofs.YtnhaflnlhcabpaaDoor
