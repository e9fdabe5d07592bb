/- Contracts of the specification of layer 6: Check, up to the ranges. -/
import Derived.Test.YtghaboanakecjaaDoorLeaD
namespace Go.Proofs.YtghaboanakecjaaDoor
open Go.RowKit Fx Cv Lp

theorem rin_1000 (x : Int) (w : World) (v : Bool) (h : decide (-1000 ≤ x ∧ x ≤ 1000) = v) : Calls Tryd.prog 43 #[.int .i64 x, .int .i64 1000] w fun e w' => e = .returned (.bool v) ∧ w' = w := by
  subst h; exact rin_any x 1000 w (by decide) (by decide)
theorem rin_sec (x : Int) (w : World) (v : Bool) (h : decide (-8000000000 ≤ x ∧ x ≤ 8000000000) = v) : Calls Tryd.prog 43 #[.int .i64 x, .int .i64 8000000000] w fun e w' => e = .returned (.bool v) ∧ w' = w := by
  subst h; exact rin_any x 8000000000 w (by decide) (by decide)

theorem rchk_long (B E : Int) (a : Option Addr) (n c : Nat) (f : Nat → Int × Int) (w : World) (h : 64 < n) :
    Calls Tryd.prog 23 #[.agg #[.int .i64 B, .int .i64 E, .slice a n c]] w fun e w' => e = .returned (.int .i64 (chkL B E f n)) ∧ Below w.heap.size w w' := by
  have HC : Hid (chkL B E f n = 6) := Lib.hid (if_pos h)
  have hi : (64 : Int) < n := by omega
  rw [HC.out]
  clear h
  have BB0 := Lib.hid ((Below.refl w.heap.size w).alloc (Nat.le_refl _) (.cells #[.int .i64 B, .int .i64 E, .slice a n c] 24))
  have X0 := Lib.hid (tbx_new w B E a n c)
  obtain ⟨W0, hW0⟩ : ∃ W, w.alloc (.cells #[.int .i64 B, .int .i64 E, .slice a n c] 24) = W := ⟨_, rfl⟩
  rw [hW0] at BB0 X0
  obtain ⟨t0, t1, t2⟩ := X0.out.cells
  go_enter Tryd.func23, Tryd.ntmps23
  go_wp2_with fail
  go_ret
  exact ⟨rfl, BB0.out⟩

set_option maxRecDepth 100000 in
theorem rchk_head (B E : Int) (a : Option Addr) (n c : Nat) (f : Nat → Int × Int) (w : World) (hn : n ≤ 64) (h : ¬ ((-1000 ≤ B ∧ B ≤ 1000) ∧ (-8000000000 ≤ E ∧ E ≤ 8000000000))) :
    Calls Tryd.prog 23 #[.agg #[.int .i64 B, .int .i64 E, .slice a n c]] w fun e w' => e = .returned (.int .i64 (chkL B E f n)) ∧ Below w.heap.size w w' := by
  have HC : Hid (chkL B E f n = 3) := Lib.hid (by unfold chkL; rw [if_neg (by omega), if_neg (fun k => h ⟨k.1, k.2.1⟩)])
  have hi : ¬ (64 : Int) < n := by omega
  have hib : decide ((64 : Int) < n) = false := decide_eq_false hi
  rw [HC.out]
  have BB0 := Lib.hid ((Below.refl w.heap.size w).alloc (Nat.le_refl _) (.cells #[.int .i64 B, .int .i64 E, .slice a n c] 24))
  have X0 := Lib.hid (tbx_new w B E a n c)
  obtain ⟨W0, hW0⟩ : ∃ W, w.alloc (.cells #[.int .i64 B, .int .i64 E, .slice a n c] 24) = W := ⟨_, rfl⟩
  rw [hW0] at BB0 X0
  obtain ⟨t0, t1, t2⟩ := X0.out.cells
  by_cases h1 : -1000 ≤ B ∧ B ≤ 1000
  · have h2 := decide_eq_false (fun k => h ⟨h1, k⟩)
    have h1 := decide_eq_true h1
    have H1 := Lib.hid h1
    have H2 := Lib.hid h2
    clear h h1 h2
    go_enter Tryd.func23, Tryd.ntmps23
    go_wp2_with fail
    refine (rin_1000 B _ true H1.out).mono ?_
    rintro e w' ⟨rfl, hw'⟩; subst w'
    go_wp2_with fail
    refine (rin_sec E _ false H2.out).mono ?_
    rintro e w' ⟨rfl, hw'⟩; subst w'
    go_wp2_with fail
    go_ret
    exact ⟨rfl, BB0.out⟩
  · have H1 := Lib.hid (decide_eq_false h1)
    clear h h1
    go_enter Tryd.func23, Tryd.ntmps23
    go_wp2_with fail
    refine (rin_1000 B _ false H1.out).mono ?_
    rintro e w' ⟨rfl, hw'⟩; subst w'
    go_wp2_with fail
    go_ret
    exact ⟨rfl, BB0.out⟩
end Go.Proofs.YtghaboanakecjaaDoor
