/- The laws of layer 6: small; two tables that are alike. -/
import Derived.Test.YtegpajdahanhfaaGreatDoorLeaT
namespace Go.Proofs.YtegpajdahanhfaaGreatDoor
open Go.RowKit Go.Shelf Fx Cv Lp

theorem small6_any (B E : Int) (a : Option Addr) (n c : Nat) (w : World) :
    Calls Tryz.prog 10 #[.agg #[.int .i64 B, .int .i64 E, .slice a n c]] w fun e w' => e = .returned (.bool (decide (n ≤ 70))) ∧ Below w.heap.size w w' := by
  have BB0 := Lib.hid ((Below.refl w.heap.size w).alloc (Nat.le_refl _) (.cells #[.int .i64 B, .int .i64 E, .slice a n c] 24))
  have X0 := Lib.hid (tbx_new w B E a n c)
  obtain ⟨W0, hW0⟩ : ∃ W, w.alloc (.cells #[.int .i64 B, .int .i64 E, .slice a n c] 24) = W := ⟨_, rfl⟩
  rw [hW0] at BB0 X0
  obtain ⟨t0, t1, t2⟩ := X0.out.cells
  by_cases h : n ≤ 70
  · have hi : (n : Int) ≤ 70 := by omega
    have HD := Lib.hid (decide_eq_true h)
    clear h
    go_enter Tryz.func10, Tryz.ntmps10
    go_wp2_with fail
    go_ret
    rw [HD.out]
    exact ⟨rfl, BB0.out⟩
  · have hi : ¬ (n : Int) ≤ 70 := by omega
    have hib : decide ((n : Int) ≤ 70) = false := decide_eq_false hi
    have HD := Lib.hid (decide_eq_false h)
    clear h
    go_enter Tryz.func10, Tryz.ntmps10
    go_wp2_with fail
    go_ret
    rw [HD.out]
    exact ⟨rfl, BB0.out⟩

set_option maxRecDepth 100000 in
theorem same6_eq (B E : Int) (a a' : Option Addr) (n c c' : Nat) (f : Nat → Int × Int) (w : World) (hr : LRd w w.heap.size a n f) (hr' : LRd w w.heap.size a' n f) (hn : n ≤ 9000000000000000000) :
    Calls Tryz.prog 23 #[.agg #[.int .i64 B, .int .i64 E, .slice a n c], .agg #[.int .i64 B, .int .i64 E, .slice a' n c']] w fun e w' => e = .returned (.bool true) ∧ Below w.heap.size w w' := by
  obtain ⟨W0, hW0⟩ : ∃ W, w.alloc (.cells #[.int .i64 B, .int .i64 E, .slice a n c] 24) = W := ⟨_, rfl⟩
  have s0 : W0.heap.size = w.heap.size + 1 := by rw [← hW0]; simp
  have X0 := tbx_new w B E a n c
  rw [hW0] at X0
  obtain ⟨W1, hW1⟩ : ∃ W, W0.alloc (.cells #[.int .i64 B, .int .i64 E, .slice a' n c'] 24) = W := ⟨_, rfl⟩
  have X1 := tbx_new W0 B E a' n c'
  rw [hW1] at X1
  have X2 : TBx W1 w.heap.size B E a n c := by rw [← hW1]; exact X0.alloc _
  have BB : Below w.heap.size w W1 := by
    rw [← hW1, ← hW0]
    exact ((Below.refl w.heap.size w).alloc (Nat.le_refl _) _).alloc (by simp) _
  have HA := Lib.hid X2
  have HA' := Lib.hid X1
  have HB := Lib.hid BB
  have HR := Lib.hid (hr.below BB)
  have HR' := Lib.hid (hr'.below BB)
  obtain ⟨t0, t1, t2⟩ := X2.cells
  obtain ⟨u0, u1, u2⟩ := X1.cells
  clear hr hr' X0 X1 X2 BB s0
  go_enter Tryz.func23, Tryz.ntmps23
  go_wp2_with fail
  clear hW0 hW1 t0 t1 u0 u1
  go_loopw [5] (fun iv wr => ∃ k : Nat, k ≤ n ∧ iv = .int .i64 k ∧ ∃ j, wr = W1.drewN j) (fun iv _ => n - (intOf iv).toNat)
  case atStart => exact ⟨0, by omega, rfl, 0, rfl⟩
  case round =>
    obtain ⟨k, hk, rfl, j, hj⟩ := hrel
    have HBr : Hid (Below w.heap.size w wr) := Lib.hid (by rw [hj]; exact below_drewN HB.out j)
    have v2 : wr.cell? ⟨w.heap.size, 2, none⟩ = some (.slice a n c) := by rw [hj]; exact t2
    have y2 : wr.cell? ⟨W0.heap.size, 2, none⟩ = some (.slice a' n c') := by rw [hj]; exact u2
    have HJ := Lib.hid hj
    by_cases hlt : k < n
    · obtain ⟨b, off, rfl, hbl, hcell⟩ := HR.out (by omega)
      obtain ⟨b', off', rfl, hbl', hcell'⟩ := HR'.out (by omega)
      obtain ⟨e0, e1⟩ := hcell k hlt
      obtain ⟨g0, g1⟩ := hcell' k hlt
      have e0 : wr.cell? ⟨b, off + k * 2, none⟩ = some (.int .i64 (f k).1) := by rw [hj]; exact e0
      have e1 : wr.cell? ⟨b, off + k * 2 + 1, none⟩ = some (.int .i64 (f k).2) := by rw [hj]; exact e1
      have g0 : wr.cell? ⟨b', off' + k * 2, none⟩ = some (.int .i64 (f k).1) := by rw [hj]; exact g0
      have g1 : wr.cell? ⟨b', off' + k * 2 + 1, none⟩ = some (.int .i64 (f k).2) := by rw [hj]; exact g1
      have hki : (k : Int) < n := by omega
      have hk0 : (0 : Int) ≤ k := by omega
      obtain ⟨p, hp⟩ : ∃ p, (f k).1 = p := ⟨_, rfl⟩
      obtain ⟨q, hq⟩ : ∃ q, (f k).2 = q := ⟨_, rfl⟩
      rw [hp] at e0 g0
      rw [hq] at e1 g1
      have hw : IntKind.i64.wrap ((k : Int) + 1) = ((k + 1 : Nat) : Int) := by rw [IntKind.wrap_i64]; omega
      clear hp hq hcell hcell' hj t2 u2
      go_wp2_with fail
      go_quiet (fail)
      go_wp2_with fail
      go_roundw
      case rel => exact ⟨k + 1, by omega, by go_num, j + nq, by rw [HJ.out, World.drewN_drewN]⟩
      case measure => simp [intOf]; omega
    · obtain rfl : k = n := by omega
      have hki : ¬ (k : Int) < k := by omega
      have hkb : decide ((k : Int) < k) = false := decide_eq_false hki
      clear hj t2 u2
      go_wp2_with fail
      go_ret
      exact ⟨rfl, HBr.out⟩
end Go.Proofs.YtegpajdahanhfaaGreatDoor
