/- Contracts of layer 8: the mixing of two numbers. -/
import Derived.Test.YtoofnodcdlaheaaDoorProg
import Derived.Test.YtoofnodcdlaheaaDoorPrgM
import Derived.WalkKit
import Derived.WalkSpells
import Derived.WalkLawsBesides
import Derived.Lib.Hide
import Derived.Below
import Derived.LoopTactic
import Derived.Laws.Rows
import Derived.Laws.BitsAll
import Derived.Outline
namespace Go.Proofs.YtoofnodcdlaheaaDoor
open Go.RowKit Pr

theorem ret1 {k : IntKind} {a b : Int} (h : a = b) : Ending.returned (.int k a) = .returned (.int k b) := by rw [h]

/-- What the table of the rounds holds. -/
def Pr.rtab : Array Value := #[.int .u64 30, .int .u64 13787848793156543929, .int .u64 27, .int .u64 10723151780598845931, .int .u64 31, .int .u64 1]
def Pr.RT (w : World) : Prop := w.var? Tryd.prog "timesync/prng.rounds" = some rtab
theorem Pr.var_keep {P : Program} {w w' : World} {n : String} {cs : Array Value} (hv : w.var? P n = some cs) (hb : Below w.heap.size w w') : w'.var? P n = some cs := by
  unfold World.var? at hv ⊢
  rcases hg : P.globalNamed n with _ | g
  · rw [hg] at hv; cases hv
  · rw [hg] at hv
    have hlt : g < w.heap.size := by
      rcases Nat.lt_or_ge g w.heap.size with h | h
      · exact h
      · simp only [Option.bind_some] at hv
        rw [Array.getElem?_eq_none h] at hv
        cases hv
    simp only [Option.bind_some] at hv ⊢
    rw [hb.block g hlt]
    exact hv
theorem Pr.RT.below {w w' : World} (h : RT w) (hb : Below w.heap.size w w') : RT w' := var_keep h hb
theorem Pr.RT.block {w : World} (h : RT w) : ∃ t fr, w.heap[0]? = some (.cells rtab t fr) := by
  unfold RT World.var? at h
  rw [show Tryd.prog.globalNamed "timesync/prng.rounds" = some 0 from by kernel_rfl] at h
  simp only [Option.bind_some] at h
  split at h
  · rename_i cs t fr hc
    exact ⟨t, fr, by rw [hc, Option.some.inj h]⟩
  · cases h

theorem rmix_any (a b : Int) (w : World) :
    Calls Tryd.prog 12 #[.int .u64 a, .int .u64 b] w fun e w' => e = .returned (.int .u64 (mix a b)) ∧ w = w' := by
  go_enter Tryd.func12, Tryd.ntmps12
  go_wp2
  go_ret
  exact ⟨ret1 (mix_w a b), rfl⟩

set_option maxRecDepth 100000 in
theorem pmix_any (a b : Int) (w : World) (ht : RT w) :
    Calls Tryd.prog 11 #[.int .u64 a, .int .u64 b] w fun e w' => e = .returned (.int .u64 (mix a b)) ∧ Below w.heap.size w w' := by
  obtain ⟨t, fr, hb⟩ := ht.block
  have x0 : ∀ w : World, (Instr.index 57 (.agg rtab) (.int .i64 0)).run Tryd.prog w = .ok (.agg #[.int .u64 30, .int .u64 13787848793156543929]) w := fun _ => by kernel_rfl
  have x1 : ∀ w : World, (Instr.index 57 (.agg rtab) (.int .i64 1)).run Tryd.prog w = .ok (.agg #[.int .u64 27, .int .u64 10723151780598845931]) w := fun _ => by kernel_rfl
  have x2 : ∀ w : World, (Instr.index 57 (.agg rtab) (.int .i64 2)).run Tryd.prog w = .ok (.agg #[.int .u64 31, .int .u64 1]) w := fun _ => by kernel_rfl
  have w0 := Lib.hid (ini_w a b)
  have w1 := Lib.hid (stp_w1 (xs0_lt a b))
  have w2 := Lib.hid (stp_w2 (xs1_lt a b))
  have w3 := Lib.hid (stp_w4 (xs2_lt a b))
  go_enter Tryd.func11, Tryd.ntmps11
  go_wp2_with (refine wpList_load_row rfl 57 _ rfl 0 rfl t rtab fr _ hb Tryd.underlying57 rfl (by kernel_rfl) ?_)
  rw [w0.out]
  go_loopw [5, 14] (fun v i wr => Below w.heap.size w wr ∧ ((v = .int .u64 (xs0 a b) ∧ i = .int .i64 0) ∨ (v = .int .u64 (xs1 a b) ∧ i = .int .i64 1) ∨ (v = .int .u64 (xs2 a b) ∧ i = .int .i64 2) ∨ (v = .int .u64 (xs3 a b) ∧ i = .int .i64 3))) (fun _ i _ => 3 - (intOf i).toNat)
  case atStart => exact ⟨Below.refl _ _, .inl ⟨rfl, rfl⟩⟩
  case round =>
    obtain ⟨hbe, hr⟩ := hrel
    have HB := Lib.hid hbe
    clear hbe
    rcases hr with ⟨rfl, rfl⟩ | ⟨rfl, rfl⟩ | ⟨rfl, rfl⟩ | ⟨rfl, rfl⟩
    · go_wp2
      rw [w1.out]
      go_roundw
      case rel => exact ⟨HB.out.alloc HB.out.size _, .inr (.inl ⟨rfl, rfl⟩)⟩
      case measure => decide
    · go_wp2
      rw [w2.out]
      go_roundw
      case rel => exact ⟨HB.out.alloc HB.out.size _, .inr (.inr (.inl ⟨rfl, rfl⟩))⟩
      case measure => decide
    · go_wp2
      rw [w3.out]
      go_roundw
      case rel => exact ⟨HB.out.alloc HB.out.size _, .inr (.inr (.inr ⟨rfl, rfl⟩))⟩
      case measure => decide
    · go_wp2
      go_ret
      exact ⟨rfl, HB.out⟩
end Go.Proofs.YtoofnodcdlaheaaDoor
