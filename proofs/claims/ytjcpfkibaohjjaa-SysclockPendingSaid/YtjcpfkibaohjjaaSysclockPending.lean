/-
  What is still to be slewed keeps its sign and never grows, as readings go on, for at most 50 readings; and the chapter's examples hold. No condition.
  The frame round the walk is after the guide's worked examples and its program proof-skeleton.mjs.
-/
import Derived.Test.YtjcpfkibaohjjaaRows
import Derived.Test.YtjcpfkibaohjjaaClkW
import Derived.Test.YtjcpfkibaohjjaaAgg6
import Derived.WalkKit
import Derived.ProofKit
import Derived.OpenShut
import Derived.ShutString
import Derived.ChangeOld
import Derived.Below
import Derived.Lib.SmallJoins
namespace Go.Proofs.Ytjcpfkibaohjjaa.sysclockPending
open Go.ChangeShapes Go.WideShapes Go.ChangeAt Go.RowKit
set_option linter.unusedVariables false

theorem own : ownKnob Try.prog.godebug = none := by kernel_rfl
theorem laidOut : laidOutB Try.prog = true := by kernel_rfl

/-! ### The walk, out of the contracts -/
theorem walk (W : World) (f0_0 f0_1 f0_2 f0_3 f0_4 f0_5 : Int) (w0 : (Lit.int .i64 f0_0).wf = true ∧ (Lit.int .i64 f0_1).wf = true ∧ (Lit.int .i64 f0_2).wf = true ∧ (Lit.int .i64 f0_3).wf = true ∧ (Lit.int .i64 f0_4).wf = true ∧ (Lit.int .i64 f0_5).wf = true) (a1 : Option Addr) (len1 cap1 : Nat) (z1 : Nat → Int) (w1 : Ck.Rd1 W W.heap.size a1 len1 z1 ∧ len1 ≤ 9223372036854775807 ∧ ∀ i, i < len1 → (-9223372036854775808 ≤ z1 i ∧ z1 i ≤ 9223372036854775807)) :
    Calls Try.prog 8 #[.agg #[.int .i64 f0_0, .int .i64 f0_1, .int .i64 f0_2, .int .i64 f0_3, .int .i64 f0_4, .int .i64 f0_5], .slice a1 len1 cap1] W fun e w' => e = .returned (.bool true) ∧ Below W.heap.size W w' := by
  exact pnd_law ⟨f0_0, f0_1, f0_2, f0_3, f0_4, f0_5⟩ a1 len1 cap1 z1 W (bounds_i64 w0.2.2.2.2.2).2 w1.2.1 w1.1 w1.2.2

/-! ### The row's step -/
set_option maxRecDepth 100000 in
theorem lifted (os : Os) (started : os.Started) (H : Type) (enc : TypeId × Value → H) :
    ReturnsInHanded {} Try.checked os 8 .any (Rows.sysclockPendingSpec.pre6 enc Try.prog Try.f8 Rows.sysclockPendingRow.domain false) (Rows.sysclockPendingSpec.post enc Try.prog Try.f8 false true false false) := by
  refine returnsInHanded_of_change (C := Try.checked) own started (by kernel_rfl) Try.func8
    (ChangeSpec.witness6 (enc := enc) (C := Try.checked) false ⟨#[], #[.agg #[.int .i64 0, .int .i64 0, .int .i64 0, .int .i64 0, .int .i64 0, .int .i64 0], .slice none 0 0], []⟩ 8 (by kernel_rfl) (by kernel_rfl) (by kernel_rfl) (by kernel_rfl)) ?_
  intro W base args ds gs before hval0 hW hcnd _
  have hval : ∀ (j : Nat) t v, Try.f8.params[j]? = some t → args[j]? = some v → Value.okWide Try.prog W .any base t v := hval0
  have hW' := hW
  obtain ⟨p, q, hA0, hV, rfl, hfz, hnd⟩ := hW
  have hA : DataW.TrodAll enc Try.prog W 0 (fun _ => true) true Try.f8.params.toList args.toList ds p := hA0
  rw [Try.params8] at hA hval
  obtain ⟨v0, vs0, d0, ds0, p0, q0, hargs, rfl, rfl, h0, r0⟩ := trodAll_cons hA
  obtain ⟨v1, vs1, d1, ds1, p1, q1, rfl, rfl, rfl, h1, r1⟩ := trodAll_cons r0
  obtain ⟨rfl, rfl, rfl⟩ := trodAll_nil r1
  obtain rfl : args = #[v0, v1] := by cases args; simp_all
  obtain ⟨rfl, rfl⟩ := trodVars_none hV
  have k0 := h0
  have lt0 : ∀ x ∈ p0, x.block < W.heap.size := by obtain ⟨m, hm⟩ := k0; exact DataW.trod_lt m _ _ _ hm
  have k1 := h1
  have lt1 : ∀ x ∈ p1, x.block < W.heap.size := by obtain ⟨m, hm⟩ := k1; exact DataW.trod_lt m _ _ _ hm
  obtain ⟨c0, c1, c2, c3, c4, c5, y0, y1, y2, y3, y4, y5, m, rfl, rfl, rfl, hy0, hy1, hy2, hy3, hy4, hy5⟩ := openAgg6 Try.underlying23 (by kernel_rfl) (show Try.prog.cellsOf 23 = 6 by kernel_rfl) (hval 0 23 v0 rfl rfl) h0
  obtain ⟨f0_0, e0, rfl, wf0⟩ := DataW.trod_int Try.underlying3 hy0
  obtain ⟨f0_1, e1, rfl, wf1⟩ := DataW.trod_int Try.underlying3 hy1
  obtain ⟨f0_2, e2, rfl, wf2⟩ := DataW.trod_int Try.underlying3 hy2
  obtain ⟨f0_3, e3, rfl, wf3⟩ := DataW.trod_int Try.underlying3 hy3
  obtain ⟨f0_4, e4, rfl, wf4⟩ := DataW.trod_int Try.underlying3 hy4
  obtain ⟨f0_5, e5, rfl, wf5⟩ := DataW.trod_int Try.underlying3 hy5
  simp at e0 e1 e2 e3 e4 e5
  subst e0 e1 e2 e3 e4 e5
  have w0 := And.intro wf0 (And.intro wf1 (And.intro wf2 (And.intro wf3 (And.intro wf4 wf5))))
  obtain ⟨a1, len1, cap1, rfl⟩ := okWide_slice Try.underlying47 (hval 1 47 v1 rfl rfl)
  obtain ⟨z1, w1⟩ : ∃ z1 : Nat → Int, Ck.Rd1 W W.heap.size a1 len1 z1 ∧ len1 ≤ 9223372036854775807 ∧ ∀ i, i < len1 → (-9223372036854775808 ≤ z1 i ∧ z1 i ≤ 9223372036854775807) := by
    obtain ⟨fuel, hf⟩ := h1
    exact open_ints1 (by simpa [Value.cells] using hf)
  clear hA0 hval0
  refine (walk W f0_0 f0_1 f0_2 f0_3 f0_4 f0_5 w0 a1 len1 cap1 z1 w1).mono fun e W' ⟨he, bel⟩ => ?_
  subst he
  exact ⟨_, rfl, _, _, _, [], _, [], hW', trodAll_mk1 (shut_bool Try.underlying4 _), (trodAll_cons_mk (Below.trod laidOut (by kernel_rfl) (of_decide_eq_true (by kernel_rfl)) k0 bel lt0) (trodAll_cons_mk (Below.trod laidOut (by kernel_rfl) (of_decide_eq_true (by kernel_rfl)) k1 bel lt1) trodAll_mk0)), rfl, bel.frame _, fun h => by cases h⟩

theorem over : Rows.sysclockPendingRow.holds Try.pinned (OpenSpec.ofChange Rows.sysclockPendingSpec) :=
  OpenClaim.holds_of_wide 8 Try.f8 rfl rfl rfl rfl rfl rfl rfl ⟨rfl, rfl, rfl, rfl, rfl⟩ rfl rfl rfl rfl rfl (by kernel_rfl) Try.func8 (by kernel_rfl)
    (of_decide_eq_true (by kernel_rfl)) (by unfold Func.isWrapper; first | (rw [if_pos (by decide +kernel)]; kernel_rfl) | (rw [if_neg (by decide +kernel)]; exact ⟨rfl, rfl⟩))
    (fun os started H enc _ => lifted os started H enc)

/-- The statement. -/
theorem proved : Rows.SysclockPendingSaid := over
#print axioms proved
end Go.Proofs.Ytjcpfkibaohjjaa.sysclockPending
