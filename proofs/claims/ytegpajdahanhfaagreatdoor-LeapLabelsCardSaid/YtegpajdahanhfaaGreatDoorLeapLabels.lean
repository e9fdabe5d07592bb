/-
  The TAI second of a label, and the label of a TAI second, or the errors, are the specified ones, for tables of at most 70 entries; and the chapter's examples hold.
  The listed variables are tied to the program's text by the given card. The frame round the walk is after the guide's worked examples and its program proof-skeleton.mjs.
-/
import Derived.Test.YtegpajdahanhfaaGreatDoorRows
import Derived.Test.YtegpajdahanhfaaGreatDoorCards
import Derived.Test.YtegpajdahanhfaaGreatDoorTie
import Derived.Test.YtegpajdahanhfaaGreatDoorLexL
import Derived.Test.YtegpajdahanhfaaGreatDoorLevE
import Derived.WalkKit
import Derived.ProofKit
import Derived.OpenShut
import Derived.ShutString
import Derived.ChangeOld
import Derived.Below
import Derived.LaidMore
import Derived.Lay
import Derived.MakeChecks
import Derived.Stop.Joined
import Derived.SevenTiedAt
import Derived.Lib.SmallJoins
namespace Go.Proofs.YtegpajdahanhfaaGreatDoor.leapLabels
open Go.ChangeShapes Go.WideShapes Go.ChangeAt Go.RowKit
open Go.ChangeMaps (open_string shut_string)
set_option linter.unusedVariables false

theorem own : ownKnob Tryz.prog.godebug = none := by kernel_rfl
theorem laidOut : laidOutB Tryz.prog = true := by kernel_rfl

/-- A slice of bytes that came in. -/
def IsRow (k : IntKind) (w : World) (a : Option Addr) (len cap : Nat) (zs : List Int) : Prop :=
  (a = none ∧ len = 0 ∧ cap = 0 ∧ zs = []) ∨ ∃ x, a = some x ∧ len ≤ cap ∧ cap ≤ maxLen ∧ zs.length = cap ∧ (∀ i, i < zs.length → w.cell? (x.add i) = some (.int k (zs.getD i 0))) ∧ ∀ n ∈ zs, (Lit.int k n).wf = true

/-! ### The walk, out of the contracts -/
theorem walk (W : World) (f0_0 : Int) (f0_1 : Int) (a0 : Option Addr) (len0 cap0 : Nat) (z0 : Nat → Int × Int) (w0 : (Lit.int .i64 f0_0).wf = true ∧ (Lit.int .i64 f0_1).wf = true ∧ Lp.ERow W a0 len0 cap0 z0) (f1_0 : Int) (f1_1 : Bool) (f1_2 : Int) (w1 : (Lit.int .i64 f1_0).wf = true ∧ (Lit.int .i64 f1_2).wf = true) (tab : laidMetH Tryz.prog Rows.leapLabelsRow.laid W) :
    Calls Tryz.prog 4 #[.agg #[.int .i64 f0_0, .int .i64 f0_1, .slice a0 len0 cap0], .agg #[.int .i64 f1_0, .bool f1_1, .int .i64 f1_2]] W fun e w' => e = .returned (.bool true) ∧ Below W.heap.size W w' := by
  obtain ⟨mt, tb, er⟩ := laid_gives6 tab; exact labels_law f0_0 f0_1 a0 len0 cap0 z0 f1_0 f1_1 f1_2 W mt tb er (erow_reads w0.2.2) (bounds_i64 w1.1).1 (bounds_i64 w1.1).2 (bounds_i64 w1.2).1 (bounds_i64 w1.2).2

/-! ### The row's step -/
set_option maxRecDepth 100000 in
theorem lifted (os : Os) (started : os.Started) (H : Type) (enc : TypeId × Value → H) :
    ReturnsInHanded {} Tryz.checked os 4 .any (fun w args => (Rows.leapLabelsSpec.pre enc Tryz.prog Tryz.f4 [] false w args ∧ laidMetH Tryz.prog Rows.leapLabelsRow.laid w) ∧ sizedMet enc Tryz.prog Tryz.f4 (OpenSpec.ofChange Rows.leapLabelsSpec) false w args)
      (Rows.leapLabelsSpec.post enc Tryz.prog Tryz.f4 false true false false) := by
  refine returnsInHanded_of_change_and (C := Tryz.checked) (X := fun w _ => laidMetH Tryz.prog Rows.leapLabelsRow.laid w) (fun _ _ _ hh h => h.of_heap hh) own started (by kernel_rfl) Tryz.func4
    (ChangeSpec.witness_shaped (enc := enc) (C := Tryz.checked) (os := os) (X := fun w _ => laidMetH Tryz.prog Rows.leapLabelsRow.laid w) false (World.laidAll Tryz.prog os Rows.leapLabelsRow.laid) #[.agg #[.int .i64 0, .int .i64 0, .slice none 0 0], .agg #[.int .i64 0, .bool false, .int .i64 0]] 8 (World.laidAll_os _ _ _)
      (World.shaped_of_ZipB (by kernel_rfl) (by kernel_rfl)) (by kernel_rfl) (by kernel_rfl) (by kernel_rfl)
      (by rw [MakeChecks.laidMetH_plain _ _ _ (by kernel_rfl)]; exact laidMet_laidAll _ (by kernel_rfl) (by kernel_rfl))) ?_
  intro W base args ds gs before hval0 hW _ _ hL _
  have hval : ∀ (j : Nat) t v, Tryz.f4.params[j]? = some t → args[j]? = some v → Value.okWide Tryz.prog W .any base t v := hval0
  have hW' := hW
  obtain ⟨p, q, hA0, hV, rfl, hfz, hnd⟩ := hW
  have hA : DataW.TrodAll enc Tryz.prog W 0 (fun _ => true) true Tryz.f4.params.toList args.toList ds p := hA0
  rw [Tryz.params4] at hA hval
  obtain ⟨v0, vs0, d0, ds0, p0, q0, hargs, rfl, rfl, h0, r0⟩ := trodAll_cons hA
  obtain ⟨v1, vs1, d1, ds1, p1, q1, rfl, rfl, rfl, h1, r1⟩ := trodAll_cons r0
  obtain ⟨rfl, rfl, rfl⟩ := trodAll_nil r1
  obtain rfl : args = #[v0, v1] := by cases args; simp_all
  obtain ⟨rfl, rfl⟩ := trodVars_none hV
  have k0 := h0
  have lt0 : ∀ x ∈ p0, x.block < W.heap.size := by obtain ⟨m, hm⟩ := k0; exact DataW.trod_lt m _ _ _ hm
  have k1 := h1
  have lt1 : ∀ x ∈ p1, x.block < W.heap.size := by obtain ⟨m, hm⟩ := k1; exact DataW.trod_lt m _ _ _ hm
  obtain ⟨c0, c1, c2, y0, y1, y2, m, rfl, rfl, rfl, hy0, hy1, hy2⟩ := Joins.open_agg3 Tryz.underlying24 (by kernel_rfl) (show Tryz.prog.cellsOf 24 = 3 by kernel_rfl) (hval 0 24 v0 rfl rfl) h0
  obtain ⟨f0_0, e0, rfl, wf0⟩ := DataW.trod_int Tryz.underlying3 hy0
  injection e0 with e0
  subst e0
  obtain ⟨f0_1, e1, rfl, wf1⟩ := DataW.trod_int Tryz.underlying3 hy1
  injection e1 with e1
  subst e1
  obtain ⟨a0, len0, cap0, z0, e2, er0⟩ := open_entries hy2
  subst e2
  have w0 := And.intro wf0 (And.intro wf1 (er0))
  obtain ⟨c0, c1, c2, y0, y1, y2, m, rfl, rfl, rfl, hy0, hy1, hy2⟩ := Joins.open_agg3 Tryz.underlying30 (by kernel_rfl) (show Tryz.prog.cellsOf 30 = 3 by kernel_rfl) (hval 1 30 v1 rfl rfl) h1
  obtain ⟨f1_0, e0, rfl, wf0⟩ := DataW.trod_int Tryz.underlying3 hy0
  injection e0 with e0
  subst e0
  obtain ⟨f1_1, e1, rfl⟩ := DataW.trod_bool Tryz.underlying4 hy1
  injection e1 with e1
  subst e1
  obtain ⟨f1_2, e2, rfl, wf2⟩ := DataW.trod_int Tryz.underlying3 hy2
  injection e2 with e2
  subst e2
  have w1 := And.intro wf0 (wf2)
  clear hA0 hval0
  refine (walk W f0_0 f0_1 a0 len0 cap0 z0 w0 f1_0 f1_1 f1_2 w1 hL).mono fun e W' ⟨he, bel⟩ => ?_
  subst he
  exact ⟨_, rfl, _, _, _, [], _, [], hW', trodAll_mk1 (shut_bool Tryz.underlying4 _), (trodAll_cons_mk (Below.trod laidOut (by kernel_rfl) (of_decide_eq_true (by kernel_rfl)) k0 bel lt0) (trodAll_cons_mk (Below.trod laidOut (by kernel_rfl) (of_decide_eq_true (by kernel_rfl)) k1 bel lt1) trodAll_mk0)), rfl, bel.frame _, fun h => by cases h⟩

theorem over : Rows.leapLabelsRow.holds Tryz.pinned (OpenSpec.ofChange Rows.leapLabelsSpec) :=
  OpenClaim.holds_of_wide 4 Tryz.f4 rfl rfl rfl rfl rfl rfl rfl ⟨rfl, rfl, rfl, rfl, rfl⟩ rfl rfl rfl rfl rfl (by kernel_rfl) Tryz.func4 (by kernel_rfl)
    (of_decide_eq_true (by kernel_rfl)) (by unfold Func.isWrapper; first | (rw [if_pos (by decide +kernel)]; kernel_rfl) | (rw [if_neg (by decide +kernel)]; exact ⟨rfl, rfl⟩))
    (fun os started H enc _ => lifted os started H enc)

/-- The statement: the tied card. -/
theorem proved : Rows.LeapLabelsCardSaid :=
  Claim7.holds_tied_plain_at .later [] [.data, .data, .data, .data, .sentinel, .sentinel, .data, .pinned] true (true, "f420aec8abe4d0a15658098f01b0aa751e7320edada7199653515f4f77642042") true
    over (fun _ h => by cases h) (by kernel_rfl) (fun _ h => by cases h) leapLabels_row_tie rfl ⟨rfl, rfl⟩ (by kernel_rfl) rfl
    (fun f fn hf hfn => by
      obtain rfl : f = 4 := Option.some.inj ((show Tryz.prog.funcNamed "timesync/timesynclaw06.LeapLabels" = some 4 by kernel_rfl).symm.trans hf) |>.symm
      obtain rfl : fn = Tryz.f4 := (Option.some.inj (Tryz.func4.symm.trans hfn)).symm
      exact ⟨by kernel_rfl, fun j t ht => by
        rw [Tryz.params4] at ht
        have hm : t ∈ [24, 30] := by simpa using Array.mem_of_getElem? ht
        have hall : ([24, 30].all fun u => !Tryz.prog.wantsStandIn u) = true := by kernel_rfl
        exact (show Tryz.prog.wantsStandIn t = false by simpa using List.all_eq_true.1 hall t hm)⟩)
    (by kernel_rfl)
#print axioms proved
end Go.Proofs.YtegpajdahanhfaaGreatDoor.leapLabels
