/- The chapter's examples of layer 2. -/
import Derived.Test.YtkcllhcinbcgiabWirI
namespace Go.Proofs.Ytkcllhcinbcgiab
open Go.RowKit Wi

theorem bblk_new (w : World) (l : List Int) : BBlk (w.alloc (.cells (l.map (Value.int .u8)).toArray 5)) w.heap.size l := heap_alloc_new w _
theorem reads_new (w : World) (l : List Int) (hb : Bytes l) : BReads (w.alloc (.cells (l.map (Value.int .u8)).toArray 5)) (w.heap.size + 1) (some ⟨w.heap.size, 0, none⟩) l.length l :=
  (bblk_new w l).reads hb (by omega)
theorem bytes_lit {l : List Int} (h : (l.all fun x => decide (0 ≤ x) && decide (x ≤ 255)) = true) : Bytes l := by
  intro x hx
  have := List.all_eq_true.1 h x hx
  simpa using this

theorem blw_drewN {B : Nat} {a w : World} (h : Below B a w) (n : Nat) : Below B a (w.drewN n) := ⟨h.os, h.tape, h.output, h.size, h.block⟩

set_option maxRecDepth 100000 in
theorem awake2_any (w : World) :
    Calls Try.prog 6 #[] w fun e w' => e = .returned (.bool true) ∧ Below w.heap.size w w' := by
  go_enter Try.func6, Try.ntmps6
  go_wp2_with fail
  have b1 : Bytes [7] := bytes_lit (by decide)
  refine (append_ok _ 1 1 [7] 258 2 _ (by have := reads_new w [7] b1; simpa using this) (by decide) (by decide) (by decide) (by decide)).mono ?_
  rintro e w1 ⟨rfl, hb1, hw1⟩
  have hW1 : Below w.heap.size w w1 := ((Below.refl _ _).alloc (Nat.le_refl _) _).trans (hw1.mono (by simp))
  have hB1 := Lib.hid (show BBlk w1 (w.heap.size + 1) [7, 1, 2] by simpa [beB, byteAt] using hb1)
  clear hb1 hw1 b1
  have b2 : Bytes [7, 1, 2] := bytes_lit (by decide)
  have b3 : Bytes [255, 254, 5] := bytes_lit (by decide)
  go_wp2_with fail
  refine (get_any _ 3 3 [7, 1, 2] 1 2 _ (w1.heap.size + 1) (by have := reads_new w1 [7, 1, 2] b2; simpa using this) (by decide) (by decide) (by decide)).mono ?_
  rintro e w' ⟨rfl, rfl⟩
  rw [show getV [7, 1, 2] 1 2 = 258 from by decide, show getE 3 1 2 = 0 from by decide]
  go_wp2_with fail
  refine (pnew_any _ 3 3 [255, 254, 5] _ (by have := reads_new (w1.alloc (.cells #[.int .u8 7, .int .u8 1, .int .u8 2] 5)) [255, 254, 5] b3; simpa using this) (by decide)).mono ?_
  rintro e w2 ⟨g, rfl, hgB, hP, hw2⟩
  have hW2 : Below w.heap.size w w2 := ((hW1.alloc hW1.size _).alloc (Nat.le_trans hW1.size (by simp)) _).trans (hw2.mono (by have := hW1.size; simp; omega))
  have hs12 : w1.heap.size < g := by simp at hgB; omega
  have hB2 := Lib.hid (show BBlk w2 (w.heap.size + 1) [7, 1, 2] by
    have h1 := hB1.out.lt
    exact (hw2.block _ (by simp; omega)).trans ((Below.heap_alloc _ _ _ (by simp; omega)).trans ((Below.heap_alloc _ _ _ h1).trans hB1.out)))
  have HP := Lib.hid hP
  clear hw2 hP hB1 hgB
  go_wp2_with fail
  refine (pint_any g [255, 254, 5] 0 2 _ HP.out).mono ?_
  rintro e w3 ⟨rfl, hP, hg⟩
  rw [show intV [255, 254, 5] 0 2 = -2 from by decide]
  rw [show numL [255, 254, 5] 0 2 = [5] from by decide, show numE [255, 254, 5] 0 2 = 0 from by decide] at hP
  have HP2 := Lib.hid hP
  have hgw : w.heap.size ≤ g := by have := hW1.size; omega
  have hW3 : Below w.heap.size w w3 := hW2.grown hg hW2.size (fun k hk => by injection hk with hk; omega)
  have hne : (some (w.heap.size + 1) : Option Nat) ≠ some g := fun h => by
    injection h with h
    have h1 := HP.out
    obtain ⟨_, _, _, hh, _⟩ := h1
    have h2 := hB2.out
    unfold BBlk at h2
    rw [h, hh] at h2
    injection h2 with h2
    injection h2 with h3 h4
    simp at h4
  have hB3 := Lib.hid (show BBlk w3 (w.heap.size + 1) [7, 1, 2] from (hg.block _ hB2.out.lt hne).trans hB2.out)
  clear hP hg HP hB2 hW1 hW2
  go_wp2_with fail
  refine (pleft_any g [5] 0 _ HP2.out).mono ?_
  rintro e w' ⟨rfl, rfl⟩
  go_wp2_with fail
  refine (puint_any g [5] 0 2 _ HP2.out).mono ?_
  rintro e w4 ⟨rfl, hP, hg⟩
  rw [show numV [5] 0 2 = 0 from by decide]
  rw [show numL [5] 0 2 = [5] from by decide, show numE [5] 0 2 = 5 from by decide] at hP
  have HP3 := Lib.hid hP
  have hW4 : Below w.heap.size w w4 := hW3.grown hg hW3.size (fun k hk => by injection hk with hk; omega)
  have hB4 := Lib.hid (show BBlk w4 (w.heap.size + 1) [7, 1, 2] from (hg.block _ hB3.out.lt hne).trans hB3.out)
  clear hP hg hW3 hB3 HP2
  go_wp2_with fail
  refine (append_no none 0 0 16777216 3 _ (by decide)).mono ?_
  rintro e w' ⟨rfl, rfl⟩
  rw [show appE 16777216 3 = 3 from by decide]
  go_wp2_with fail
  refine (equal_any _ _ 3 3 3 3 [7, 1, 2] [7, 1, 2] _ (w4.heap.size + 1) ?_ ?_ (by decide) (by decide)).mono ?_
  · have h := (hB4.out.reads b2 hB4.out.lt).alloc (Nat.le_refl _) (.cells #[.int .u8 7, .int .u8 1, .int .u8 2] 5)
    exact h.more (by omega)
  · have := reads_new w4 [7, 1, 2] b2
    simpa using this
  rintro e w' ⟨rfl, q, rfl⟩
  rw [decide_eq_true rfl]
  have HP4 : Hid (PRd ((w4.alloc (.cells #[.int .u8 7, .int .u8 1, .int .u8 2] 5)).drewN q) g [5] 5) := Lib.hid (HP3.out.below (blw_drewN ((Below.refl _ _).alloc (Nat.le_refl _) _) q))
  go_wp2_with fail
  refine (perr_any g [5] 5 _ HP4.out).mono ?_
  rintro e w' ⟨rfl, rfl⟩
  go_wp2_with fail
  go_ret
  exact ⟨rfl, blw_drewN (hW4.alloc hW4.size _) q⟩
end Go.Proofs.Ytkcllhcinbcgiab
