/- Contracts of layer 2: the program's reader: Skip, Bytes, NewReader. -/
import Derived.Test.YtiecbpecpoojkaaWirH
namespace Go.Proofs.Ytiecbpecpoojkaa
open Go.RowKit Wi

theorem grownBy_below {w w1 w2 : World} {g : Nat} (h : w.grownBy w1 (some g)) (hb : Below w1.heap.size w1 w2) : w.grownBy w2 (some g) :=
  ⟨hb.os.trans h.os, hb.tape.trans h.tape, hb.output.trans h.output, Nat.le_trans h.size hb.size, fun k hk hne => (hb.block k (Nat.lt_of_lt_of_le hk h.size)).trans (h.block k hk hne)⟩
theorem PRd.below {w w' : World} {g : Nat} {l : List Int} {err : Int} (h : PRd w g l err) (hb : Below w.heap.size w w') : PRd w' g l err := by
  obtain ⟨A, n, c, hh, hr, hnc, hcm, hA0⟩ := h
  have hg := (two_cells hh).2.2.2.2
  exact ⟨A, n, c, (hb.block g hg).trans hh, hr.keep fun p hp => hb.cell (by omega), hnc, hcm, hA0⟩

set_option maxRecDepth 100000 in
theorem pnew_any (A : Option Addr) (n c : Nat) (l : List Int) (w : World) (hr : BReads w w.heap.size A n l) (hm : n ≤ 140737488351232) :
    Calls Try.prog 18 #[.slice A n c] w fun e w' =>
      ∃ g, e = .returned (.pointer (some ⟨g, 0, none⟩)) ∧ w.heap.size ≤ g ∧ PRd w' g l 0 ∧ Below w.heap.size w w' := by
  obtain ⟨i0, hi0, hz0, hz1, hz2⟩ := info_parts info_u8
  have S1 := Lib.hid (show (l.map (Value.int .u8)).length = Nat.min n n by rw [List.length_map, hr.1]; exact (Nat.min_self n).symm)
  have S3 := Lib.hid (show 0 + (l.map (Value.int .u8)).length ≤ ((List.replicate n 0).map (Value.int .u8)).length by simp [hr.1])
  have HR := Lib.hid hr
  clear hr
  go_enter Try.func18, Try.ntmps18
  go_wp2_with (first
    | (at_make; refine wpList_make_full _ rfl (.tmp 5) (.tmp 5) 22 rfl w.heap.size 5 i0 (.int .u8 0) 1 Try.underlying22 hi0 hz0 hz1 .i64 .i64 _ _ n rfl rfl rfl rfl (by rw [hz2]; omega) (by unfold maxLen; omega) (Nat.le_refl _) ?_; intro w2 hown1 hgr1; have hb1 := Lib.hid (bblk_made hown1); have hw1 : Below w.heap.size w w2 := (Below.refl _ _).grown hgr1 (Nat.le_refl _) (by simp); have s2 := Lib.hid (copy_src (HR.out.below hw1) w.heap.size 0); clear hown1 hgr1)
    | (refine wpList_copy_splice (o := ⟨some 9, _, _, _, _, _⟩) rfl (.tmp 7) (.tmp 8) 22 22 rfl 5 Try.underlying22 size_u8 (some ⟨w.heap.size, 0, none⟩) A n n n c rfl rfl w.heap.size 0 ((List.replicate n 0).map (Value.int .u8)) 5 hb1.out (l.map (Value.int .u8)) S1.out s2.out S3.out (oneCell_u8 l) w.heap.size w hw1 (Nat.le_refl _) ?_; intro w3 hb2 hw2; have hb3 := bblk_copied (s := 0) HR.out.1 hb2; clear hb1 hw1 s2 hb2))
  rw [List.replicate_zero, List.append_nil] at hb3
  have HB := Lib.hid hb3
  clear hb3
  go_ret
  have hB := HB.out
  have hlt := hB.lt
  have hby := HR.out.2.1
  refine ⟨_, rfl, by omega, ⟨some ⟨w.heap.size, 0, none⟩, n, n, heap_alloc_new w3 _, ?_, Nat.le_refl _, by omega, fun e => by cases e⟩, hw2.alloc hw2.size _⟩
  have := hB.reads hby hlt
  rw [HR.out.1] at this
  exact this.alloc (Nat.le_refl _) _
end Go.Proofs.Ytiecbpecpoojkaa
