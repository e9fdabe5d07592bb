/- Contracts of layer 2: the program's reader: Skip, Bytes, NewReader. -/
import Derived.Test.YtkcllhcinbcgiabWirH
namespace Go.Proofs.Ytkcllhcinbcgiab
open Go.RowKit Wi

theorem pskip_any (g : Nat) (l : List Int) (err n : Int) (w : World) (h : PRd w g l err) :
    Calls Try.prog 8 #[.pointer (some ⟨g, 0, none⟩), .int .i64 n] w fun e w' =>
      e = .returned (.tuple #[]) ∧ PRd w' g (takeL l err n) (takeE l err n) ∧ w.grownBy w' (some g) := by
  have H := Lib.hid h
  clear h
  go_enter Try.func8, Try.ntmps8
  go_wp2_with fail
  refine (ptake_any g l err n _ H.out).mono ?_
  rintro e w' ⟨A, c, rfl, _, _, _, _, hp, hg⟩
  go_wp2_with fail
  go_end0
  exact ⟨rfl, hp, hg⟩

theorem grownBy_below {w w1 w2 : World} {g : Nat} (h : w.grownBy w1 (some g)) (hb : Below w1.heap.size w1 w2) : w.grownBy w2 (some g) :=
  ⟨hb.os.trans h.os, hb.tape.trans h.tape, hb.output.trans h.output, Nat.le_trans h.size hb.size, fun k hk hne => (hb.block k (Nat.lt_of_lt_of_le hk h.size)).trans (h.block k hk hne)⟩
theorem PRd.below {w w' : World} {g : Nat} {l : List Int} {err : Int} (h : PRd w g l err) (hb : Below w.heap.size w w') : PRd w' g l err := by
  obtain ⟨A, n, c, hh, hr, hnc, hcm, hA0⟩ := h
  have hg := (two_cells hh).2.2.2.2
  exact ⟨A, n, c, (hb.block g hg).trans hh, hr.keep fun p hp => hb.cell (by omega), hnc, hcm, hA0⟩

set_option maxRecDepth 100000 in
theorem pbytes_any (g : Nat) (l : List Int) (err n : Int) (w : World) (h : PRd w g l err) (hm : l.length ≤ 140737488351232) :
    Calls Try.prog 11 #[.pointer (some ⟨g, 0, none⟩), .int .i64 n] w fun e w' =>
      ∃ B, e = .returned (.slice (some ⟨B, 0, none⟩) (takeV l err n).length (takeV l err n).length) ∧ BBlk w' B (takeV l err n) ∧ w.heap.size ≤ B ∧ PRd w' g (takeL l err n) (takeE l err n) ∧ w.grownBy w' (some g) := by
  obtain ⟨i0, hi0, hz0, hz1, hz2⟩ := info_parts info_u8
  have htl : (takeV l err n).length ≤ 140737488351232 := by
    unfold takeV; split
    · rw [List.length_take]; omega
    · exact Nat.zero_le _
  obtain ⟨t, ht⟩ : ∃ t, takeV l err n = t := ⟨_, rfl⟩
  rw [ht] at htl ⊢
  have HT := Lib.hid ht
  have H := Lib.hid h
  clear h ht
  go_enter Try.func11, Try.ntmps11
  go_wp2_with fail
  refine (ptake_any g l err n _ H.out).mono ?_
  rintro e w1 ⟨A, c, rfl, hr, hA0, hc, hcm, hp, hg⟩
  rw [HT.out] at hr hc ⊢
  obtain ⟨m, hm'⟩ : ∃ m, t.length = m := ⟨_, rfl⟩
  rw [hm'] at hr hc htl ⊢
  have hgs : g < w1.heap.size := by obtain ⟨_, _, _, hh, _⟩ := hp; exact (two_cells hh).2.2.2.2
  have S1 := Lib.hid (show (t.map (Value.int .u8)).length = Nat.min m m by rw [List.length_map, hm']; exact (Nat.min_self m).symm)
  have S3 := Lib.hid (show 0 + (t.map (Value.int .u8)).length ≤ ((List.replicate m 0).map (Value.int .u8)).length by simp [hm'])
  have HL := Lib.hid hm'
  have HR := Lib.hid hr
  have HP := Lib.hid hp
  have HG := Lib.hid hg
  clear hm' hr hp hg
  go_wp2_with (first
    | (at_make; refine wpList_make_full _ rfl (.tmp 11) (.tmp 11) 22 rfl w1.heap.size 5 i0 (.int .u8 0) 1 Try.underlying22 hi0 hz0 hz1 .i64 .i64 _ _ m rfl rfl rfl rfl (by rw [hz2]; omega) (by unfold maxLen; omega) (Nat.le_refl _) ?_; intro w2 hown1 hgr1; have hb1 := Lib.hid (bblk_made hown1); have hw1 : Below w1.heap.size w1 w2 := (Below.refl _ _).grown hgr1 (Nat.le_refl _) (by simp); have s2 := Lib.hid (copy_src (HR.out.keep (fun p hp => hw1.cell (Nat.lt_trans hp hgs))) w1.heap.size 0); clear hown1 hgr1)
    | (refine wpList_copy_splice (o := ⟨some 15, _, _, _, _, _⟩) rfl (.tmp 13) (.tmp 14) 22 22 rfl 5 Try.underlying22 size_u8 (some ⟨w1.heap.size, 0, none⟩) A m m m c rfl rfl w1.heap.size 0 ((List.replicate m 0).map (Value.int .u8)) 5 hb1.out (t.map (Value.int .u8)) S1.out s2.out S3.out (oneCell_u8 t) w1.heap.size w1 hw1 (Nat.le_refl _) ?_; intro w3 hb2 hw2; have hb3 := bblk_copied (s := 0) HL.out hb2; clear hb1 hw1 s2 hb2))
  have HB := Lib.hid hb3
  go_ret
  refine ⟨_, by rw [HL.out]; rfl, by have := HB.out; rwa [List.replicate_zero, List.append_nil] at this, HG.out.size, HP.out.below hw2, grownBy_below HG.out hw2⟩

set_option maxRecDepth 100000 in
theorem pnew_any (A : Option Addr) (n c : Nat) (l : List Int) (w : World) (hr : BReads w w.heap.size A n l) (hm : n ≤ 140737488351232) :
    Calls Try.prog 7 #[.slice A n c] w fun e w' =>
      ∃ g, e = .returned (.pointer (some ⟨g, 0, none⟩)) ∧ w.heap.size ≤ g ∧ PRd w' g l 0 ∧ Below w.heap.size w w' := by
  obtain ⟨i0, hi0, hz0, hz1, hz2⟩ := info_parts info_u8
  have S1 := Lib.hid (show (l.map (Value.int .u8)).length = Nat.min n n by rw [List.length_map, hr.1]; exact (Nat.min_self n).symm)
  have S3 := Lib.hid (show 0 + (l.map (Value.int .u8)).length ≤ ((List.replicate n 0).map (Value.int .u8)).length by simp [hr.1])
  have HR := Lib.hid hr
  clear hr
  go_enter Try.func7, Try.ntmps7
  go_wp2_with (first
    | (at_make; refine wpList_make_full _ rfl (.tmp 5) (.tmp 5) 22 rfl w.heap.size 5 i0 (.int .u8 0) 1 Try.underlying22 hi0 hz0 hz1 .i64 .i64 _ _ n rfl rfl rfl rfl (by rw [hz2]; omega) (by unfold maxLen; omega) (Nat.le_refl _) ?_; intro w2 hown1 hgr1; have hb1 := Lib.hid (bblk_made hown1); have hw1 : Below w.heap.size w w2 := (Below.refl _ _).grown hgr1 (Nat.le_refl _) (by simp); have s2 := Lib.hid (copy_src (HR.out.below hw1) w.heap.size 0); clear hown1 hgr1)
    | (refine wpList_copy_splice (o := ⟨some 9, _, _, _, _, _⟩) rfl (.tmp 7) (.tmp 8) 22 22 rfl 5 Try.underlying22 size_u8 (some ⟨w.heap.size, 0, none⟩) A n n n c rfl rfl w.heap.size 0 ((List.replicate n 0).map (Value.int .u8)) 5 hb1.out (l.map (Value.int .u8)) S1.out s2.out S3.out (oneCell_u8 l) w.heap.size w hw1 (Nat.le_refl _) ?_; intro w3 hb2 hw2; have hb3 := bblk_copied (s := 0) HR.out.1 hb2; clear hb1 hw1 s2 hb2))
  rw [List.replicate_zero, List.append_nil] at hb3
  have HB := Lib.hid hb3
  clear hb3
  go_ret
  have hB := HB.out
  have hlt := hB.lt
  have hby := HR.out.2.1
  refine ⟨_, rfl, by omega, ⟨some ⟨w.heap.size, 0, none⟩, n, n, heap_alloc_new w3 _, ?_, Nat.le_refl _, by omega, fun e => by cases e⟩, hw2.alloc hw2.size _⟩
  have := hB.reads hby hlt
  rw [HR.out.1] at this
  exact this.alloc (Nat.le_refl _) _
end Go.Proofs.Ytkcllhcinbcgiab
