/- Contracts of layer 8: permutations. -/
import Derived.Test.YtoofnodcdlaheaaDoorPrgD
import Derived.OwnWalk
import Derived.Laws.AppendOwn
import Derived.RegionTactic
import Derived.BigRegion
namespace Go.Proofs.YtoofnodcdlaheaaDoor
open Go.RowKit Pr

theorem Pr.info_int : (Tryd.prog.info? 3).map (fun i => (i.zero, i.size, i.bytes)) = some (some (.int .i64 0), 1, 8) := by kernel_rfl
theorem Pr.below_set {w wr : World} {g i : Nat} {u : Value} (h : Below w.heap.size w wr) (hg : w.heap.size ≤ g) : Below w.heap.size w (wr.setCell ⟨g, i, none⟩ u) := h.setCell (p := ⟨g, i, none⟩) hg _
theorem Pr.grown_new {w wr : World} {g q i : Nat} {u : Value} (h : w.grownBy wr (some g)) (hq : w.heap.size ≤ q) : w.grownBy (wr.setCell ⟨q, i, none⟩ u) (some g) :=
  ⟨h.os, h.tape, h.output, by simpa [World.setCell] using h.size, fun k hk hr => (Below.heap_setCell _ _ _ _ (fun e => by simp at e; omega)).trans (h.block k hk hr)⟩
theorem Pr.set_block (w : World) (g i q : Nat) (u : Value) (h : q ≠ g) : (w.setCell ⟨g, i, none⟩ u).heap[q]? = w.heap[q]? := Below.heap_setCell _ _ _ _ h
theorem Pr.made0 (n : Nat) : (madeCells (Value.int .i64 0).cells (n * 1)).toList = (fil n 0).map (Value.int .i64) := by
  rw [fil_zero]
  apply List.ext_getElem
  · simp [madeCells, Value.cells]
  · intro i h1 h2
    simp [madeCells, Value.cells, Nat.mod_one]

theorem pperm_nil (n : Int) (w : World) :
    Calls Tryd.prog 23 #[.pointer none, .int .i64 n] w fun e w' => e = .returned (.slice none 0 0) ∧ w' = w := by
  go_enter Tryd.func23, Tryd.ntmps23
  go_wp2
  go_ret
  exact ⟨rfl, rfl⟩
theorem pperm_no (g : Nat) (n : Int) (w : World) (h : n < 1 ∨ 4096 < n) :
    Calls Tryd.prog 23 #[.pointer (some ⟨g, 0, none⟩), .int .i64 n] w fun e w' => e = .returned (.slice none 0 0) ∧ w' = w := by
  by_cases a : n < 1
  · go_enter Tryd.func23, Tryd.ntmps23
    go_wp2
    go_ret
    exact ⟨rfl, rfl⟩
  · have b : 4096 < n := by omega
    clear h
    go_enter Tryd.func23, Tryd.ntmps23
    go_wp2
    go_ret
    exact ⟨rfl, rfl⟩
set_option maxRecDepth 100000 in
theorem pperm_any (g n : Nat) (s k : Int) (w : World) (ht : RT w) (hs : SB 53 w g s k) (n0 : 1 ≤ n) (n1 : n ≤ 4096) :
    Calls Tryd.prog 23 #[.pointer (some ⟨g, 0, none⟩), .int .i64 n] w fun e w' => e = .returned (.slice (some ⟨w.heap.size, 0, none⟩) n n) ∧ IB w' w.heap.size (prm s k n).1 ∧ SB 53 w' g s (prm s k n).2 ∧ w.grownBy w' (some g) := by
  obtain ⟨i0, hi0, hz0, hz1, hz2⟩ := info_parts info_int
  have hgl := hs.lt
  have HS := Lib.hid hs
  have HT := Lib.hid ht; clear ht
  have M0 := Lib.hid (made0 n)
  clear hs
  have N0 : (1 : Int) ≤ n := by omega
  have N1 : (n : Int) ≤ 4096 := by omega
  go_enter Tryd.func23, Tryd.ntmps23
  go_wp2_with (at_make; refine wpList_make_full _ rfl (.tmp 19) (.tmp 19) 40 rfl w.heap.size 3 i0 (.int .i64 0) 1 Tryd.underlying40 hi0 hz0 hz1 .i64 .i64 _ _ n rfl rfl rfl rfl (by rw [hz2]; omega) (by unfold maxLen; omega) (Nat.le_refl _) ?_; intro w2 hown1 hgr1; have HI0 := Lib.hid (ib_own hown1 M0.out); have HG0 := Lib.hid hgr1; clear hown1 hgr1)
  go_loopw [23] (fun i wr => ∃ j : Nat, j ≤ n ∧ i = .int .i64 j ∧ Hid (IB wr w.heap.size (fil n j)) ∧ Hid (SB 53 wr g s k) ∧ Hid (w.grownBy wr (some g))) (fun i _ => n - (intOf i).toNat)
  case atStart => exact ⟨0, by omega, rfl, HI0, Lib.hid ((HG0.out.block g hgl (by simp)).trans HS.out), Lib.hid ⟨HG0.out.os, HG0.out.tape, HG0.out.output, HG0.out.size, fun q hq _ => HG0.out.block q hq (by simp)⟩⟩
  case round =>
    obtain ⟨j, hj, rfl, HI, HS1, HG⟩ := hrel
    clear HI0 HG0
    by_cases hjn : j < n
    · obtain ⟨c0, c1⟩ := HI.out.cell (i := j) (by rw [fil_len]; exact hjn)
      go_wp2_with fail
      go_roundw
      case rel => exact ⟨j + 1, by omega, by go_num, Lib.hid (by rw [← fil_set]; exact HI.out.set _ _), Lib.hid ((set_block _ _ _ _ _ (by omega)).trans HS1.out), Lib.hid (grown_new HG.out (Nat.le_refl _))⟩
      case measure => simp [intOf]; omega
    · obtain rfl : j = n := by omega
      go_wp2_with fail
      go_loopw [7] (fun i wr => ∃ (r : Nat) (L : List Int) (K : Int), r + 1 ≤ j ∧ i = .int .i64 r ∧ Hid (L.length = j) ∧ Hid (shf s r K L = prm s k j) ∧ Hid (IB wr w.heap.size L) ∧ Hid (SB 53 wr g s K) ∧ Hid (w.grownBy wr (some g))) (fun i _ => (intOf i).toNat)
      case atStart => exact ⟨j - 1, _, _, by omega, congrArg (Value.int .i64) (by omega), Lib.hid (fil_len j j), Lib.hid rfl, HI, HS1, HG⟩
      case round =>
        clear HI HS1 HG
        obtain ⟨r, L, K, hr, rfl, HL, HF, HI, HS1, HG⟩ := hrel
        rcases r with _ | r
        · go_wp2_with fail
          go_ret
          have hf := HF.out
          rw [shf] at hf
          exact ⟨rfl, by rw [← hf]; exact HI.out, by rw [← hf]; exact HS1.out, HG.out⟩
        · have HD := Lib.hid (drw_bel s K r)
          have HDl := (drw_in s K r).2
          obtain ⟨d, hd⟩ : ∃ d, drw s K r = d := ⟨_, rfl⟩
          rw [hd] at HD HDl
          have HDD := Lib.hid hd
          clear hd
          go_wp2_with fail
          refine (pbelow_any g s K _ _ (HT.out.grown HS.out HG.out) HS1.out (by omega) (by omega)).mono ?_
          rintro e w3 ⟨rfl, hs3, hg3⟩
          rw [HD.out.1]
          rw [HD.out.2] at hs3
          have HI3 := Lib.hid (HI.out.other hg3 (by omega))
          have HS3 := Lib.hid hs3
          have HG3 := Lib.hid (grown_trans HG.out hg3)
          clear hs3 hg3 HI HS1 HG
          obtain ⟨x0, x1⟩ := HI3.out.cell (i := r + 1) (by rw [HL.out]; omega)
          obtain ⟨y0, y1⟩ := HI3.out.cell (i := d) (by rw [HL.out]; omega)
          obtain ⟨z0, z1⟩ := (HI3.out.set (r + 1) (L.getD d 0)).cell (i := d) (by rw [List.length_set, HL.out]; omega)
          obtain ⟨lx, hlx⟩ : ∃ lx, L.getD (r + 1) 0 = lx := ⟨_, rfl⟩
          obtain ⟨ly, hly⟩ : ∃ ly, L.getD d 0 = ly := ⟨_, rfl⟩
          have HLX := Lib.hid hlx
          have HLY := Lib.hid hly
          rw [hlx] at x0
          rw [hly] at y0 z0 z1
          clear hlx hly
          go_wp2_with fail
          go_region
          all_goals
            go_wp2_with fail
            go_roundw
            case rel => exact ⟨r, swp L (r + 1) d, nx K, by omega, by go_num, Lib.hid (by rw [swp_len]; exact HL.out), Lib.hid (by rw [← HF.out, shf, HDD.out]), Lib.hid (by have h := (HI3.out.set (r + 1) ly).set d lx; unfold swp; rw [HLX.out, HLY.out]; exact h), Lib.hid ((set_block _ _ _ _ _ (by omega)).trans ((set_block _ _ _ _ _ (by omega)).trans HS3.out)), Lib.hid (grown_drew (grown_new (grown_new HG3.out (Nat.le_refl _)) (Nat.le_refl _)))⟩
            case measure => simp [intOf]

theorem rperm_nil (n : Int) (w : World) :
    Calls Tryd.prog 24 #[.pointer none, .int .i64 n] w fun e w' => e = .returned (.slice none 0 0) ∧ w' = w := by
  go_enter Tryd.func24, Tryd.ntmps24
  go_wp2
  go_ret
  exact ⟨rfl, rfl⟩
theorem rperm_no (g : Nat) (n : Int) (w : World) (h : n < 1 ∨ 4096 < n) :
    Calls Tryd.prog 24 #[.pointer (some ⟨g, 0, none⟩), .int .i64 n] w fun e w' => e = .returned (.slice none 0 0) ∧ w' = w := by
  by_cases a : n < 1
  · go_enter Tryd.func24, Tryd.ntmps24
    go_wp2
    go_ret
    exact ⟨rfl, rfl⟩
  · have b : 4096 < n := by omega
    clear h
    go_enter Tryd.func24, Tryd.ntmps24
    go_wp2
    go_ret
    exact ⟨rfl, rfl⟩
set_option maxRecDepth 100000 in
theorem rperm_any (g n : Nat) (s k : Int) (w : World) (hs : SB 59 w g s k) (n0 : 1 ≤ n) (n1 : n ≤ 4096) :
    Calls Tryd.prog 24 #[.pointer (some ⟨g, 0, none⟩), .int .i64 n] w fun e w' => e = .returned (.slice (some ⟨w.heap.size, 0, none⟩) n n) ∧ IB w' w.heap.size (prm s k n).1 ∧ SB 59 w' g s (prm s k n).2 ∧ w.grownBy w' (some g) := by
  obtain ⟨i0, hi0, hz0, hz1, hz2⟩ := info_parts info_int
  have hgl := hs.lt
  have HS := Lib.hid hs
  skip
  have M0 := Lib.hid (made0 n)
  clear hs
  have N0 : (1 : Int) ≤ n := by omega
  have N1 : (n : Int) ≤ 4096 := by omega
  go_enter Tryd.func24, Tryd.ntmps24
  go_wp2_with (at_make; refine wpList_make_full _ rfl (.tmp 20) (.tmp 20) 40 rfl w.heap.size 3 i0 (.int .i64 0) 1 Tryd.underlying40 hi0 hz0 hz1 .i64 .i64 _ _ n rfl rfl rfl rfl (by rw [hz2]; omega) (by unfold maxLen; omega) (Nat.le_refl _) ?_; intro w2 hown1 hgr1; have HI0 := Lib.hid (ib_own hown1 M0.out); have HG0 := Lib.hid hgr1; clear hown1 hgr1)
  go_loopw [6] (fun i wr => ∃ j : Nat, j ≤ n ∧ i = .int .i64 j ∧ Hid (IB wr w.heap.size (fil n j)) ∧ Hid (SB 59 wr g s k) ∧ Hid (w.grownBy wr (some g))) (fun i _ => n - (intOf i).toNat)
  case atStart => exact ⟨0, by omega, rfl, HI0, Lib.hid ((HG0.out.block g hgl (by simp)).trans HS.out), Lib.hid ⟨HG0.out.os, HG0.out.tape, HG0.out.output, HG0.out.size, fun q hq _ => HG0.out.block q hq (by simp)⟩⟩
  case round =>
    obtain ⟨j, hj, rfl, HI, HS1, HG⟩ := hrel
    clear HI0 HG0
    by_cases hjn : j < n
    · obtain ⟨c0, c1⟩ := HI.out.cell (i := j) (by rw [fil_len]; exact hjn)
      go_wp2_with fail
      go_roundw
      case rel => exact ⟨j + 1, by omega, by go_num, Lib.hid (by rw [← fil_set]; exact HI.out.set _ _), Lib.hid ((set_block _ _ _ _ _ (by omega)).trans HS1.out), Lib.hid (grown_new HG.out (Nat.le_refl _))⟩
      case measure => simp [intOf]; omega
    · obtain rfl : j = n := by omega
      go_wp2_with fail
      go_loopw [7] (fun i wr => ∃ (r : Nat) (L : List Int) (K : Int), r + 1 ≤ j ∧ i = .int .i64 r ∧ Hid (L.length = j) ∧ Hid (shf s r K L = prm s k j) ∧ Hid (IB wr w.heap.size L) ∧ Hid (SB 59 wr g s K) ∧ Hid (w.grownBy wr (some g))) (fun i _ => (intOf i).toNat)
      case atStart => exact ⟨j - 1, _, _, by omega, congrArg (Value.int .i64) (by omega), Lib.hid (fil_len j j), Lib.hid rfl, HI, HS1, HG⟩
      case round =>
        clear HI HS1 HG
        obtain ⟨r, L, K, hr, rfl, HL, HF, HI, HS1, HG⟩ := hrel
        rcases r with _ | r
        · go_wp2_with fail
          go_ret
          have hf := HF.out
          rw [shf] at hf
          exact ⟨rfl, by rw [← hf]; exact HI.out, by rw [← hf]; exact HS1.out, HG.out⟩
        · have HD := Lib.hid (drw_bel s K r)
          have HDl := (drw_in s K r).2
          obtain ⟨d, hd⟩ : ∃ d, drw s K r = d := ⟨_, rfl⟩
          rw [hd] at HD HDl
          have HDD := Lib.hid hd
          clear hd
          go_wp2_with fail
          refine (rbelow_any g s K _ _ HS1.out (by omega)).mono ?_
          rintro e w3 ⟨rfl, hs3, hg3⟩
          rw [HD.out.1]
          rw [HD.out.2] at hs3
          have HI3 := Lib.hid (HI.out.other hg3 (by omega))
          have HS3 := Lib.hid hs3
          have HG3 := Lib.hid (grown_trans HG.out hg3)
          clear hs3 hg3 HI HS1 HG
          obtain ⟨x0, x1⟩ := HI3.out.cell (i := r + 1) (by rw [HL.out]; omega)
          obtain ⟨y0, y1⟩ := HI3.out.cell (i := d) (by rw [HL.out]; omega)
          obtain ⟨z0, z1⟩ := (HI3.out.set (r + 1) (L.getD d 0)).cell (i := d) (by rw [List.length_set, HL.out]; omega)
          obtain ⟨lx, hlx⟩ : ∃ lx, L.getD (r + 1) 0 = lx := ⟨_, rfl⟩
          obtain ⟨ly, hly⟩ : ∃ ly, L.getD d 0 = ly := ⟨_, rfl⟩
          have HLX := Lib.hid hlx
          have HLY := Lib.hid hly
          rw [hlx] at x0
          rw [hly] at y0 z0 z1
          clear hlx hly
          go_wp2_with fail
          skip
          all_goals
            go_wp2_with fail
            go_roundw
            case rel => exact ⟨r, swp L (r + 1) d, nx K, by omega, by go_num, Lib.hid (by rw [swp_len]; exact HL.out), Lib.hid (by rw [← HF.out, shf, HDD.out]), Lib.hid (by have h := (HI3.out.set (r + 1) ly).set d lx; unfold swp; rw [HLX.out, HLY.out]; exact h), Lib.hid ((set_block _ _ _ _ _ (by omega)).trans ((set_block _ _ _ _ _ (by omega)).trans HS3.out)), Lib.hid (grown_new (grown_new HG3.out (Nat.le_refl _)) (Nat.le_refl _))⟩
            case measure => simp [intOf]
end Go.Proofs.YtoofnodcdlaheaaDoor
