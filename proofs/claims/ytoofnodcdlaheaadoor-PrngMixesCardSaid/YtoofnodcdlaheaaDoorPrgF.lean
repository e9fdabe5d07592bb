/- The chapter's examples of layer 8, and what the table gives. -/
import Derived.Test.YtoofnodcdlaheaaDoorPrgE
import Derived.Test.YtoofnodcdlaheaaDoorShelf
import Derived.Test.YtoofnodcdlaheaaDoorRows
import Derived.Lib.LaidTab
import Derived.MakeChecks
namespace Go.Proofs.YtoofnodcdlaheaaDoor
open Go.RowKit Pr

theorem Pr.prm_one (s k : Int) : prm s k 1 = ([0], k) := rfl
theorem Pr.below_drewN {B n : Nat} {w w1 : World} (h : Below B w w1) : Below B w (w1.drewN n) := ⟨h.os, h.tape, h.output, h.size, h.block⟩
theorem Pr.SB.drewN {T : TypeId} {w : World} {g n : Nat} {s k : Int} (h : SB T w g s k) : SB T (w.drewN n) g s k := h
theorem Pr.IB.drewN {w : World} {g n : Nat} {l : List Int} (h : IB w g l) : IB (w.drewN n) g l := h
theorem Pr.RT.drewN {w : World} {n : Nat} (h : RT w) : RT (w.drewN n) := h
theorem Pr.ib_one (w : World) (x : Int) : IB (w.alloc (.cells #[.int .i64 x] 3)) w.heap.size [x] := by
  refine ⟨#[.int .i64 x], heap_alloc_new w _, fun i hi => ?_⟩
  have : i = 0 := by simp at hi; omega
  subst this
  rfl
/-- Two rows of ints compared. -/
theorem equal_ints (b1 b2 n c d : Nat) (l l' : List Int) (w : World) (h1 : IB w b1 l) (h2 : IB w b2 l') (hn : n = l.length) (hn' : n = l'.length) (hm : n ≤ 9223372036854775807) :
    Calls Tryd.prog 22 #[.slice (some ⟨b1, 0, none⟩) n c, .slice (some ⟨b2, 0, none⟩) n d] w fun e w' => e = .returned (.bool (l == l')) ∧ ∃ q, w' = w.drewN q := by
  refine (Tryd.slices_Equal_int b1 0 n c b2 0 n d l l' w (by omega) (by omega) hm hm (fun j hj => ?_) (fun j hj => ?_)).mono ?_
  · rw [Nat.zero_add]; exact (h1.cell hj).1
  · rw [Nat.zero_add]; exact (h2.cell hj).1
  · rintro e w' ⟨rfl, hq⟩
    rw [List.take_of_length_le (by omega), List.take_of_length_le (by omega)]
    exact ⟨rfl, hq⟩

theorem awake8_any (w : World) (ht : RT w) :
    Calls Tryd.prog 13 #[] w fun e w' => e = .returned (.bool true) ∧ Below w.heap.size w w' := by
  have HT := Lib.hid ht
  have HZ := Lib.hid mix_zero
  clear ht
  go_enter Tryd.func13, Tryd.ntmps13
  go_wp2_with fail
  refine (pnew_any 0 _).mono ?_
  rintro e w1 ⟨rfl, hw1⟩
  have hs1 : SB 53 w1 w.heap.size 0 0 := by rw [hw1]; exact sb_new _ _ _ _
  have hb1 : Below w.heap.size w w1 := by rw [hw1]; exact (Below.refl _ _).alloc (Nat.le_refl _) _
  clear hw1
  have HS1 := Lib.hid hs1
  have HB1 := Lib.hid hb1
  clear hs1 hb1
  go_wp2_with fail
  refine (prange_any w.heap.size 0 0 5 4 _ (HT.out.below HB1.out) HS1.out (by decide) (by decide) (by decide) (by decide)).mono ?_
  rintro e w2 ⟨rfl, hs2, hg2⟩
  have HS2 := Lib.hid (show SB 53 w2 w.heap.size 0 0 from hs2)
  have HB2 := Lib.hid (HB1.out.grown hg2 HB1.out.size (fun k e => by injection e with e; omega))
  clear hs2 hg2 HS1 HB1
  rw [show rngV 0 0 5 4 = 5 from if_pos (by decide)]
  go_wp2_with fail
  refine (pperm_any w.heap.size 1 0 0 _ (HT.out.below HB2.out) HS2.out (by decide) (by decide)).mono ?_
  rintro e w3 ⟨rfl, hi3, hs3, hg3⟩
  rw [prm_one] at hi3 hs3
  have HI3 := Lib.hid hi3
  have HS3 := Lib.hid hs3
  have HB3 := Lib.hid (HB2.out.grown hg3 HB2.out.size (fun k e => by injection e with e; omega))
  have hz2 := HB2.out.size
  clear hi3 hs3 hg3
  go_wp2_with fail
  refine (pmix_any 0 0 _ (HT.out.below HB3.out)).mono ?_
  rintro e w4 ⟨rfl, hb4⟩
  rw [HZ.out]
  have HS4 := Lib.hid (HS3.out.below hb4 HS3.out.lt)
  have HI4 := Lib.hid (HI3.out.below hb4 HI3.out.lt)
  have HB4 := Lib.hid (HB3.out.trans (hb4.mono HB3.out.size))
  clear hb4 HS3 HI3 HB3
  go_wp2_with fail
  refine (equal_ints w2.heap.size w4.heap.size 1 1 1 [0] [0] _ ?_ ?_ rfl rfl (by decide)).mono ?_
  · exact HI4.out.below ((Below.refl _ _).alloc (Nat.le_refl _) _) HI4.out.lt
  · exact ib_one w4 0
  rintro e w5 ⟨rfl, q, hq⟩
  have HS5 := Lib.hid (show SB 53 w5 w.heap.size 0 0 by rw [hq]; exact (HS4.out.below ((Below.refl _ _).alloc (Nat.le_refl _) _) HS4.out.lt).drewN)
  have HB5 := Lib.hid (show Below w.heap.size w w5 by rw [hq]; exact Pr.below_drewN (HB4.out.alloc HB4.out.size _))
  clear hq HS4 HI4 HB4
  rw [show (([0] : List Int) == [0]) = true from rfl]
  go_wp2_with fail
  refine (pnext_any w.heap.size 0 0 _ (HT.out.below HB5.out) HS5.out).mono ?_
  rintro e w6 ⟨rfl, hs6, hg6⟩
  rw [HZ.out]
  have HB6 := Lib.hid (HB5.out.grown hg6 HB5.out.size (fun k e => by injection e with e; omega))
  clear hs6 hg6
  go_wp2_with fail
  go_ret
  exact ⟨rfl, HB6.out⟩

theorem Pr.round_cells {W : World} {fuel : Nat} {cs : List Value} {a b : Int} {p : List MemPlace} (h : DataW.trod (fun _ => ()) Tryd.prog W 0 (fun _ => true) false fuel 56 cs = some (.agg [.lit (.int .u64 a), .lit (.int .u64 b)], p)) : cs = [.int .u64 a, .int .u64 b] := by
  cases fuel with
  | zero => simp [DataW.trod] at h
  | succ fuel =>
    simp only [DataW.trod, Tryd.underlying56, show Tryd.prog.cellsOf 56 = 2 from by kernel_rfl] at h
    split at h
    · rename_i hl
      simp only [List.mapM_cons, List.mapM_nil, show Tryd.prog.cellsOf 35 = 1 from by kernel_rfl, show Tryd.prog.cellsOf 22 = 1 from by kernel_rfl, Option.bind_eq_bind, Option.pure_def, Option.map_eq_some_iff, Option.bind_eq_some_iff, Option.some.injEq] at h
      obtain ⟨xs, ⟨y0, h0, l1, ⟨y1, h1, l2, rfl, rfl⟩, rfl⟩, hx⟩ := h
      obtain ⟨z0, c0, e0, _⟩ := DataW.trod_int Tryd.underlying35 h0
      obtain ⟨z1, c1, e1, _⟩ := DataW.trod_int Tryd.underlying22 h1
      rw [e0, e1] at hx
      simp at hx
      obtain ⟨⟨rfl, rfl⟩, _⟩ := hx
      match cs, hl with
      | [u, v], _ =>
        simp at c0 c1
        rw [c0, c1]
    · cases h
set_option maxRecDepth 100000 in
theorem laid_gives8 {W : World} (h : laidMetH Tryd.prog [("timesync/prng.rounds", Rows.laid_timesync_prng_rounds)] W) : RT W := by
  rw [MakeChecks.laidMetH_plain _ _ _ (by kernel_rfl)] at h
  obtain ⟨ps, ⟨g0, t0, cs0, fuel, p0, q0, hg0, ht0, hv0, hd0, _, _⟩, _⟩ := h
  obtain rfl := Option.some.inj ((show Tryd.prog.globalNamed "timesync/prng.rounds" = some 0 from by kernel_rfl).symm.trans hg0)
  obtain rfl := Option.some.inj ((show (Tryd.prog.globals[0]?).map (·.type) = some 57 from by kernel_rfl).symm.trans ht0)
  unfold RT
  rw [hv0]
  congr 1
  obtain ⟨cs⟩ := cs0
  congr 1
  cases fuel with
  | zero => simp [DataW.trod] at hd0
  | succ fuel =>
    unfold Rows.laid_timesync_prng_rounds at hd0
    simp only [DataW.trod, Tryd.underlying57, show Tryd.prog.cellsOf 57 = 6 from by kernel_rfl, show Tryd.prog.cellsOf 56 = 2 from by kernel_rfl] at hd0
    split at hd0
    · rename_i hl
      simp only [show List.range 3 = [0, 1, 2] from rfl, List.mapM_cons, List.mapM_nil, Option.bind_eq_bind, Option.pure_def, Option.map_eq_some_iff, Option.bind_eq_some_iff, Option.some.injEq] at hd0
      obtain ⟨xs, ⟨y0, h0, l1, ⟨y1, h1, l2, ⟨y2, h2, l3, rfl, rfl⟩, rfl⟩, rfl⟩, hx⟩ := hd0
      simp at hx
      obtain ⟨⟨e0, e1, e2⟩, _⟩ := hx
      obtain ⟨d0, q0⟩ := y0
      obtain ⟨d1, q1⟩ := y1
      obtain ⟨d2, q2⟩ := y2
      subst e0 e1 e2
      have k0 := round_cells h0
      have k1 := round_cells h1
      have k2 := round_cells h2
      match cs, hl with
      | [c0, c1, c2, c3, c4, c5], _ =>
        simp at k0 k1 k2
        obtain ⟨rfl, rfl⟩ := k0
        obtain ⟨rfl, rfl⟩ := k1
        obtain ⟨rfl, rfl⟩ := k2
        rfl
    · cases hd0
end Go.Proofs.YtoofnodcdlaheaaDoor
