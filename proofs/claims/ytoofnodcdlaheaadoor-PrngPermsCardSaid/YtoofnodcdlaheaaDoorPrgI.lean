/- The walk of PrngPerms. -/
import Derived.Test.YtoofnodcdlaheaaDoorPrgH
namespace Go.Proofs.YtoofnodcdlaheaaDoor
open Go.RowKit Pr

/-- Block g holds n truth values. -/
def Pr.BB (w : World) (g n : Nat) (f : Nat → Bool) : Prop := ∃ cur, w.heap[g]? = some (.cells cur 4 (0, 0)) ∧ ∀ i, i < n → cur[i]? = some (.bool (f i))
theorem Pr.BB.cell {w : World} {g n : Nat} {f : Nat → Bool} (h : BB w g n f) {i : Nat} (hi : i < n) : w.cell? ⟨g, i, none⟩ = some (.bool (f i)) ∧ w.frozen? ⟨g, i, none⟩ = false := by
  obtain ⟨cur, hc, hv⟩ := h
  have := hv i hi
  constructor
  · simp only [World.cell?, hc]; exact this
  · simp [World.frozen?, hc]
theorem Pr.BB.set {w : World} {g n : Nat} {f f' : Nat → Bool} (h : BB w g n f) (i : Nat) (x : Bool) (hf : ∀ j, j < n → f' j = if i = j then x else f j) : BB (w.setCell ⟨g, i, none⟩ (.bool x)) g n f' := by
  obtain ⟨cur, hc, hv⟩ := h
  refine ⟨cur.setIfInBounds i (.bool x), by simp [World.setCell, Array.getElem?_modify, hc], fun j hj => ?_⟩
  have h2 := hv j hj
  rw [Array.getElem?_setIfInBounds, hf j hj]
  by_cases c : i = j
  · subst c
    have hs : i < cur.size := by
      rcases Nat.lt_or_ge i cur.size with hlt | hge
      · exact hlt
      · rw [Array.getElem?_eq_none hge] at h2; cases h2
    rw [if_pos rfl, if_pos hs, if_pos rfl]
  · rw [if_neg c, if_neg c, h2]
theorem Pr.info_bool : (Tryd.prog.info? 4).map (fun i => (i.zero, i.size, i.bytes)) = some (some (.bool false), 1, 1) := by kernel_rfl
theorem Pr.bb_own {w : World} {base n g c : Nat} (h : w.ownsRow base 4 1 (.slice (some ⟨g, 0, none⟩) n c) n (madeCells (Value.bool false).cells (n * 1)).toList) : BB w g n (fun _ => false) := by
  obtain ⟨h1, h2⟩ := h
  rcases h2 with ⟨e, _⟩ | ⟨g', cap, cur, e, hB, hb, hnc, hcm, hcs, ht⟩
  · cases e
  · injection e with e1 e2 e3
    injection e1 with e1
    injection e1 with e1 _ _
    subst e1
    refine ⟨cur, hb, fun i hi => ?_⟩
    have h3 : (cur.toList.take (n * 1))[i]? = (madeCells (Value.bool false).cells (n * 1)).toList[i]? := by rw [ht]
    rw [List.getElem?_take_of_lt (by omega)] at h3
    rw [← Array.getElem?_toList, h3]
    simp [madeCells, Value.cells, hi, Nat.mod_one]
/-- The number at place j. -/
theorem Pr.prm_at (s k : Int) {n j : Nat} (hj : j < n) : ∃ y : Nat, (prm s k n).1.getD j 0 = (y : Int) ∧ y < n ∧ (decide ((y : Int) ∈ (prm s k n).1.take j) = false) ∧ ∀ i : Nat, decide ((i : Int) ∈ (prm s k n).1.take (j + 1)) = if y = i then true else decide ((i : Int) ∈ (prm s k n).1.take j) := by
  have hl := prm_len s k n
  have hnd := prm_nodup s k (n := n) (by omega)
  have hin := fun x h => prm_in s k (n := n) (by omega) (x := x) h
  generalize (prm s k n).1 = l at *
  have hjl : j < l.length := by omega
  have hx := hin l[j] (List.getElem_mem hjl)
  refine ⟨l[j].toNat, ?_, by omega, ?_, ?_⟩
  · simp [List.getD_eq_getElem?_getD, hjl]; omega
  · rw [show ((l[j].toNat : Nat) : Int) = l[j] by omega]
    simp only [decide_eq_false_iff_not]
    intro hm
    obtain ⟨i, hi, he⟩ := List.mem_take_iff_getElem.1 hm
    exact List.pairwise_iff_getElem.1 hnd i j (by omega) hjl (by omega) he
  · intro i
    rw [List.take_succ_eq_append_getElem hjl]
    by_cases c : l[j].toNat = i
    · rw [if_pos c]
      simp only [decide_eq_true_eq, List.mem_append, List.mem_singleton]
      right; omega
    · rw [if_neg c]
      congr 1
      simp only [List.mem_append, List.mem_singleton, eq_iff_iff]
      constructor
      · rintro (h | h)
        · exact h
        · omega
      · exact .inl
theorem Pr.grown_set1 {v w : World} {g i : Nat} {u : Value} (h : v.grownBy w (some g)) : v.grownBy (w.setCell ⟨g, i, none⟩ u) (some g) := grown_trans h (grown_set _ _ _ _)

theorem perms_no (s n : Int) (w : World) (ht : RT w) (h : n < 1 ∨ 4096 < n) :
    Calls Tryd.prog 8 #[.int .u64 s, .int .i64 n] w fun e w' => e = .returned (.bool true) ∧ Below w.heap.size w w' := by
  have HT := Lib.hid ht
  have HN := Lib.hid h
  clear ht
  rcases h with h | h
  all_goals
    try (have h' : ¬ n < 1 := by omega)
    go_enter Tryd.func8, Tryd.ntmps8
    go_wp2_with fail
    refine (pnew_any s _).mono ?_
    rintro e w1 ⟨rfl, rfl⟩
    go_wp2_with fail
    refine (pnew_any s _).mono ?_
    rintro e w2 ⟨rfl, hw2⟩
    have H1 : Hid (Two w w2 w.heap.size (w.heap.size + 1) s 0 s 0) := Lib.hid (by rw [hw2]; exact two_new w s s HT.out)
    clear hw2
    go_wp2_with fail
    refine (pperm_no w.heap.size n _ HN.out).mono ?_
    rintro e w3 ⟨rfl, rfl⟩
    go_wp2_with fail
    refine (pnext_any w.heap.size s 0 _ H1.out.rt H1.out.fst).mono ?_
    rintro e w4 ⟨rfl, hs4, hg4⟩
    have H2 := Lib.hid (H1.out.left hs4 hg4)
    clear hs4 hg4 H1
    go_wp2_with fail
    refine (pnext_any (w.heap.size + 1) s 0 _ H2.out.rt H2.out.snd).mono ?_
    rintro e w5 ⟨rfl, hs5, hg5⟩
    have H3 := Lib.hid (H2.out.right hs5 hg5)
    clear hs5 hg5 H2
    go_wp2_with fail
    refine (awake8_any _ H3.out.rt).mono ?_
    rintro e w6 ⟨rfl, hb6⟩
    have H4 := Lib.hid (H3.out.below hb6)
    clear hb6 H3
    go_wp2_with fail
    go_ret
    exact ⟨rfl, H4.out.bel⟩

/-- Two sources and a row of ints of a call's own. -/
def Pr.Tri (w v : World) (a b D : Nat) (s k s' k' : Int) (l : List Int) : Prop := Two w v a b s k s' k' ∧ IB v D l ∧ w.heap.size ≤ D ∧ D ≠ a ∧ D ≠ b
theorem Pr.Tri.right {w v v' : World} {a b D : Nat} {s k s' k' k1 : Int} {l : List Int} (h : Tri w v a b D s k s' k' l) (hs : SB 53 v' b s' k1) (hg : v.grownBy v' (some b)) : Tri w v' a b D s k s' k1 l := ⟨h.1.right hs hg, h.2.1.other hg h.2.2.2.2, h.2.2⟩
theorem Pr.Tri.left {w v v' : World} {a b D : Nat} {s k s' k' k1 : Int} {l : List Int} (h : Tri w v a b D s k s' k' l) (hs : SB 53 v' a s k1) (hg : v.grownBy v' (some a)) : Tri w v' a b D s k1 s' k' l := ⟨h.1.left hs hg, h.2.1.other hg h.2.2.2.1, h.2.2⟩
theorem Pr.Tri.new {w v v' : World} {a b D q : Nat} {s k s' k' : Int} {l : List Int} (h : Tri w v a b D s k s' k' l) (hg : v.grownBy v' (some q)) (hq : v.heap.size ≤ q) : Tri w v' a b D s k s' k' l := by
  obtain ⟨⟨h1, h2, h3, h4, h5, h6, h7⟩, h8, h9, h10, h11⟩ := h
  have hb : Below v.heap.size v v' := (Below.refl _ _).grown hg (Nat.le_refl _) (fun k e => by injection e with e; omega)
  exact ⟨⟨h1.below hb, h2.trans (hb.mono h2.size), h3.below hb h3.lt, h4.below hb h4.lt, h5, h6, h7⟩, h8.below hb h8.lt, h9, h10, h11⟩
theorem Pr.Tri.below {w v v' : World} {a b D : Nat} {s k s' k' : Int} {l : List Int} (h : Tri w v a b D s k s' k' l) (hb : Below v.heap.size v v') : Tri w v' a b D s k s' k' l := ⟨h.1.below hb, h.2.1.below hb h.2.1.lt, h.2.2⟩
theorem Pr.tri_draw {w v : World} {a b D q : Nat} {s k s' k' : Int} {l : List Int} (h : Tri w v a b D s k s' k' l) : Tri w (v.drewN q) a b D s k s' k' l := by
  obtain ⟨⟨h1, h2, h3, h4, h5, h6, h7⟩, h8, h9, h10, h11⟩ := h
  exact ⟨⟨h1.drewN, Pr.below_drewN h2, h3, h4, h5, h6, h7⟩, h8, h9, h10, h11⟩
theorem Pr.grown_none {v w : World} {q : Nat} (h : v.grownBy w none) : v.grownBy w (some q) := ⟨h.os, h.tape, h.output, h.size, fun k hk _ => h.block k hk (by simp)⟩

theorem Pr.Tri.far {w v : World} {a b D q i : Nat} {u : Value} {s k s' k' : Int} {l : List Int} (ht : RT w) (h : Tri w v a b D s k s' k' l) (hq : w.heap.size ≤ q) (h0 : q ≠ a) (h1 : q ≠ b) (h2 : q ≠ D) : Tri w (v.setCell ⟨q, i, none⟩ u) a b D s k s' k' l := by
  obtain ⟨⟨_, k2, k3, k4, k5, k6, k7⟩, k8, k9, k10, k11⟩ := h
  have hrt : RT (v.setCell ⟨q, i, none⟩ u) := ht.below (k2.setCell (p := ⟨q, i, none⟩) hq u)
  exact ⟨⟨hrt, k2.setCell (p := ⟨q, i, none⟩) hq u, (set_block _ _ _ _ _ (fun e => h0 e.symm)).trans k3, (set_block _ _ _ _ _ (fun e => h1 e.symm)).trans k4, k5, k6, k7⟩, k8.of_block (set_block _ _ _ _ _ (fun e => h2 e.symm)), k9, k10, k11⟩
theorem Pr.tri_drew {w v : World} {a b D : Nat} {s k s' k' : Int} {l : List Int} (h : Tri w v a b D s k s' k' l) : Tri w v.drew a b D s k s' k' l := by
  obtain ⟨⟨h1, h2, h3, h4, h5, h6, h7⟩, h8, h9, h10, h11⟩ := h
  exact ⟨⟨h1, h2.drew, h3, h4, h5, h6, h7⟩, h8, h9, h10, h11⟩
set_option maxRecDepth 100000 in
theorem perms_yes (s : Int) (n : Nat) (w : World) (ht : RT w) (n0 : 1 ≤ n) (n1 : n ≤ 4096) :
    Calls Tryd.prog 8 #[.int .u64 s, .int .i64 n] w fun e w' => e = .returned (.bool true) ∧ Below w.heap.size w w' := by
  obtain ⟨i0, hi0, hz0, hz1, hz2⟩ := info_parts info_int
  obtain ⟨j0, hj0, yz0, yz1, yz2⟩ := info_parts info_bool
  have HT := Lib.hid ht
  have M0 := Lib.hid (made0 n)
  have HPL := Lib.hid (prm_len s 0 n)
  clear ht
  have N0 : (1 : Int) ≤ n := by omega
  have N1 : (n : Int) ≤ 4096 := by omega
  go_enter Tryd.func8, Tryd.ntmps8
  go_wp2_with fail
  refine (pnew_any s _).mono ?_
  rintro e w1 ⟨rfl, rfl⟩
  go_wp2_with fail
  refine (pnew_any s _).mono ?_
  rintro e w2 ⟨rfl, hw2⟩
  have H1 : Hid (Two w w2 w.heap.size (w.heap.size + 1) s 0 s 0) := Lib.hid (by rw [hw2]; exact two_new w s s HT.out)
  clear hw2
  go_wp2_with fail
  refine (pperm_any w.heap.size n s 0 _ H1.out.rt H1.out.fst n0 n1).mono ?_
  rintro e w3 ⟨rfl, hi3, hs3, hg3⟩
  have hz2' := H1.out.fst.lt
  have hz3' := H1.out.snd.lt
  have H2 : Hid (Tri w w3 w.heap.size (w.heap.size + 1) w2.heap.size s (prm s 0 n).2 s 0 (prm s 0 n).1) := Lib.hid ⟨H1.out.left hs3 hg3, hi3, by omega, by omega, by omega⟩
  clear hi3 hs3 hg3 H1
  go_wp2_with (at_make; refine wpList_make_full _ rfl (.tmp 51) (.tmp 51) 49 rfl w3.heap.size 4 j0 (.bool false) 1 Tryd.underlying49 hj0 yz0 yz1 .i64 .i64 _ _ n rfl rfl rfl rfl (by rw [yz2]; omega) (by unfold maxLen; omega) (Nat.le_refl _) ?_; intro w4 hown1 hgr1; have HB0 := Lib.hid (bb_own hown1); have HG0 := Lib.hid (grown_none (q := w3.heap.size) hgr1); clear hown1 hgr1)
  go_loopw [55] (fun i wr => ∃ j : Nat, j ≤ n ∧ i = .int .i64 j ∧ Hid (BB wr w3.heap.size n (fun x => decide ((x : Int) ∈ (prm s 0 n).1.take j))) ∧ Hid (w3.grownBy wr (some w3.heap.size))) (fun i _ => n - (intOf i).toNat)
  case atStart => exact ⟨0, by omega, rfl, Lib.hid (by simpa using HB0.out), HG0⟩
  case round =>
    clear HB0 HG0
    obtain ⟨j, hj, rfl, HB, HG⟩ := hrel
    have HX := Lib.hid (H2.out.new HG.out (Nat.le_refl _))
    by_cases hjn : j < n
    · obtain ⟨y, hy, hyn, hyf, hys⟩ := prm_at s 0 hjn
      obtain ⟨c0, _⟩ := HX.out.2.1.cell (i := j) (by rw [HPL.out]; exact hjn)
      obtain ⟨d0, d1⟩ := HB.out.cell (i := y) hyn
      rw [hy] at c0
      rw [hyf] at d0
      have HYS := Lib.hid hys
      have hyi : (y : Int) < n := by omega
      clear hy hyf hys HX
      go_wp2_with fail
      go_roundw
      case rel => exact ⟨j + 1, by omega, by go_num, Lib.hid (HB.out.set _ _ (fun i _ => HYS.out i)), Lib.hid (grown_set1 HG.out)⟩
      case measure => simp [intOf]; omega
    · obtain rfl : j = n := by omega
      clear HB HG H2
      go_wp2_with (at_make; refine wpList_make_full _ rfl (.tmp 76) (.tmp 76) 40 rfl wr.heap.size 3 i0 (.int .i64 0) 1 Tryd.underlying40 hi0 hz0 hz1 .i64 .i64 _ _ j rfl rfl rfl rfl (by rw [hz2]; omega) (by unfold maxLen; omega) (Nat.le_refl _) ?_; intro w5 hown1 hgr1; have HI0 := Lib.hid (ib_own hown1 M0.out); have HG0 := Lib.hid (grown_none (q := wr.heap.size) hgr1); clear hown1 hgr1)
      obtain ⟨wo, rfl⟩ : ∃ wo : World, wo = wr := ⟨_, rfl⟩
      go_loopw [80] (fun i wr => ∃ i1 : Nat, i1 ≤ j ∧ i = .int .i64 i1 ∧ Hid (IB wr wo.heap.size (fil j i1)) ∧ Hid (wo.grownBy wr (some wo.heap.size))) (fun i _ => j - (intOf i).toNat)
      case atStart => exact ⟨0, by omega, rfl, HI0, HG0⟩
      case round =>
        clear HI0 HG0
        obtain ⟨i1, hj, rfl, HI, HG⟩ := hrel
        by_cases hjn : i1 < j
        · obtain ⟨c0, c1⟩ := HI.out.cell (i := i1) (by rw [fil_len]; exact hjn)
          go_wp2_with fail
          go_roundw
          case rel => exact ⟨i1 + 1, by omega, by go_num, Lib.hid (by rw [← fil_set]; exact HI.out.set _ _), Lib.hid (grown_set1 HG.out)⟩
          case measure => simp [intOf]; omega
        · obtain rfl : i1 = j := by omega
          have H3 := Lib.hid (HX.out.new HG.out (Nat.le_refl _))
          have hD1 := HX.out.2.1.lt
          have hDa := HX.out.1.fst.lt
          have hDb := HX.out.1.snd.lt
          have hDw := HX.out.1.bel.size
          clear HX HG
          go_wp2_with fail
          obtain ⟨wp, rfl⟩ : ∃ wp : World, wp = wr := ⟨_, rfl⟩
          go_loopw [13] (fun i wr => ∃ (r : Nat) (L : List Int) (K : Int), r + 1 ≤ i1 ∧ i = .int .i64 r ∧ Hid (L.length = i1) ∧ Hid (shf s r K L = prm s 0 i1) ∧ Hid (IB wr wo.heap.size L) ∧ Hid (Tri w wr w.heap.size (w.heap.size + 1) w2.heap.size s (prm s 0 i1).2 s K (prm s 0 i1).1)) (fun i _ => (intOf i).toNat)
          case atStart => exact ⟨i1 - 1, _, _, by omega, congrArg (Value.int .i64) (by omega), Lib.hid (fil_len i1 i1), Lib.hid rfl, HI, H3⟩
          case round =>
            clear HI H3
            obtain ⟨r, L, K, hr, rfl, HL, HF, HI, H3⟩ := hrel
            rcases r with _ | r
            · have hf := HF.out
              rw [shf] at hf
              have HI2 := Lib.hid (show IB wr wo.heap.size (prm s 0 i1).1 by rw [← hf]; exact HI.out)
              have H4 := Lib.hid (show Tri w wr w.heap.size (w.heap.size + 1) w2.heap.size s (prm s 0 i1).2 s (prm s 0 i1).2 (prm s 0 i1).1 from by have h := H3.out; rw [show K = (prm s 0 i1).2 by rw [← hf]] at h; exact h)
              clear hf HF HI H3 HL
              go_wp2_with fail
              refine (equal_ints w2.heap.size wo.heap.size i1 _ _ (prm s 0 i1).1 (prm s 0 i1).1 _ H4.out.2.1 HI2.out HPL.out.symm HPL.out.symm (by omega)).mono ?_
              rintro e w6 ⟨he, q, hq⟩
              replace he : e = .returned (.bool true) := by rw [he]; simp
              subst he
              have H5 := Lib.hid (show Tri w w6 w.heap.size (w.heap.size + 1) w2.heap.size s (prm s 0 i1).2 s (prm s 0 i1).2 (prm s 0 i1).1 by rw [hq]; exact tri_draw H4.out)
              clear hq H4 HI2
              go_wp2_with fail
              refine (pnext_any w.heap.size s _ _ H5.out.1.rt H5.out.1.fst).mono ?_
              rintro e w7 ⟨rfl, hs7, hg7⟩
              have H6 := Lib.hid (H5.out.left hs7 hg7)
              clear hs7 hg7 H5
              go_wp2_with fail
              refine (pnext_any (w.heap.size + 1) s _ _ H6.out.1.rt H6.out.1.snd).mono ?_
              rintro e w8 ⟨rfl, hs8, hg8⟩
              have H7 := Lib.hid (H6.out.right hs8 hg8)
              clear hs8 hg8 H6
              go_wp2_with fail
              refine (awake8_any _ H7.out.1.rt).mono ?_
              rintro e w9 ⟨rfl, hb9⟩
              have H8 := Lib.hid (H7.out.below hb9)
              clear hb9 H7
              go_wp2_with fail
              go_ret
              exact ⟨rfl, H8.out.1.bel⟩
            · have HD := Lib.hid (drw_bel s K r)
              have HDl := (drw_in s K r).2
              obtain ⟨d, hd⟩ : ∃ d, drw s K r = d := ⟨_, rfl⟩
              rw [hd] at HD HDl
              have HDD := Lib.hid hd
              clear hd
              go_wp2_with fail
              refine (pbelow_any (w.heap.size + 1) s K _ _ H3.out.1.rt H3.out.1.snd (by omega) (by omega)).mono ?_
              rintro e w6 ⟨rfl, hs6, hg6⟩
              rw [HD.out.1]
              rw [HD.out.2] at hs6
              have HI3 := Lib.hid (HI.out.other hg6 (by omega))
              have H4 := Lib.hid (H3.out.right hs6 hg6)
              clear hs6 hg6 HI H3
              obtain ⟨x0, x1⟩ := HI3.out.cell (i := r + 1) (by rw [HL.out]; omega)
              obtain ⟨y0, y1⟩ := HI3.out.cell (i := d) (by rw [HL.out]; omega)
              obtain ⟨z0, z1⟩ := (HI3.out.set (r + 1) (L.getD d 0)).cell (i := d) (by rw [List.length_set, HL.out]; omega)
              obtain ⟨lx, hlx⟩ : ∃ lx, L.getD (r + 1) 0 = lx := ⟨_, rfl⟩
              obtain ⟨ly, hly⟩ : ∃ ly, L.getD d 0 = ly := ⟨_, rfl⟩
              have HLX := Lib.hid hlx
              have HLY := Lib.hid hly
              rw [hlx] at x0
              rw [hly] at y0 z0 z1
              have hdr : ¬ (r : Int) + 1 < d := by omega
              clear hlx hly
              go_wp2_with fail
              go_region
              all_goals
                go_wp2_with fail
                go_roundw
                case rel => exact ⟨r, swp L (r + 1) d, nx K, by omega, by go_num, Lib.hid (by rw [swp_len]; exact HL.out), Lib.hid (by rw [← HF.out, shf, HDD.out]), Lib.hid (by have h := (HI3.out.set (r + 1) ly).set d lx; unfold swp; rw [HLX.out, HLY.out]; exact h), Lib.hid (by have h := Tri.far HT.out H4.out (u := .int .i64 ly) (i := r + 1) (q := wo.heap.size) (by omega) (by omega) (by omega) (by omega); have h2 := Tri.far HT.out h (u := .int .i64 lx) (i := d) (q := wo.heap.size) (by omega) (by omega) (by omega) (by omega); exact tri_drew h2)⟩
                case measure => simp [intOf]

theorem perms_law (s n : Int) (w : World) (ht : RT w) :
    Calls Tryd.prog 8 #[.int .u64 s, .int .i64 n] w fun e w' => e = .returned (.bool true) ∧ Below w.heap.size w w' := by
  by_cases h : n < 1 ∨ 4096 < n
  · exact perms_no s n w ht h
  · obtain ⟨m, rfl⟩ : ∃ m : Nat, n = m := ⟨n.toNat, by omega⟩
    exact perms_yes s m w ht (by omega) (by omega)
end Go.Proofs.YtoofnodcdlaheaaDoor
