/- The plain mathematics of layer 8: shuffles. -/
import Derived.Test.YtoofnodcdlaheaaDoorPrgC
namespace Go.Proofs.YtoofnodcdlaheaaDoor
open Go.RowKit Pr

/-- The numbers below n, of which the first k are laid. -/
def Pr.fil (n k : Nat) : List Int := (List.range n).map fun j => if j < k then (j : Int) else 0
theorem Pr.fil_len (n k : Nat) : (fil n k).length = n := by simp [fil]
theorem Pr.fil_zero (n : Nat) : fil n 0 = List.replicate n 0 := by
  unfold fil
  apply List.ext_getElem
  · simp
  · intro i h1 h2; simp
theorem Pr.fil_set {n k : Nat} : (fil n k).set k (k : Int) = fil n (k + 1) := by
  unfold fil
  apply List.ext_getElem
  · simp
  · intro i h1 h2
    rw [List.getElem_set]
    simp at h1
    by_cases c : k = i
    · subst c; simp
    · rw [if_neg c]
      simp only [List.getElem_map, List.getElem_range]
      by_cases a : i < k
      · rw [if_pos a, if_pos (by omega)]
      · rw [if_neg a, if_neg (by omega)]
theorem Pr.fil_all {n : Nat} : fil n n = (List.range n).map Int.ofNat := by
  unfold fil
  apply List.map_congr_left
  intro j hj
  rw [if_pos (List.mem_range.1 hj)]; rfl

/-- Two of a list, exchanged. -/
def Pr.swp (l : List Int) (i j : Nat) : List Int := (l.set i (l.getD j 0)).set j (l.getD i 0)
theorem Pr.swp_len (l : List Int) (i j : Nat) : (swp l i j).length = l.length := by simp [swp]
/-- The number that is drawn for round r + 1. -/
def Pr.drw (s k : Int) (r : Nat) : Nat := (mix s k % ((r : Int) + 2)).toNat
theorem Pr.drw_in (s k : Int) (r : Nat) : (drw s k r : Int) = mix s k % ((r : Int) + 2) ∧ drw s k r < r + 2 := by
  have h0 := Int.emod_nonneg (mix s k) (show (r : Int) + 2 ≠ 0 by omega)
  have h1 := Int.emod_lt_of_pos (mix s k) (show (0 : Int) < (r : Int) + 2 by omega)
  unfold drw
  omega
theorem Pr.drw_bel (s k : Int) (r : Nat) : belV s k ((r : Int) + 1 + 1) = (drw s k r : Int) ∧ belK k ((r : Int) + 1 + 1) = nx k := by
  have h := drw_in s k r
  unfold belV belK
  rw [if_neg (by omega), if_neg (by omega), h.1, show (r : Int) + 1 + 1 = (r : Int) + 2 by omega]
  exact ⟨rfl, rfl⟩
/-- The last r rounds of the shuffle. -/
def Pr.shf (s : Int) : Nat → Int → List Int → List Int × Int
  | 0, k, l => (l, k)
  | r + 1, k, l => shf s r (nx k) (swp l (r + 1) (drw s k r))
theorem Pr.shf_len (s : Int) : ∀ (r : Nat) (k : Int) (l : List Int), (shf s r k l).1.length = l.length := by
  intro r
  induction r with
  | zero => intro k l; rfl
  | succ r ih => intro k l; rw [shf, ih, swp_len]
theorem Pr.set2_perm {l : List Int} {i j : Nat} (hi : i < l.length) (hj : j < l.length) : (swp l i j).Perm l := by
  unfold swp
  rw [List.getD_eq_getElem?_getD, List.getD_eq_getElem?_getD, List.getElem?_eq_getElem hj, List.getElem?_eq_getElem hi]
  simp only [Option.getD_some]
  exact List.set_set_perm hi hj
theorem Pr.shf_perm (s : Int) : ∀ (r : Nat) (k : Int) (l : List Int), r < l.length → (shf s r k l).1.Perm l := by
  intro r
  induction r with
  | zero => intro k l _; exact List.Perm.refl _
  | succ r ih =>
    intro k l h
    have hd := (drw_in s k r).2
    rw [shf]
    exact (ih _ _ (by rw [swp_len]; omega)).trans (set2_perm h (by omega))
/-- The permutation, and the steps behind it. -/
def Pr.prm (s k : Int) (n : Nat) : List Int × Int := shf s (n - 1) k (fil n n)
theorem Pr.prm_len (s k : Int) (n : Nat) : (prm s k n).1.length = n := by rw [prm, shf_len, fil_len]
theorem Pr.prm_perm (s k : Int) {n : Nat} (h : 0 < n) : (prm s k n).1.Perm ((List.range n).map Int.ofNat) := by
  rw [prm, ← fil_all]
  exact shf_perm s _ k _ (by rw [fil_len]; omega)
theorem Pr.prm_nodup (s k : Int) {n : Nat} (h : 0 < n) : (prm s k n).1.Nodup := by
  refine (prm_perm s k h).nodup_iff.2 ?_
  exact List.Pairwise.map _ (fun a b hab e => hab (Int.ofNat.inj e)) List.nodup_range
theorem Pr.prm_in (s k : Int) {n : Nat} (h : 0 < n) {x : Int} (hx : x ∈ (prm s k n).1) : 0 ≤ x ∧ x < n := by
  have := (prm_perm s k h).mem_iff.1 hx
  simp at this
  obtain ⟨a, ha, rfl⟩ := this
  omega

/-- Block g holds the ints l. -/
def Pr.IB (w : World) (g : Nat) (l : List Int) : Prop := ∃ cur, w.heap[g]? = some (.cells cur 3 (0, 0)) ∧ ∀ i, i < l.length → cur[i]? = some (.int .i64 (l.getD i 0))
theorem Pr.IB.lt {w : World} {g : Nat} {l : List Int} (h : IB w g l) : g < w.heap.size := by
  obtain ⟨cur, hc, _⟩ := h
  rcases Nat.lt_or_ge g w.heap.size with hlt | hge
  · exact hlt
  · rw [Array.getElem?_eq_none hge] at hc; cases hc
theorem Pr.IB.cell {w : World} {g : Nat} {l : List Int} (h : IB w g l) {i : Nat} (hi : i < l.length) : w.cell? ⟨g, i, none⟩ = some (.int .i64 (l.getD i 0)) ∧ w.frozen? ⟨g, i, none⟩ = false := by
  obtain ⟨cur, hc, hv⟩ := h
  have hs : i < cur.size := by
    rcases Nat.lt_or_ge i cur.size with hlt | hge
    · exact hlt
    · have := hv i hi; rw [Array.getElem?_eq_none hge] at this; cases this
  have := hv i hi
  constructor
  · simp only [World.cell?, hc]; exact this
  · simp [World.frozen?, hc]
theorem Pr.IB.set {w : World} {g : Nat} {l : List Int} (h : IB w g l) (i : Nat) (x : Int) : IB (w.setCell ⟨g, i, none⟩ (.int .i64 x)) g (l.set i x) := by
  obtain ⟨cur, hc, hv⟩ := h
  refine ⟨cur.setIfInBounds i (.int .i64 x), by simp [World.setCell, Array.getElem?_modify, hc], fun j hj => ?_⟩
  rw [List.length_set] at hj
  have h2 := hv j hj
  rw [Array.getElem?_setIfInBounds]
  by_cases c : i = j
  · subst c
    have hs : i < cur.size := by
      rcases Nat.lt_or_ge i cur.size with hlt | hge
      · exact hlt
      · rw [Array.getElem?_eq_none hge] at h2; cases h2
    rw [if_pos rfl, if_pos hs]
    simp [List.getD_eq_getElem?_getD, hj]
  · rw [if_neg c, h2]
    simp [List.getD_eq_getElem?_getD, List.getElem?_set_ne c]
theorem Pr.IB.of_block {w w' : World} {g : Nat} {l : List Int} (h : IB w g l) (hb : w'.heap[g]? = w.heap[g]?) : IB w' g l := by
  obtain ⟨cur, hc, hv⟩ := h
  exact ⟨cur, hb.trans hc, hv⟩
theorem Pr.IB.other {w w' : World} {g q : Nat} {l : List Int} (h : IB w g l) (hg : w.grownBy w' (some q)) (hne : g ≠ q) : IB w' g l := h.of_block (hg.block g h.lt (fun e => hne (by injection e)))
theorem Pr.IB.below {w w' : World} {g D : Nat} {l : List Int} (h : IB w g l) (hb : Below D w w') (hG : g < D) : IB w' g l := h.of_block (hb.block g hG)
theorem Pr.ib_own {w : World} {base n : Nat} {g : Nat} {c : Nat} {xs : List Value} {l : List Int} (h : w.ownsRow base 3 1 (.slice (some ⟨g, 0, none⟩) n c) n xs) (hl : xs = l.map (Value.int .i64)) : IB w g l := by
  obtain ⟨h1, h2⟩ := h
  rcases h2 with ⟨e, _⟩ | ⟨g', cap, cur, e, hB, hb, hnc, hcm, hcs, ht⟩
  · cases e
  · injection e with e1 e2 e3
    injection e1 with e1
    injection e1 with e1 _ _
    subst e1
    refine ⟨cur, hb, fun i hi => ?_⟩
    subst hl
    rw [List.length_map] at h1
    have h3 : (cur.toList.take (n * 1))[i]? = (l.map (Value.int .i64))[i]? := by rw [ht]
    rw [List.getElem?_take_of_lt (by omega), List.getElem?_map] at h3
    rw [← Array.getElem?_toList, h3]
    simp [List.getD_eq_getElem?_getD, List.getElem?_eq_getElem hi]
end Go.Proofs.YtoofnodcdlaheaaDoor
