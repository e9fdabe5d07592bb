/- Contracts of layer 2: the specification's Append, slices.Clone. -/
import Derived.Test.YtiecbpecpoojkaaWirC
import Derived.Laws.AppendOwnNone
namespace Go.Proofs.Ytiecbpecpoojkaa
open Go.RowKit Wi

theorem empty_own (w : World) : (w.alloc (.cells #[] 5)).ownsRow w.heap.size 5 1 (.slice (some ⟨w.heap.size, 0, none⟩) 0 0) 0 [] :=
  World.ownsRow_made w #[] 0 (Nat.le_refl _) (Nat.zero_le _) rfl
theorem cells_add {w : World} {b off n : Nat} {l : List Int} (hl : l.length = n) (hc : ∀ i, i < n → w.cell? ⟨b, off + i, none⟩ = some (.int .u8 (l.getD i 0))) :
    ∀ j u, (l.map (Value.int .u8))[j]? = some u → w.cell? ((⟨b, off, none⟩ : Addr).add j) = some u := by
  intro j v hj
  rw [List.getElem?_map] at hj
  rcases hx : l[j]? with _ | x
  · rw [hx] at hj; cases hj
  · rw [hx] at hj
    injection hj with hj
    have hlt : j < n := by
      rw [← hl]
      rcases Nat.lt_or_ge j l.length with hlt | hge
      · exact hlt
      · rw [List.getElem?_eq_none hge] at hx; cases hx
    rw [Go.WideShapes.add_plain, hc j hlt, List.getD_eq_getElem?_getD, hx, ← hj]
    rfl
theorem BReads.alloc {w : World} {B : Nat} {A : Option Addr} {n : Nat} {l : List Int} (h : BReads w B A n l) (hB : B ≤ w.heap.size) (o : Obj) : BReads (w.alloc o) B A n l := h.keep fun p hp => World.cell?_alloc_lt w o p (by omega)
theorem BReads.add {w : World} {B : Nat} {ad : Addr} {n : Nat} {l : List Int} (h : BReads w B (some ad) n l) : ∀ j u, (l.map (Value.int .u8))[j]? = some u → w.cell? (ad.add j) = some u := by
  intro j u hj
  have hn : 0 < n := by
    rw [← h.1]
    rcases Nat.eq_zero_or_pos l.length with h0 | h0
    · rw [List.eq_nil_of_length_eq_zero h0] at hj; simp at hj
    · exact h0
  obtain ⟨b, off, e, _, hc⟩ := h.2.2 hn
  injection e with e
  subst e
  exact cells_add h.1 hc j u hj

end Go.Proofs.Ytiecbpecpoojkaa
