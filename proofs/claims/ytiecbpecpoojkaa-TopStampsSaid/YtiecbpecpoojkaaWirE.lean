/- Contracts of layer 2: the specification's Append for nil and for errors; own rows read as bytes. -/
import Derived.Test.YtiecbpecpoojkaaWirD
namespace Go.Proofs.Ytiecbpecpoojkaa
open Go.RowKit Wi

/-- An own row of bytes reads as them. -/
theorem own_reads {w : World} {B n : Nat} {v : Value} {l : List Int} (h : w.ownsRow B 5 1 v n (l.map (Value.int .u8))) (hb : Bytes l) : ∃ A c, v = .slice A n c ∧ BReads w w.heap.size A n l ∧ (A = none → n = 0 ∧ c = 0) ∧ n ≤ c ∧ c ≤ 9223372036854775807 := by
  have hl : l.length = n := by have := h.1; rw [List.length_map, Nat.mul_one] at this; exact this
  rcases h.2 with ⟨rfl, rfl⟩ | ⟨g, cap, cur, rfl, _, hh, hc, hm, hs, ht⟩
  · obtain rfl : l = [] := List.eq_nil_of_length_eq_zero hl
    exact ⟨none, 0, rfl, BReads.nil, fun _ => ⟨rfl, rfl⟩, Nat.le_refl _, by omega⟩
  · refine ⟨some ⟨g, 0, none⟩, cap, rfl, ⟨hl, hb, fun _ => ⟨g, 0, rfl, ?_, fun i hi => ?_⟩⟩, (fun e => by cases e), hc, by unfold maxLen at hm; omega⟩
    · rcases Nat.lt_or_ge g w.heap.size with hlt | hge
      · exact hlt
      · rw [Array.getElem?_eq_none hge] at hh; cases hh
    · rw [Nat.zero_add]
      have h1 : (l.map (Value.int .u8))[i]? = some (.int .u8 (l.getD i 0)) := by
        rw [List.getElem?_map, List.getD_eq_getElem?_getD, List.getElem?_eq_getElem (by omega)]; rfl
      rw [← ht, List.getElem?_take, if_pos (by omega)] at h1
      simp only [World.cell?, hh]
      simpa using h1

end Go.Proofs.Ytiecbpecpoojkaa
