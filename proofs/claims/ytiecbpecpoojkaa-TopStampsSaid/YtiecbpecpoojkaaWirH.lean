/- Contracts of layer 2: the program's reader: bytes that are taken, skipped; a new reader. -/
import Derived.Test.YtiecbpecpoojkaaWirG
namespace Go.Proofs.Ytiecbpecpoojkaa
open Go.RowKit Wi

theorem BReads.tail' {w : World} {B : Nat} {ad : Addr} {n c k : Nat} {l : List Int} (h : BReads w B (some ad) n l) (hk : k ≤ n) (hc : n ≤ c) :
    BReads w B (if c = k then some ad else some (ad.add k)) (n - k) (l.drop k) := by
  by_cases hn : n - k = 0
  · have hl : l.drop k = [] := List.drop_eq_nil_of_le (by have := h.1; omega)
    rw [hn, hl]; exact BReads.nil
  · obtain ⟨b, off, e, _, _⟩ := h.2.2 (by omega)
    injection e with e
    subst e
    rw [Go.WideShapes.add_plain]
    exact h.tail hk hc

/-- What take leaves: the value that it returns reads as what was taken. -/
def TakePost (l : List Int) (err n : Int) (g : Nat) (w : World) (e : Ending) (w' : World) : Prop :=
  ∃ A c, e = .returned (.slice A (takeV l err n).length c) ∧ BReads w' g A (takeV l err n).length (takeV l err n) ∧ (A = none → c = 0) ∧ (takeV l err n).length ≤ c ∧ c ≤ 9223372036854775807 ∧ PRd w' g (takeL l err n) (takeE l err n) ∧ w.grownBy w' (some g)

end Go.Proofs.Ytiecbpecpoojkaa
