/- Contracts of layer 5: Check of the specification. -/
import Derived.Test.YtegpajdahanhfaaGreatDoorCivA
import Derived.Deep.RegionHeld3
import Derived.BigQuiet
namespace Go.Proofs.YtegpajdahanhfaaGreatDoor
open Go.RowKit Fx Cv

/-- A valid civil time. -/
def Cv.okC (y m d hh mi s n : Int) : Bool := decide (1600 ≤ y ∧ y ≤ 2200 ∧ 1 ≤ m ∧ m ≤ 12 ∧ 1 ≤ d ∧ d ≤ md y m ∧ 0 ≤ hh ∧ hh ≤ 23 ∧ 0 ≤ mi ∧ mi ≤ 59 ∧ 0 ≤ s ∧ s ≤ 59 ∧ 0 ≤ n ∧ n ≤ 999999999)
/-- What Check returns. -/
def Cv.chkC (y m d hh mi s n : Int) : Int := if okC y m d hh mi s n = true then 0 else 3
theorem Cv.okC_iff {y m d hh mi s n : Int} : okC y m d hh mi s n = true ↔ (1600 ≤ y ∧ y ≤ 2200 ∧ 1 ≤ m ∧ m ≤ 12 ∧ 1 ≤ d ∧ d ≤ md y m ∧ 0 ≤ hh ∧ hh ≤ 23 ∧ 0 ≤ mi ∧ mi ≤ 59 ∧ 0 ≤ s ∧ s ≤ 59 ∧ 0 ≤ n ∧ n ≤ 999999999) := by simp [okC]
theorem Cv.chk_ok {y m d hh mi s n : Int} (h : okC y m d hh mi s n = true) : chkC y m d hh mi s n = 0 := by unfold chkC; rw [if_pos h]
theorem Cv.chk_no {y m d hh mi s n : Int} (h : ¬ (1600 ≤ y ∧ y ≤ 2200 ∧ 1 ≤ m ∧ m ≤ 12 ∧ 1 ≤ d ∧ d ≤ md y m ∧ 0 ≤ hh ∧ hh ≤ 23 ∧ 0 ≤ mi ∧ mi ≤ 59 ∧ 0 ≤ s ∧ s ≤ 59 ∧ 0 ≤ n ∧ n ≤ 999999999)) : chkC y m d hh mi s n = 3 := by
  unfold chkC; rw [if_neg (fun k => h (okC_iff.1 k))]
theorem Cv.seven_cells {w : World} {g : Nat} {a b c d e f k : Value} {t : TypeId} (h : w.heap[g]? = some (.cells #[a, b, c, d, e, f, k] t (0, 0))) :
    w.cell? ⟨g, 0, none⟩ = some a ∧ w.cell? ⟨g, 1, none⟩ = some b ∧ w.cell? ⟨g, 2, none⟩ = some c ∧ w.cell? ⟨g, 3, none⟩ = some d ∧ w.cell? ⟨g, 4, none⟩ = some e ∧ w.cell? ⟨g, 5, none⟩ = some f ∧ w.cell? ⟨g, 6, none⟩ = some k := by
  simp [World.cell?, h]

end Go.Proofs.YtegpajdahanhfaaGreatDoor
