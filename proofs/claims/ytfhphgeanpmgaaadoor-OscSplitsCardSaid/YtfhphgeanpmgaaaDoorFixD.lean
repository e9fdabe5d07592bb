/- Contracts of layer 1: the library's product and quotient of two words. -/
import Derived.Test.YtfhphgeanpmgaaaDoorFixC
import Derived.Test.YtfhphgeanpmgaaaDoorFixO
namespace Go.Proofs.YtfhphgeanpmgaaaDoor
open Go.RowKit Fx

/-- How far y is shifted until its highest bit is set. -/
theorem bitLen_bounds (x : Nat) (h0 : x ≠ 0) (h : x < 2 ^ 64) : 1 ≤ Lib.bitLen x ∧ Lib.bitLen x ≤ 64 ∧ 2 ^ (Lib.bitLen x - 1) ≤ x ∧ x < 2 ^ Lib.bitLen x := by
  have one : ∀ z : Nat, z ≠ 0 → z < 2 ^ 64 → 1 ≤ Lib.bitLen z := fun z hz hz' => by rw [Lib.bitLen_half z hz hz']; omega
  have hb1 := one x h0 h
  have hb64 := Lib.bitLen_le x 64 (Nat.le_refl _) h
  refine ⟨hb1, hb64, ?_, ?_⟩
  · refine Nat.le_of_not_lt fun hlt => ?_
    have := Lib.bitLen_le x (Lib.bitLen x - 1) (by omega) hlt
    omega
  · refine Nat.lt_of_not_le fun hle => ?_
    have e := Lib.bitLen_shift (Lib.bitLen x) x hle h
    have hq : x / 2 ^ Lib.bitLen x ≠ 0 := by
      have := Nat.div_pos hle (Nat.pow_pos (by decide))
      omega
    have := one _ hq (Nat.lt_of_le_of_lt (Nat.div_le_self _ _) h)
    omega

end Go.Proofs.YtfhphgeanpmgaaaDoor
