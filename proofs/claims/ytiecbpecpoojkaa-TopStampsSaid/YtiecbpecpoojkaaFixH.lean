/- Contracts of layer 1: the nearest integer and rates. -/
import Derived.Test.YtiecbpecpoojkaaFixG
namespace Go.Proofs.Ytiecbpecpoojkaa
open Go.RowKit Fx

theorem Fx.tmod2 {q : Int} : q.tmod 2 = 0 ↔ q % 2 = 0 :=
  ⟨fun h => Int.emod_eq_zero_of_dvd (Int.dvd_of_tmod_eq_zero h), fun h => Int.tmod_eq_zero_of_dvd (Int.dvd_of_emod_eq_zero h)⟩

/-- What the nearest integer goes by: the quotient q, what is cut off (C) and whether q is odd. -/
theorem Fx.near_parts {a b : Int} (h0 : -9223372036854775808 ≤ a) (h1 : a ≤ 9223372036854775807) (h2 : -9223372036854775808 ≤ b) (h3 : b ≤ 9223372036854775807) (hq : qok a b = true) :
    ∃ q r C : Int, flo a b = q ∧ a - q * b = r ∧ mag r = C ∧ -9223372036854775808 ≤ q ∧ q ≤ 9223372036854775807 ∧ -9223372036854775808 ≤ r ∧ r ≤ 9223372036854775807 ∧ 0 ≤ C ∧ C < mag b ∧
      (0 < C → okI (q + 1) = true) ∧ nearI a b = (if mag b < 2 * C ∨ (2 * C = mag b ∧ q % 2 ≠ 0) then q + 1 else q) ∧ wrap64 (a - wrap64 (q * b)) = r := by
  obtain ⟨hb, c1, c2⟩ := qok_iff.1 hq
  have hC := cut_lt a b hb
  have mb := mag_le h2 h3
  have rr : -9223372036854775808 ≤ a - flo a b * b ∧ a - flo a b * b ≤ 9223372036854775807 := by
    have : mag (a - flo a b * b) < 9223372036854775808 := by omega
    unfold mag at this; split at this <;> omega
  refine ⟨flo a b, a - flo a b * b, mag (a - flo a b * b), rfl, rfl, rfl, c1, c2, rr.1, rr.2, mag_nonneg _, hC, fun h => ?_, rfl, ?_⟩
  · refine (flo_next hb h0 h1 h2 h3 hq fun he => ?_).1
    rw [he, Int.sub_self] at h
    exact absurd h (by decide)
  · unfold wrap64; omega

end Go.Proofs.Ytiecbpecpoojkaa
