/- Contracts of layer 1: rates and the square root. -/
import Derived.Test.YtiecbpecpoojkaaFixH
namespace Go.Proofs.Ytiecbpecpoojkaa
open Go.RowKit Fx

/-- May p be parts per billion? -/
def Fx.rOk (p : Int) : Bool := decide (-500000 ≤ p ∧ p ≤ 500000)
theorem Fx.rOk_iff {p : Int} : rOk p = true ↔ (-500000 ≤ p ∧ p ≤ 500000) := by simp [rOk]
theorem Fx.rOk_iff' {p : Int} : rOk p = false ↔ ¬(-500000 ≤ p ∧ p ≤ 500000) := by simp [rOk]

/-- s is the square root of n, rounded down. -/
def Fx.IsRoot (n s : Int) : Prop := 0 ≤ s ∧ s * s ≤ n ∧ n < (s + 1) * (s + 1)

theorem Fx.sq_le {x y : Int} (h0 : 0 ≤ x) (h : x ≤ y) : x * x ≤ y * y := Int.mul_le_mul h h h0 (by omega)

/-- What holds of the root's highest k bits. -/
def Fx.RootInv (s : Int) (k : Nat) (R : Int) : Prop := 0 ≤ R ∧ R ≤ s ∧ s < R + 2 ^ (32 - k) ∧ ∃ m : Nat, R = ((m * 2 ^ (32 - k) : Nat) : Int)

theorem Fx.root_small {n s : Int} (h1 : n ≤ 9223372036854775807) (hs : IsRoot n s) : s < 4294967296 := by
  refine Int.lt_of_not_ge fun hge => ?_
  have := sq_le (by decide) hge
  have := hs.2.1
  omega

theorem Fx.root_bit {n s R : Int} {k : Nat} (h1 : n ≤ 9223372036854775807) (hs : IsRoot n s) (hk : k < 32) (h : RootInv s k R) :
    ∃ L : Int, bits .or .u64 R (IntKind.u64.wrap (2 ^ (31 - k))) = L ∧ 0 ≤ L ∧ L < 4294967296 ∧ (0 ≤ L * L ∧ L * L ≤ 18446744073709551615) ∧ (L * L ≤ n → RootInv s (k + 1) L) ∧ (n < L * L → RootInv s (k + 1) R) := by
  obtain ⟨i1, i2, i3, m, i4⟩ := h
  have hs4 := root_small h1 hs
  obtain ⟨s1, s2, s3⟩ := hs
  have e32 : 32 - k = (31 - k) + 1 := by omega
  have pn : ((2 ^ (31 - k) : Nat) : Int) = 2 ^ (31 - k) := by rw [Int.natCast_pow]; rfl
  have p0 : 0 < 2 ^ (31 - k) := Nat.pow_pos (by decide)
  have p1 : 2 ^ (31 - k) ≤ 2 ^ 31 := Nat.pow_le_pow_right (by decide) (by omega)
  have hp : (2 : Int) ^ (32 - k) = 2 * ((2 ^ (31 - k) : Nat) : Int) := by rw [e32, Int.pow_succ, ← pn, Int.mul_comm]
  have hp2 : 2 ^ (32 - k) = 2 * 2 ^ (31 - k) := by rw [e32, Nat.pow_succ, Nat.mul_comm]
  have hk1 : 32 - (k + 1) = 31 - k := by omega
  rw [hp] at i3
  -- R ends before 2^32
  have hR : R + ((2 ^ (31 - k) : Nat) : Int) < 4294967296 := by
    have h3 : m * 2 ^ (32 - k) < 2 ^ k * 2 ^ (32 - k) := by
      rw [← Nat.pow_add, show k + (32 - k) = 32 from by omega]
      omega
    have h4 := Nat.lt_of_mul_lt_mul_right h3
    have h5 : (m + 1) * 2 ^ (32 - k) ≤ 2 ^ k * 2 ^ (32 - k) := Nat.mul_le_mul_right _ h4
    rw [← Nat.pow_add, show k + (32 - k) = 32 from by omega, Nat.add_mul, Nat.one_mul] at h5
    rw [i4]
    omega
  have hw : IntKind.u64.wrap (2 ^ (31 - k)) = ((2 ^ (31 - k) : Nat) : Int) := by rw [← pn, IntKind.wrap_u64]; omega
  have hor : bits .or .u64 R ((2 ^ (31 - k) : Nat) : Int) = R + ((2 ^ (31 - k) : Nat) : Int) := by
    refine u64_or_add (32 - k) i1 (by omega) (by omega) (by omega) ?_ ?_
    · rw [i4, Int.toNat_natCast]; exact Nat.mul_mod_left _ _
    · rw [Int.toNat_natCast, hp2]; omega
  rw [hw, hor]
  obtain ⟨B, hB⟩ : ∃ B, 2 ^ (31 - k) = B := ⟨_, rfl⟩
  have hsq : (R + (B : Int)) * (R + (B : Int)) ≤ 4294967295 * 4294967295 := sq_le (by omega) (by omega)
  refine ⟨_, rfl, by omega, by omega, ⟨Int.mul_nonneg (by omega) (by omega), by rw [hB]; omega⟩, fun hle => ?_, fun hlt => ?_⟩
  · have hLs : R + ((2 ^ (31 - k) : Nat) : Int) ≤ s := by
      refine Int.not_lt.1 fun hlt => ?_
      have := sq_le (x := s + 1) (by omega) (show s + 1 ≤ R + ((2 ^ (31 - k) : Nat) : Int) by omega)
      omega
    refine ⟨by omega, hLs, by rw [hk1, ← pn]; omega, 2 * m + 1, ?_⟩
    rw [hk1, i4, hp2, Nat.add_mul, Nat.one_mul, Nat.mul_assoc, Nat.mul_left_comm]
    omega
  · have hLs : s < R + ((2 ^ (31 - k) : Nat) : Int) := by
      refine Int.lt_of_not_ge fun hge => ?_
      have := sq_le (x := R + ((2 ^ (31 - k) : Nat) : Int)) (by omega) hge
      omega
    refine ⟨i1, i2, by rw [hk1, ← pn]; omega, 2 * m, ?_⟩
    rw [hk1, i4, hp2, Nat.mul_assoc, Nat.mul_left_comm]

theorem Fx.root_exists (n : Nat) : ∃ s : Nat, s * s ≤ n ∧ n < (s + 1) * (s + 1) := by
  induction n with
  | zero => exact ⟨0, by decide, by decide⟩
  | succ n ih =>
    obtain ⟨s, a, b⟩ := ih
    by_cases h : n + 1 < (s + 1) * (s + 1)
    · exact ⟨s, by omega, h⟩
    · refine ⟨s + 1, by omega, ?_⟩
      have : (s + 1) * (s + 1) < (s + 1 + 1) * (s + 1 + 1) := by
        have := Nat.mul_lt_mul_of_lt_of_le (show s + 1 < s + 1 + 1 by omega) (show s + 1 ≤ s + 1 + 1 by omega) (by omega)
        exact this
      omega
theorem Fx.isRoot_exists (n : Int) (h : 0 ≤ n) : ∃ s, IsRoot n s := by
  obtain ⟨m, rfl⟩ := Int.eq_ofNat_of_zero_le h
  obtain ⟨s, a, b⟩ := root_exists m
  exact ⟨s, by omega, by exact_mod_cast a, by exact_mod_cast b⟩
end Go.Proofs.Ytiecbpecpoojkaa
