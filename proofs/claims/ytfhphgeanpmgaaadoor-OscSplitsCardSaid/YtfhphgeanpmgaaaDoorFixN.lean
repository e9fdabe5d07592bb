/- The plain arithmetic of the divisions of two words: no program in sight. -/
import Derived.Test.YtfhphgeanpmgaaaDoorFixM
import Derived.Laws.BitsAllLaws
import Derived.Lib.BitFns
namespace Go.Proofs.YtfhphgeanpmgaaaDoor.Fx
open Go

theorem u64_or_add {a b : Int} (i : Nat) (h0 : 0 ≤ a) (h1 : a < 18446744073709551616) (h2 : 0 ≤ b) (h3 : b < 18446744073709551616) (hd : a.toNat % 2 ^ i = 0) (hb : b.toNat < 2 ^ i) :
    bits .or .u64 a b = a + b := by
  rw [u64_or a b h0 h1 h2 h3, nat_join i _ _ hd hb]
  omega

theorem shl_or {a b : Int} (h0 : 0 ≤ b) (h1 : b < 18446744073709551616) : bits .or .u64 (IntKind.u64.wrap (a * 2)) (b / 9223372036854775808) = a * 2 % 18446744073709551616 + b / 9223372036854775808 := by
  rw [IntKind.wrap_u64]
  exact u64_or_add 1 (by omega) (by omega) (by omega) (by omega) (by omega) (by omega)

theorem shl_or1 {a : Int} : bits .or .u64 (IntKind.u64.wrap (a * 2)) 1 = a * 2 % 18446744073709551616 + 1 := by
  rw [IntKind.wrap_u64]
  exact u64_or_add 1 (by omega) (by omega) (by omega) (by omega) (by omega) (by omega)

theorem u64_mask (a : Int) (h0 : 0 ≤ a) (h1 : a < 18446744073709551616) : bits .and .u64 a 4294967295 = a % 4294967296 := by
  rw [u64_and a _ h0 h1 (by decide) (by decide)]
  have : a.toNat &&& (4294967295 : Int).toNat = a.toNat % 4294967296 := Nat.and_two_pow_sub_one_eq_mod _ 32
  rw [this]; omega

/-- 2^(128 - k) and 2^k. -/
def pw (k : Nat) : Int := 2 ^ (128 - k)
def gw (k : Nat) : Int := 2 ^ k
theorem pw_succ {k : Nat} (h : k < 128) : pw k = 2 * pw (k + 1) := by
  unfold pw
  rw [show 128 - k = (128 - (k + 1)) + 1 from by omega, Int.pow_succ, Int.mul_comm]
theorem gw_succ (k : Nat) : gw (k + 1) = 2 * gw k := by
  unfold gw; rw [Int.pow_succ, Int.mul_comm]
theorem pw_pos (k : Nat) : 0 < pw k := Int.pow_pos (by decide)
theorem gw_pos (k : Nat) : 0 < gw k := Int.pow_pos (by decide)
theorem pw_gw {k : Nat} (h : k < 128) : pw (k + 1) * gw k = 170141183460469231731687303715884105728 := by
  unfold pw gw
  rw [← Int.pow_add, show 128 - (k + 1) + k = 127 from by omega]; decide

/-- What holds after k rounds of the division, bit by bit, of X by c. -/
def DivInv (X c : Int) (k : Nat) (H L Q1 Q0 R : Int) : Prop :=
  (0 ≤ H ∧ H < 18446744073709551616 ∧ 0 ≤ L ∧ L < 18446744073709551616 ∧ 0 ≤ Q1 ∧ Q1 < 18446744073709551616 ∧ 0 ≤ Q0 ∧ Q0 < 18446744073709551616 ∧ 0 ≤ R ∧ R < c) ∧
  ∃ T S : Int, X = T * pw k + S ∧ 0 ≤ S ∧ S < pw k ∧ H * 18446744073709551616 + L = S * gw k ∧ T = (Q1 * 18446744073709551616 + Q0) * c + R ∧ 0 ≤ T

theorem div_start {hi lo c : Int} (h0 : 0 ≤ hi) (h1 : hi ≤ 18446744073709551615) (h2 : 0 ≤ lo) (h3 : lo ≤ 18446744073709551615) (hc : 0 < c) :
    DivInv (hi * 18446744073709551616 + lo) c 0 hi lo 0 0 0 := by
  refine ⟨⟨h0, by omega, h2, by omega, by omega, by omega, by omega, by omega, by omega, hc⟩, 0, hi * 18446744073709551616 + lo, by omega, by omega, ?_, ?_, by omega, by omega⟩
  · show _ < pw 0
    have : pw 0 = 340282366920938463463374607431768211456 := by unfold pw; decide
    omega
  · have : gw 0 = 1 := rfl
    rw [this]; omega

theorem div_round {X c : Int} {k : Nat} {H L Q1 Q0 R : Int} (hX : X < 340282366920938463463374607431768211456) (hc : 0 < c) (hk : k < 128) (h : DivInv X c k H L Q1 Q0 R) (b : Int) (hb : b = 0 ∨ b = 1)
    (hr0 : 0 ≤ R * 2 + H / 9223372036854775808 - b * c) (hr1 : R * 2 + H / 9223372036854775808 - b * c < c) :
    DivInv X c (k + 1) (H * 2 % 18446744073709551616 + L / 9223372036854775808) (L * 2 % 18446744073709551616) (Q1 * 2 % 18446744073709551616 + Q0 / 9223372036854775808) (Q0 * 2 % 18446744073709551616 + b) (R * 2 + H / 9223372036854775808 - b * c) := by
  obtain ⟨⟨h1, h2, h3, h4, h5, h6, h7, h8, h9, h10⟩, T, S, e1, e2, e3, e4, e5, e6⟩ := h
  have ps := pw_succ hk
  have gs := gw_succ k
  have pg := pw_gw hk
  have pp := pw_pos (k + 1)
  have gp := gw_pos k
  generalize hs : H / 9223372036854775808 = s at *
  have hs01 : s = 0 ∨ s = 1 := by omega
  -- the next bit of X
  have hbit : S - s * pw (k + 1) ≥ 0 ∧ S - s * pw (k + 1) < pw (k + 1) := by
    rcases hs01 with rfl | rfl
    · refine ⟨by omega, ?_⟩
      have : S * gw k < pw (k + 1) * gw k := by rw [pg, ← e4]; omega
      have := Int.lt_of_mul_lt_mul_right this (by omega)
      omega
    · have : pw (k + 1) * gw k ≤ S * gw k := by rw [pg, ← e4]; omega
      have := Int.le_of_mul_le_mul_right this gp
      omega
  have hT : X = (2 * T + s) * pw (k + 1) + (S - s * pw (k + 1)) := by rw [e1, ps, Int.add_mul]; rw [show T * (2 * pw (k + 1)) = 2 * T * pw (k + 1) from by rw [← Int.mul_assoc, Int.mul_comm T 2]]; omega
  have hQ : 2 * T + s = (2 * (Q1 * 18446744073709551616 + Q0) + b) * c + (R * 2 + s - b * c) := by
    rw [e5]
    generalize Q1 * 18446744073709551616 + Q0 = Q
    rw [Int.add_mul, Int.mul_assoc]; omega
  have hTX : 2 * T + s ≤ X := by
    rw [hT]
    have : (2 * T + s) * 1 ≤ (2 * T + s) * pw (k + 1) := Int.mul_le_mul_of_nonneg_left (by omega) (by omega)
    omega
  have hq : 2 * (Q1 * 18446744073709551616 + Q0) + b < 340282366920938463463374607431768211456 := by
    have : (2 * (Q1 * 18446744073709551616 + Q0) + b) * 1 ≤ (2 * (Q1 * 18446744073709551616 + Q0) + b) * c := Int.mul_le_mul_of_nonneg_left (by omega) (by omega)
    omega
  have hb0 : Q0 * 2 % 18446744073709551616 + b < 18446744073709551616 := by omega
  refine ⟨⟨by omega, by omega, by omega, by omega, by omega, by omega, by omega, hb0, hr0, hr1⟩, 2 * T + s, S - s * pw (k + 1), hT, hbit.1, hbit.2, ?_, ?_, by omega⟩
  · rw [gs, Int.sub_mul]
    have a1 : S * (2 * gw k) = 2 * (S * gw k) := by rw [← Int.mul_assoc, Int.mul_comm S 2, Int.mul_assoc]
    have a2 : s * pw (k + 1) * (2 * gw k) = 2 * (s * (pw (k + 1) * gw k)) := by rw [Int.mul_assoc, ← Int.mul_assoc (pw (k + 1)), Int.mul_comm (pw (k + 1)) 2, Int.mul_assoc, ← Int.mul_assoc s, Int.mul_comm s 2, Int.mul_assoc]
    rw [a1, a2, pg, ← e4]
    omega
  · rw [hQ]
    congr 2
    omega

theorem div_end {X c : Int} {H L Q1 Q0 R : Int} (h : DivInv X c 128 H L Q1 Q0 R) : Q1 = X / c / 18446744073709551616 ∧ Q0 = X / c % 18446744073709551616 ∧ R = X % c := by
  obtain ⟨⟨h1, h2, h3, h4, h5, h6, h7, h8, h9, h10⟩, T, S, e1, e2, e3, e4, e5, e6⟩ := h
  have : pw 128 = 1 := rfl
  rw [this] at e1 e3
  have hS : S = 0 := by omega
  obtain ⟨a, b⟩ := div_unique (x := X) (d := c) (q := Q1 * 18446744073709551616 + Q0) (r := R) (by rw [e1, e5, hS]; omega) h9 h10
  rw [a, b]
  omega

/-! ### The product of two words -/
theorem product_parts (a b : Int) (h0 : 0 ≤ a) (h1 : a ≤ 18446744073709551615) (h2 : 0 ≤ b) (h3 : b ≤ 18446744073709551615) :
    a * b = (a / 4294967296) * (b / 4294967296) * 18446744073709551616 + ((a / 4294967296) * (b % 4294967296) + (a % 4294967296) * (b / 4294967296)) * 4294967296 + (a % 4294967296) * (b % 4294967296) ∧
    (0 ≤ (a / 4294967296) * (b / 4294967296) ∧ (a / 4294967296) * (b / 4294967296) ≤ 18446744065119617025) ∧ (0 ≤ (a / 4294967296) * (b % 4294967296) ∧ (a / 4294967296) * (b % 4294967296) ≤ 18446744065119617025) ∧
    (0 ≤ (a % 4294967296) * (b / 4294967296) ∧ (a % 4294967296) * (b / 4294967296) ≤ 18446744065119617025) ∧ (0 ≤ (a % 4294967296) * (b % 4294967296) ∧ (a % 4294967296) * (b % 4294967296) ≤ 18446744065119617025) := by
  have bd : ∀ x y : Int, 0 ≤ x → x ≤ 4294967295 → 0 ≤ y → y ≤ 4294967295 → 0 ≤ x * y ∧ x * y ≤ 18446744065119617025 := fun x y a b c d =>
    ⟨Int.mul_nonneg a c, Int.le_trans (Int.mul_le_mul b d c (by omega)) (by decide)⟩
  refine ⟨?_, bd _ _ (by omega) (by omega) (by omega) (by omega), bd _ _ (by omega) (by omega) (by omega) (by omega), bd _ _ (by omega) (by omega) (by omega) (by omega), bd _ _ (by omega) (by omega) (by omega) (by omega)⟩
  have ea : a = (a / 4294967296) * 4294967296 + a % 4294967296 := by omega
  have eb : b = (b / 4294967296) * 4294967296 + b % 4294967296 := by omega
  generalize a / 4294967296 = a1 at *
  generalize a % 4294967296 = a0 at *
  generalize b / 4294967296 = b1 at *
  generalize b % 4294967296 = b0 at *
  rw [ea, eb, Int.add_mul, Int.mul_add, Int.mul_add]
  have e1 : a1 * 4294967296 * (b1 * 4294967296) = (a1 * b1) * 18446744073709551616 := by
    rw [Int.mul_assoc, ← Int.mul_assoc 4294967296, Int.mul_comm 4294967296 b1, Int.mul_assoc, ← Int.mul_assoc a1]; rfl
  have e2 : a1 * 4294967296 * b0 = (a1 * b0) * 4294967296 := by rw [Int.mul_assoc, Int.mul_comm 4294967296 b0, ← Int.mul_assoc]
  have e3 : a0 * (b1 * 4294967296) = (a0 * b1) * 4294967296 := by rw [← Int.mul_assoc]
  rw [e1, e2, e3]
  omega
end Go.Proofs.YtfhphgeanpmgaaaDoor.Fx
