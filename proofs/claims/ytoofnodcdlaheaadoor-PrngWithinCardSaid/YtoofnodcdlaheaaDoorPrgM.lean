/- The plain arithmetic of layer 8: the mixing of two numbers. No program in sight. -/
import Derived.Laws.Bits64
import Derived.Laws.BitsAllLaws
import Derived.Laws.BitsLemmas
import Derived.KernelRfl
namespace Go.Proofs.YtoofnodcdlaheaaDoor.Pr
open Go

/-- A step of the mixing: the high bits into the low ones, then a factor. -/
def stp (s c x : Nat) : Nat := (x ^^^ x / s) * c % 18446744073709551616
/-- The number that the mixing begins with. -/
def ini (a b : Int) : Int := (a + 11400714819323198485 * (b + 1)) % 18446744073709551616
/-- The mixing. -/
def xs0 (a b : Int) : Nat := (ini a b).toNat
def xs1 (a b : Int) : Nat := stp 1073741824 13787848793156543929 (xs0 a b)
def xs2 (a b : Int) : Nat := stp 134217728 10723151780598845931 (xs1 a b)
def xs3 (a b : Int) : Nat := stp 2147483648 1 (xs2 a b)
def mix (a b : Int) : Int := ((xs3 a b : Nat) : Int)

theorem xor_div_inj {s x y : Nat} (k : Nat) (hs : s = 2 ^ k) (hk : 0 < k) (h : x ^^^ x / s = y ^^^ y / s) : x = y := by
  subst hs
  have e : (x ^^^ y) = (x ^^^ y) >>> k := by
    rw [Nat.shiftRight_xor_distrib, Nat.shiftRight_eq_div_pow, Nat.shiftRight_eq_div_pow]
    have : (x ^^^ x / 2 ^ k) ^^^ (x / 2 ^ k ^^^ y) = (y ^^^ y / 2 ^ k) ^^^ (x / 2 ^ k ^^^ y) := by rw [h]
    have l : (x ^^^ x / 2 ^ k) ^^^ (x / 2 ^ k ^^^ y) = x ^^^ y := by
      rw [Nat.xor_assoc, ← Nat.xor_assoc (x / 2 ^ k), Nat.xor_self, Nat.zero_xor]
    have r : (y ^^^ y / 2 ^ k) ^^^ (x / 2 ^ k ^^^ y) = x / 2 ^ k ^^^ y / 2 ^ k := by
      rw [Nat.xor_comm y, Nat.xor_assoc, Nat.xor_comm (x / 2 ^ k) y, ← Nat.xor_assoc y, Nat.xor_self, Nat.zero_xor, Nat.xor_comm]
    rw [← l, this, r]
  rw [Nat.shiftRight_eq_div_pow] at e
  have hz : x ^^^ y = 0 := by
    rcases Nat.eq_zero_or_pos (x ^^^ y) with h0 | h0
    · exact h0
    · have := Nat.div_lt_self h0 (Nat.one_lt_two_pow (by omega : k ≠ 0))
      omega
  have : x ^^^ (x ^^^ y) = x ^^^ 0 := by rw [hz]
  rw [← Nat.xor_assoc, Nat.xor_self, Nat.zero_xor, Nat.xor_zero] at this
  exact this.symm

theorem stp_lt (s c x : Nat) : stp s c x < 18446744073709551616 := Nat.mod_lt _ (by decide)
theorem ini_in (a b : Int) : 0 ≤ ini a b ∧ ini a b < 18446744073709551616 := by unfold ini; omega
theorem xs0_lt (a b : Int) : xs0 a b < 18446744073709551616 := by unfold xs0; have := ini_in a b; omega
theorem xs1_lt (a b : Int) : xs1 a b < 18446744073709551616 := by unfold xs1; exact stp_lt _ _ _
theorem xs2_lt (a b : Int) : xs2 a b < 18446744073709551616 := by unfold xs2; exact stp_lt _ _ _
theorem xs3_lt (a b : Int) : xs3 a b < 18446744073709551616 := by unfold xs3; exact stp_lt _ _ _
theorem mix_in (a b : Int) : 0 ≤ mix a b ∧ mix a b < 18446744073709551616 := by
  have := xs3_lt a b
  unfold mix; omega

theorem xd_lt {x k : Nat} (h : x < 18446744073709551616) : x ^^^ x / k < 18446744073709551616 :=
  Nat.xor_lt_two_pow (n := 64) (by omega) (Nat.lt_of_le_of_lt (Nat.div_le_self _ _) (by omega))

theorem mul_inj {c d p q : Nat} (hcd : c * d % 18446744073709551616 = 1) (hp : p < 18446744073709551616) (hq : q < 18446744073709551616) (h : p * c % 18446744073709551616 = q * c % 18446744073709551616) : p = q := by
  have e : p * c * d % 18446744073709551616 = q * c * d % 18446744073709551616 := by rw [Nat.mul_mod (p * c), h, ← Nat.mul_mod]
  rw [Nat.mul_assoc, Nat.mul_assoc, Nat.mul_mod p, Nat.mul_mod q, hcd, Nat.mul_one, Nat.mul_one, Nat.mod_mod, Nat.mod_mod, Nat.mod_eq_of_lt hp, Nat.mod_eq_of_lt hq] at e
  exact e
theorem stp_inj1 {x y : Nat} (hx : x < 18446744073709551616) (hy : y < 18446744073709551616) (h : stp 1073741824 13787848793156543929 x = stp 1073741824 13787848793156543929 y) : x = y :=
  xor_div_inj (s := 1073741824) 30 (by decide) (by decide) (mul_inj (c := 13787848793156543929) (d := 10871156337175269513) (by decide) (xd_lt hx) (xd_lt hy) h)
theorem stp_inj2 {x y : Nat} (hx : x < 18446744073709551616) (hy : y < 18446744073709551616) (h : stp 134217728 10723151780598845931 x = stp 134217728 10723151780598845931 y) : x = y :=
  xor_div_inj (s := 134217728) 27 (by decide) (by decide) (mul_inj (c := 10723151780598845931) (d := 3573116690164977347) (by decide) (xd_lt hx) (xd_lt hy) h)
theorem stp_inj3 {x y : Nat} (hx : x < 18446744073709551616) (hy : y < 18446744073709551616) (h : stp 2147483648 1 x = stp 2147483648 1 y) : x = y :=
  xor_div_inj (s := 2147483648) 31 (by decide) (by decide) (mul_inj (c := 1) (d := 1) (by decide) (xd_lt hx) (xd_lt hy) h)
theorem lin_dif (a g b c : Int) : a + g * (b + 1) - (a + g * (c + 1)) = g * (b - c) := by
  rw [Int.mul_add, Int.mul_add, Int.mul_sub, Int.mul_one]; omega
theorem lin_inj {g i M K d k : Int} (hg : i * g - K * M = 1) (h : g * d = M * k) : d = M * (i * k - K * d) := by
  have e : (i * g - K * M) * d = d := by rw [hg, Int.one_mul]
  rw [Int.sub_mul, Int.mul_assoc i, h] at e
  rw [Int.mul_sub, ← Int.mul_assoc M i, Int.mul_comm M i, Int.mul_assoc i, ← Int.mul_assoc M K, Int.mul_comm M K]
  exact e.symm
theorem ini_inj {a b c : Int} (b0 : 0 ≤ b) (b1 : b < 18446744073709551616) (c0 : 0 ≤ c) (c1 : c < 18446744073709551616) (h : ini a b = ini a c) : b = c := by
  unfold ini at h
  obtain ⟨k, hk⟩ := Int.dvd_of_emod_eq_zero (Int.emod_eq_emod_iff_emod_sub_eq_zero.1 h)
  have e := lin_inj (i := 17428512612931826493) (K := 10771413168148108919) (g := 11400714819323198485) (d := b - c) (M := 18446744073709551616) (k := k) (by kernel_rfl) ((lin_dif a _ b c).symm.trans hk)
  clear hk h
  generalize 17428512612931826493 * k - 10771413168148108919 * (b - c) = m at e
  omega
theorem mix_inj {a b c : Int} (b0 : 0 ≤ b) (b1 : b < 18446744073709551616) (c0 : 0 ≤ c) (c1 : c < 18446744073709551616) (h : mix a b = mix a c) : b = c := by
  have hb := ini_in a b
  have hc := ini_in a c
  refine ini_inj b0 b1 c0 c1 (a := a) ?_
  have h3 : xs3 a b = xs3 a c := by unfold mix at h; omega
  unfold xs3 at h3
  have h2 := stp_inj3 (xs2_lt a b) (xs2_lt a c) h3
  unfold xs2 at h2
  have h1 := stp_inj2 (xs1_lt a b) (xs1_lt a c) h2
  unfold xs1 at h1
  have h0 := stp_inj1 (xs0_lt a b) (xs0_lt a c) h1
  unfold xs0 at h0
  omega
/-- A seed that is one step on. -/
theorem mix_next (a b : Int) : mix ((a + 11400714819323198485) % 18446744073709551616) b = mix a ((b + 1) % 18446744073709551616) := by
  have e : xs0 ((a + 11400714819323198485) % 18446744073709551616) b = xs0 a ((b + 1) % 18446744073709551616) := by
    unfold xs0
    have : ini ((a + 11400714819323198485) % 18446744073709551616) b = ini a ((b + 1) % 18446744073709551616) := by unfold ini; omega
    rw [this]
  unfold mix xs3 xs2 xs1
  rw [e]
theorem ini_w (a b : Int) : IntKind.u64.wrap (a + IntKind.u64.wrap (11400714819323198485 * IntKind.u64.wrap (b + 1))) = ((xs0 a b : Nat) : Int) := by
  have h := ini_in a b
  unfold xs0
  rw [Int.toNat_of_nonneg h.1]
  unfold ini
  rw [IntKind.wrap_u64, IntKind.wrap_u64, IntKind.wrap_u64]
  omega
theorem stp_w1 {x : Nat} (h : x < 18446744073709551616) : IntKind.u64.wrap (bits .xor .u64 (x : Int) ((x : Int) / 1073741824) * 13787848793156543929) = ((stp 1073741824 13787848793156543929 x : Nat) : Int) := mixStep_u64 x 1073741824 13787848793156543929 h
theorem stp_w2 {x : Nat} (h : x < 18446744073709551616) : IntKind.u64.wrap (bits .xor .u64 (x : Int) ((x : Int) / 134217728) * 10723151780598845931) = ((stp 134217728 10723151780598845931 x : Nat) : Int) := mixStep_u64 x 134217728 10723151780598845931 h
theorem stp_w3 {x : Nat} (h : x < 18446744073709551616) : bits .xor .u64 (x : Int) ((x : Int) / 2147483648) = ((stp 2147483648 1 x : Nat) : Int) := by
  refine (xorShift_u64 x 2147483648 h).trans ?_
  have := xd_lt (k := 2147483648) h
  unfold stp
  rw [Nat.mul_one, Nat.mod_eq_of_lt this]
theorem stp_w4 {x : Nat} (h : x < 18446744073709551616) : IntKind.u64.wrap (bits .xor .u64 (x : Int) ((x : Int) / 2147483648)) = ((stp 2147483648 1 x : Nat) : Int) := by
  have := stp_lt 2147483648 1 x
  rw [stp_w3 h, IntKind.wrap_u64]
  omega
theorem mix_w' (a b I : Int) (h : I = ((xs0 a b : Nat) : Int)) : bits .xor .u64 (IntKind.u64.wrap (bits .xor .u64 (IntKind.u64.wrap (bits .xor .u64 (I) (I / 1073741824) * 13787848793156543929)) (IntKind.u64.wrap (bits .xor .u64 (I) (I / 1073741824) * 13787848793156543929) / 134217728) * 10723151780598845931)) (IntKind.u64.wrap (bits .xor .u64 (IntKind.u64.wrap (bits .xor .u64 (I) (I / 1073741824) * 13787848793156543929)) (IntKind.u64.wrap (bits .xor .u64 (I) (I / 1073741824) * 13787848793156543929) / 134217728) * 10723151780598845931) / 2147483648) = mix a b := by
  subst h
  rw [stp_w1 (xs0_lt a b)]
  change bits .xor .u64 (IntKind.u64.wrap (bits .xor .u64 ((xs1 a b : Nat) : Int) (((xs1 a b : Nat) : Int) / 134217728) * 10723151780598845931)) (IntKind.u64.wrap (bits .xor .u64 ((xs1 a b : Nat) : Int) (((xs1 a b : Nat) : Int) / 134217728) * 10723151780598845931) / 2147483648) = _
  rw [stp_w2 (xs1_lt a b)]
  change bits .xor .u64 ((xs2 a b : Nat) : Int) (((xs2 a b : Nat) : Int) / 2147483648) = _
  rw [stp_w3 (xs2_lt a b)]
  rfl
theorem mix_w (a b : Int) : bits .xor .u64 (IntKind.u64.wrap (bits .xor .u64 (IntKind.u64.wrap (bits .xor .u64 (IntKind.u64.wrap (a + IntKind.u64.wrap (11400714819323198485 * IntKind.u64.wrap (b + 1)))) ((IntKind.u64.wrap (a + IntKind.u64.wrap (11400714819323198485 * IntKind.u64.wrap (b + 1)))) / 1073741824) * 13787848793156543929)) (IntKind.u64.wrap (bits .xor .u64 (IntKind.u64.wrap (a + IntKind.u64.wrap (11400714819323198485 * IntKind.u64.wrap (b + 1)))) ((IntKind.u64.wrap (a + IntKind.u64.wrap (11400714819323198485 * IntKind.u64.wrap (b + 1)))) / 1073741824) * 13787848793156543929) / 134217728) * 10723151780598845931)) (IntKind.u64.wrap (bits .xor .u64 (IntKind.u64.wrap (bits .xor .u64 (IntKind.u64.wrap (a + IntKind.u64.wrap (11400714819323198485 * IntKind.u64.wrap (b + 1)))) ((IntKind.u64.wrap (a + IntKind.u64.wrap (11400714819323198485 * IntKind.u64.wrap (b + 1)))) / 1073741824) * 13787848793156543929)) (IntKind.u64.wrap (bits .xor .u64 (IntKind.u64.wrap (a + IntKind.u64.wrap (11400714819323198485 * IntKind.u64.wrap (b + 1)))) ((IntKind.u64.wrap (a + IntKind.u64.wrap (11400714819323198485 * IntKind.u64.wrap (b + 1)))) / 1073741824) * 13787848793156543929) / 134217728) * 10723151780598845931) / 2147483648) = mix a b := mix_w' a b _ (ini_w a b)
theorem mix_zero : mix 0 0 = 16294208416658607535 := by kernel_rfl
end Go.Proofs.YtoofnodcdlaheaaDoor.Pr
