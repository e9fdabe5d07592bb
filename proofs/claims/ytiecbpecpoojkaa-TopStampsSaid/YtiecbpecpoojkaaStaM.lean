/- The plain arithmetic of layer 3: units of 2^-32 s. No program in sight. -/
import Derived.Laws.BitsAllLaws
import Derived.Laws.BitsLemmas
namespace Go.Proofs.Ytiecbpecpoojkaa.St
open Go

/-- The units of a number of nanoseconds. -/
def uni (t : Int) : Int := t * 4294967296 / 1000000000
/-- The timestamp of an instant. -/
def ofI (t : Int) : Int := uni t % 18446744073709551616
/-- The difference of two timestamps. -/
def dif (a b : Int) : Int := (a - b + 9223372036854775808) % 18446744073709551616 - 9223372036854775808
/-- Units in nanoseconds, rounded up. -/
def cei (u : Int) : Int := (u * 1000000000 + 4294967295) / 4294967296
/-- The instant of a timestamp that is nearest to a pivot. -/
def tim (s p : Int) : Int := cei (uni p + dif s (ofI p))
/-- The error of Time. -/
def timE (s p : Int) : Int := if p < -8000000000000000000 ∨ 8000000000000000000 < p then 2 else if tim s p < -8000000000000000000 ∨ 8000000000000000000 < tim s p then 3 else 0
def timV (s p : Int) : Int := if timE s p = 0 then tim s p else 0
/-- The era of an instant. -/
def era (t : Int) : Int := t / 4294967296000000000
/-- Are the units an int? -/
def unOk (t : Int) : Bool := decide (-2147483648000000000 ≤ t ∧ t < 2147483648000000000)
def unV (t : Int) : Int := if unOk t = true then uni t else 0
/-- A duration in the short form. -/
def sho (t : Int) : Int := (t * 65536 + 999999999) / 1000000000
def shoE (t : Int) : Int := if t < 0 ∨ 4294967295 < sho t then 3 else 0
def shoV (t : Int) : Int := if shoE t = 0 then sho t else 0
def lon (s : Int) : Int := (s * 1000000000 + 65535) / 65536

theorem i64_mask32 (n : Int) : bits .and .i64 n 4294967295 = n % 4294967296 := by
  have h : (BitVec.ofInt 64 4294967295).toNat = 2 ^ 32 - 1 := by decide
  have key : (BitVec.ofInt 64 n &&& BitVec.ofInt 64 4294967295).toNat = (n % ((2 ^ 64 : Nat) : Int)).toNat % 2 ^ 32 := by
    rw [BitVec.toNat_and, BitVec.toNat_ofInt, h, Nat.and_two_pow_sub_one_eq_mod]
  show IntKind.i64.wrap ((BitVec.ofInt 64 n &&& BitVec.ofInt 64 4294967295).toNat : Nat) = n % 4294967296
  rw [key, IntKind.wrap_i64]
  omega

theorem or32 {a b : Int} (h2 : 0 ≤ b) (h3 : b < 4294967296) : bits .or .u64 (IntKind.u64.wrap (a * 4294967296)) b = (a * 4294967296 + b) % 18446744073709551616 := by
  rw [IntKind.wrap_u64, u64_or _ _ (by omega) (by omega) (by omega) (by omega), nat_join 32 _ _ (by omega) (by omega)]
  omega

/-- Truncated division and its rest, in words of the rounded one. -/
theorem tdm (t : Int) : (t.tmod 1000000000 < 0 ∧ t.tdiv 1000000000 - 1 = t / 1000000000 ∧ t.tmod 1000000000 + 1000000000 = t % 1000000000) ∨ (0 ≤ t.tmod 1000000000 ∧ t.tdiv 1000000000 = t / 1000000000 ∧ t.tmod 1000000000 = t % 1000000000) := by
  rcases Int.lt_or_le t 0 with h | h
  · obtain ⟨k, rfl⟩ : ∃ k : Nat, t = -(k : Int) := ⟨(-t).toNat, by omega⟩
    rw [Int.neg_tmod, Int.neg_tdiv, Int.tmod_eq_emod_of_nonneg (by omega), Int.tdiv_eq_ediv_of_nonneg (by omega)]
    omega
  · rw [Int.tmod_eq_emod_of_nonneg h, Int.tdiv_eq_ediv_of_nonneg h]
    omega

theorem uni_split (t : Int) : uni t = t / 1000000000 * 4294967296 + t % 1000000000 * 4294967296 / 1000000000 := by unfold uni; omega
theorem ofI_split (t : Int) : ofI t = (t / 1000000000 * 4294967296 + t % 1000000000 * 4294967296 / 1000000000) % 18446744073709551616 := by unfold ofI; rw [uni_split]
theorem dif_lo (a b : Int) : -9223372036854775808 ≤ dif a b := by unfold dif; omega
theorem dif_hi (a b : Int) : dif a b ≤ 9223372036854775807 := by unfold dif; omega
theorem cei_split (u : Int) : cei u = u / 4294967296 * 1000000000 + (u % 4294967296 * 1000000000 + 4294967295) / 4294967296 := by unfold cei; omega
theorem cei_split2 {a b : Int} : cei (a * 4294967296 + b) = a * 1000000000 + (b * 1000000000 + 4294967295) / 4294967296 := by unfold cei; omega

/-- There and back. -/
theorem dif_of (t p : Int) : ofI t = (ofI p + dif (ofI t) (ofI p)) % 18446744073709551616 := by unfold dif ofI; omega
theorem cei_uni (t : Int) : cei (uni t) = t := by unfold cei uni; omega
theorem dif_near {t p : Int} (h0 : t - p < 2147483648000000000) (h1 : p - t < 2147483648000000000) : uni p + dif (ofI t) (ofI p) = uni t := by
  unfold dif ofI uni; omega
theorem tim_back {t p : Int} (h0 : t - p < 2147483648000000000) (h1 : p - t < 2147483648000000000) : tim (ofI t) p = t := by
  unfold tim; rw [dif_near h0 h1, cei_uni]
theorem ceil_by (x c : Int) (hc : 0 < c) : (if x / c * c = x then x / c else x / c + 1) = (x + (c - 1)) / c := by
  have h := Int.emod_add_mul_ediv x c
  have h0 := Int.emod_nonneg x (b := c) (by omega)
  have h1 := Int.emod_lt_of_pos x hc
  rw [Int.mul_comm c] at h
  by_cases hz : x / c * c = x
  · refine (if_pos hz).trans (Eq.symm ?_)
    conv => lhs; rw [show x + (c - 1) = (c - 1) + x / c * c by omega]
    rw [Int.add_mul_ediv_right _ _ (by omega), Int.ediv_eq_zero_of_lt (by omega) (by omega)]; omega
  · refine (if_neg hz).trans (Eq.symm ?_)
    conv => lhs; rw [show x + (c - 1) = (x % c - 1) + (x / c + 1) * c by rw [Int.add_mul]; omega]
    rw [Int.add_mul_ediv_right _ _ (by omega), Int.ediv_eq_zero_of_lt (by omega) (by omega)]; omega
theorem dif_self (a : Int) : dif a a = 0 := by unfold dif; omega
theorem dif_turn {a b : Int} (h : dif a b ≠ -9223372036854775808) : dif b a = -dif a b := by unfold dif at h ⊢; omega
theorem dif_add {a b c : Int} (h0 : -2305843009213693952 < dif a b) (h1 : dif a b < 2305843009213693952) (h2 : -2305843009213693952 < dif b c) (h3 : dif b c < 2305843009213693952) : dif a c = dif a b + dif b c := by
  unfold dif at h0 h1 h2 h3 ⊢; omega
theorem uni_cei (v : Int) : v ≤ uni (cei v) ∧ uni (cei v) ≤ v + 4 := by unfold uni cei; omega
theorem dif_tim (s p : Int) : 0 ≤ dif (ofI (tim s p)) s ∧ dif (ofI (tim s p)) s ≤ 4 := by
  obtain ⟨v, hv⟩ : ∃ v, uni p + dif s (ofI p) = v := ⟨_, rfl⟩
  have h := uni_cei v
  have hs : (v - s) % 18446744073709551616 = 0 := by rw [← hv]; unfold dif ofI; omega
  unfold tim; rw [hv]
  unfold ofI
  generalize uni (cei v) = y at h ⊢
  have : dif (y % 18446744073709551616) s = y - v := by unfold dif; omega
  omega
theorem tim_near (s p : Int) : tim s p - p ≤ 2147483648000000001 ∧ p - tim s p ≤ 2147483648000000001 := by
  have h0 := dif_lo s (ofI p)
  have h1 := dif_hi s (ofI p)
  unfold tim
  generalize dif s (ofI p) = d at h0 h1
  unfold cei uni; omega
theorem dif_of_le {a b : Int} (h : a ≤ b) (h1 : b - a < 2147483648000000000) : 0 ≤ dif (ofI b) (ofI a) := by
  have u0 : uni a ≤ uni b := by unfold uni; omega
  have u1 : uni b - uni a < 9223372036854775808 := by unfold uni; omega
  unfold ofI
  generalize uni b = y at u0 u1 ⊢
  have : dif (y % 18446744073709551616) (uni a % 18446744073709551616) = y - uni a := by unfold dif; omega
  omega
theorem era_le {a b : Int} (h : a ≤ b) (h1 : b - a < 2147483648000000000) : era a ≤ era b ∧ era b - era a ≤ 1 := by unfold era; omega
theorem timE_yes {s p : Int} (h0 : -8000000000000000000 ≤ p) (h1 : p ≤ 8000000000000000000) (h2 : -8000000000000000000 ≤ tim s p) (h3 : tim s p ≤ 8000000000000000000) : timE s p = 0 ∧ timV s p = tim s p := by
  have e : timE s p = 0 := (if_neg (by omega)).trans (if_neg (by omega))
  exact ⟨e, by unfold timV; rw [e]; rfl⟩
theorem timE_far {s p : Int} (h0 : -8000000000000000000 ≤ p) (h1 : p ≤ 8000000000000000000) (h2 : tim s p < -8000000000000000000 ∨ 8000000000000000000 < tim s p) : timE s p = 3 ∧ timV s p = 0 := by
  have e : timE s p = 3 := (if_neg (by omega)).trans (if_pos h2)
  exact ⟨e, by unfold timV; rw [e]; rfl⟩
theorem timE_arg {s p : Int} (h : p < -8000000000000000000 ∨ 8000000000000000000 < p) : timE s p = 2 ∧ timV s p = 0 := by
  have e : timE s p = 2 := if_pos h
  exact ⟨e, by unfold timV; rw [e]; rfl⟩
end Go.Proofs.Ytiecbpecpoojkaa.St
