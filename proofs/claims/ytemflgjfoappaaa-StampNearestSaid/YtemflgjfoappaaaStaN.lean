/- The plain arithmetic of layer 3: texts. No program in sight. -/
import Derived.Test.YtemflgjfoappaaaStaM
import Derived.Laws.BytesArg
import Derived.Lib.Bytealg
namespace Go.Proofs.Ytemflgjfoappaaa.St
open Go

/-- The byte of a hexadecimal digit, the digit of a byte (or -1). -/
def hx (d : Int) : Int := if d < 10 then 48 + d else 87 + d
def unhx (c : Int) : Int := if 48 ≤ c ∧ c ≤ 57 then c - 48 else if 97 ≤ c ∧ c ≤ 102 then c - 87 else -1
/-- Digit j of sixteen. -/
def nib (s : Int) (j : Nat) : Int := s / 16 ^ (15 - j) % 16
/-- How many digits stand before byte i of a text? -/
def ndg (i : Nat) : Nat := if i ≤ 8 then i else i - 1
/-- Byte i of the text. -/
def tx (s : Int) (i : Nat) : Int := if i = 8 then 46 else hx (nib s (ndg i))
def txL (s : Int) : List Int := (List.range 17).map (tx s)
/-- What is written after k bytes. -/
def txK (s : Int) (k : Nat) : List Int := (List.range 17).map fun i => if i < k then tx s i else 0
/-- What is left of s after k bytes. -/
def rem (s : Int) (k : Nat) : Int := s * 16 ^ ndg k % 18446744073709551616

/-- The number of the first k bytes, and whether they are digits. -/
def pacc (L : List Int) : Nat → Int
  | 0 => 0
  | k + 1 => if k = 8 then pacc L k else pacc L k * 16 + unhx (L.getD k 0)
def POk (L : List Int) (k : Nat) : Prop := ∀ i, i < k → i ≠ 8 → 0 ≤ unhx (L.getD i 0)
def Hexy (L : List Int) : Prop := L.length = 17 ∧ L.getD 8 0 = 46 ∧ POk L 17
instance (L : List Int) (k : Nat) : Decidable (POk L k) := by unfold POk; exact inferInstance
instance (L : List Int) : Decidable (Hexy L) := by unfold Hexy; exact inferInstance
def pE (L : List Int) : Int := if Hexy L then 0 else 19
def pV (L : List Int) : Int := if Hexy L then pacc L 17 else 0

theorem hx_bounds {d : Int} (h0 : 0 ≤ d) (h1 : d ≤ 15) : 48 ≤ hx d ∧ hx d ≤ 102 := by unfold hx; split <;> omega
theorem unhx_hx {d : Int} (h0 : 0 ≤ d) (h1 : d ≤ 15) : unhx (hx d) = d := by
  unfold unhx hx
  by_cases h : d < 10
  · rw [if_pos h, if_pos (by omega)]; omega
  · rw [if_neg h, if_neg (by omega), if_pos (by omega)]; omega
theorem hx_unhx {c : Int} (h : 0 ≤ unhx c) : hx (unhx c) = c := by
  unfold unhx at h ⊢
  by_cases a : 48 ≤ c ∧ c ≤ 57
  · rw [if_pos a]; unfold hx; rw [if_pos (by omega)]; omega
  · rw [if_neg a] at h ⊢
    by_cases b : 97 ≤ c ∧ c ≤ 102
    · rw [if_pos b]; unfold hx; rw [if_neg (by omega)]; omega
    · rw [if_neg b] at h; omega
theorem unhx_le (c : Int) : unhx c ≤ 15 := by unfold unhx; split <;> (try split) <;> omega
theorem nib_bounds (s : Int) (j : Nat) : 0 ≤ nib s j ∧ nib s j ≤ 15 := by unfold nib; omega
theorem tx_bounds (s : Int) (i : Nat) : 0 ≤ tx s i ∧ tx s i ≤ 255 := by
  unfold tx
  have := nib_bounds s (ndg i)
  have := hx_bounds this.1 this.2
  split <;> omega

theorem below16 {P : Nat → Prop} (j : Nat) (h : j < 16) (p0 : P 0) (p1 : P 1) (p2 : P 2) (p3 : P 3) (p4 : P 4) (p5 : P 5) (p6 : P 6) (p7 : P 7) (p8 : P 8) (p9 : P 9) (pa : P 10) (pb : P 11) (pc : P 12) (pd : P 13) (pe : P 14) (pf : P 15) : P j := by
  match j, h with
  | 0, _ => exact p0
  | 1, _ => exact p1
  | 2, _ => exact p2
  | 3, _ => exact p3
  | 4, _ => exact p4
  | 5, _ => exact p5
  | 6, _ => exact p6
  | 7, _ => exact p7
  | 8, _ => exact p8
  | 9, _ => exact p9
  | 10, _ => exact pa
  | 11, _ => exact pb
  | 12, _ => exact pc
  | 13, _ => exact pd
  | 14, _ => exact pe
  | 15, _ => exact pf
  | n + 16, h => omega

theorem nib_top {s : Int} (j : Nat) (h : j < 16) (h0 : 0 ≤ s) (h1 : s ≤ 18446744073709551615) : s * 16 ^ j % 18446744073709551616 / 1152921504606846976 = nib s j := by
  revert h0 h1
  refine below16 (P := fun j => 0 ≤ s → s ≤ 18446744073709551615 → s * 16 ^ j % 18446744073709551616 / 1152921504606846976 = nib s j) j h ?_ ?_ ?_ ?_ ?_ ?_ ?_ ?_ ?_ ?_ ?_ ?_ ?_ ?_ ?_ ?_ <;>
    (intro h0 h1; unfold nib; simp only [Nat.reduceSub, Int.reducePow]; omega)

theorem rem_next {s : Int} {k : Nat} (h : k < 17) (h8 : k ≠ 8) : rem s k * 16 % 18446744073709551616 = rem s (k + 1) := by
  unfold rem
  have e : ndg (k + 1) = ndg k + 1 := by unfold ndg; split <;> split <;> omega
  rw [e, Int.pow_succ, ← Int.mul_assoc]
  generalize s * 16 ^ ndg k = x
  omega
theorem rem_point (s : Int) : rem s 8 = rem s 9 := rfl
theorem rem_zero {s : Int} (h0 : 0 ≤ s) (h1 : s ≤ 18446744073709551615) : rem s 0 = s := by unfold rem ndg; simp; omega
theorem rem_bounds (s : Int) (k : Nat) : 0 ≤ rem s k ∧ rem s k ≤ 18446744073709551615 := by unfold rem; omega
theorem rem_digit {s : Int} {k : Nat} (h : k < 17) (h0 : 0 ≤ s) (h1 : s ≤ 18446744073709551615) : rem s k / 1152921504606846976 = nib s (ndg k) := by
  unfold rem; exact nib_top _ (by unfold ndg; split <;> omega) h0 h1

theorem txK_len (s : Int) (k : Nat) : (txK s k).length = 17 := by simp [txK]
theorem txL_len (s : Int) : (txL s).length = 17 := by simp [txL]
theorem txK_zero (s : Int) : txK s 0 = List.replicate 17 0 := by simp [txK]; decide
theorem txK_all (s : Int) : txK s 17 = txL s := by
  unfold txK txL
  apply List.map_congr_left
  intro i hi
  rw [if_pos (by simpa using hi)]
theorem txK_set (s : Int) (k : Nat) : (txK s k).set k (tx s k) = txK s (k + 1) := by
  unfold txK
  apply List.ext_getElem?
  intro i
  simp only [List.getElem?_set, List.getElem?_map, List.length_map, List.length_range]
  by_cases h : k = i
  · subst h
    by_cases hk : k < 17
    · simp [hk]
    · simp [hk]
  · rw [if_neg h]
    by_cases hi : i < 17
    · rw [List.getElem?_eq_getElem (by simpa using hi)]
      simp only [List.getElem_range, Option.map_some]
      congr 1
      by_cases a : i < k
      · rw [if_pos a, if_pos (by omega)]
      · rw [if_neg a, if_neg (by omega)]
    · simp [List.getElem?_eq_none (l := List.range 17) (i := i) (by simpa using hi)]
theorem txL_getD (s : Int) (i : Nat) (h : i < 17) : (txL s).getD i 0 = tx s i := by
  rw [List.getD_eq_getElem?_getD]; unfold txL; rw [List.getElem?_map, List.getElem?_eq_getElem (by simpa using h)]; simp
theorem txL_take (s : Int) (k : Nat) (h : k < 17) : (txL s).take (k + 1) = (txL s).take k ++ [tx s k] := by
  rw [List.take_succ_eq_append_getElem (by rw [txL_len]; exact h)]
  congr 2
  have := txL_getD s k h
  rw [List.getD_eq_getElem?_getD, List.getElem?_eq_getElem (by rw [txL_len]; exact h)] at this
  exact this

theorem nib_shift {s : Int} {k : Nat} (h : k < 16) (h0 : 0 ≤ s) (h1 : s ≤ 18446744073709551615) : bits .and .u64 (s / 2 ^ (60 - 4 * k)) 15 = nib s k := by
  have e : (2 : Int) ^ (60 - 4 * k) = 16 ^ (15 - k) := by
    rw [show 60 - 4 * k = 4 * (15 - k) by omega, Int.pow_mul]; rfl
  have p : (0 : Int) < 16 ^ (15 - k) := Int.pow_pos (by decide)
  unfold nib
  rw [e]
  have a0 : 0 ≤ s / 16 ^ (15 - k) := Int.ediv_nonneg h0 (by omega)
  have a1 : s / 16 ^ (15 - k) ≤ s := Int.ediv_le_self _ h0
  generalize s / 16 ^ (15 - k) = x at a0 a1 ⊢
  rw [u64_and x 15 a0 (by omega) (by decide) (by decide)]
  have : x.toNat &&& (15 : Int).toNat = x.toNat % 16 := Nat.and_two_pow_sub_one_eq_mod _ 4
  rw [this]; omega

/-! ### Reading -/
theorem pacc_bounds (L : List Int) : ∀ k, k ≤ 17 → POk L k → 0 ≤ pacc L k ∧ pacc L k < 16 ^ ndg k := by
  intro k
  induction k with
  | zero => intro _ _; simp [pacc, ndg]
  | succ k ih =>
    intro hk hp
    have i := ih (by omega) (fun i hi => hp i (by omega))
    unfold pacc
    by_cases h8 : k = 8
    · subst h8; rw [if_pos rfl]; exact i
    · rw [if_neg h8]
      have d0 := hp k (by omega) h8
      have d1 := unhx_le (L.getD k 0)
      have e : ndg (k + 1) = ndg k + 1 := by unfold ndg; split <;> split <;> omega
      rw [e, Int.pow_succ]
      omega
theorem pow16_le {k : Nat} (h : k < 17) : (16 : Int) ^ ndg k ≤ 1152921504606846976 := by
  have : ndg k ≤ 15 := by unfold ndg; split <;> omega
  have := Nat.pow_le_pow_right (show 0 < 16 by decide) this
  have e : (16 : Int) ^ ndg k = ((16 ^ ndg k : Nat) : Int) := by simp
  rw [e]; omega
theorem pacc_step {L : List Int} {k : Nat} (h : k < 17) (h8 : k ≠ 8) (hp : POk L k) (hd : 0 ≤ unhx (L.getD k 0)) :
    bits .or .u64 (IntKind.u64.wrap (pacc L k * 16)) (unhx (L.getD k 0)) = pacc L (k + 1) ∧ pacc L k * 16 + unhx (L.getD k 0) = pacc L (k + 1) ∧ 0 ≤ pacc L k ∧ pacc L k < 1152921504606846976 := by
  have b := pacc_bounds L k (by omega) hp
  have p := pow16_le h
  have d := unhx_le (L.getD k 0)
  have e : pacc L (k + 1) = pacc L k * 16 + unhx (L.getD k 0) := if_neg h8
  refine ⟨?_, e.symm, b.1, by omega⟩
  rw [e, IntKind.wrap_u64, u64_or _ _ (by omega) (by omega) (by omega) (by omega), nat_join 4 _ _ (by omega) (by omega)]
  omega
theorem pacc_point (L : List Int) : pacc L 9 = pacc L 8 := rfl
theorem POk.next {L : List Int} {k : Nat} (h : POk L k) (hd : k = 8 ∨ 0 ≤ unhx (L.getD k 0)) : POk L (k + 1) := fun i hi h8 => by
  by_cases e : i = k
  · subst e; rcases hd with hd | hd
    · exact absurd hd h8
    · exact hd
  · exact h i (by omega) h8
theorem good_no {L : List Int} (h : ¬ Hexy L) : pE L = 19 ∧ pV L = 0 := ⟨if_neg h, if_neg h⟩
theorem good_yes {L : List Int} (h : Hexy L) : pE L = 0 ∧ pV L = pacc L 17 := ⟨if_pos h, if_pos h⟩
theorem pV_bounds (L : List Int) : 0 ≤ pV L ∧ pV L ≤ 18446744073709551615 := by
  by_cases h : Hexy L
  · have b := pacc_bounds L 17 (by omega) h.2.2
    rw [(good_yes h).2]
    have e : (16 : Int) ^ ndg 17 = 18446744073709551616 := by decide
    rw [e] at b; omega
  · rw [(good_no h).2]; omega

/-- The digits of what was read are what was read. -/
theorem nib_pacc {L : List Int} (hp : POk L 17) : ∀ k, k < 17 → k ≠ 8 → nib (pacc L 17) (ndg k) = unhx (L.getD k 0) := by
  have b : ∀ i, i < 17 → i ≠ 8 → 0 ≤ unhx (L.getD i 0) ∧ unhx (L.getD i 0) ≤ 15 := fun i hi h8 => ⟨hp i hi h8, unhx_le _⟩
  have q : ∀ k, k ≤ 17 → ∀ i, i < k → i ≠ 8 → pacc L k / 16 ^ (ndg k - 1 - ndg i) % 16 = unhx (L.getD i 0) := by
    intro k
    induction k with
    | zero => intro _ i hi; omega
    | succ k ih =>
      intro hk i hi h8
      by_cases e8 : k = 8
      · subst e8; exact ih (by omega) i (by omega) h8
      · have e : pacc L (k + 1) = pacc L k * 16 + unhx (L.getD k 0) := if_neg e8
        have en : ndg (k + 1) = ndg k + 1 := by unfold ndg; split <;> split <;> omega
        have bk := b k (by omega) e8
        rw [e, en]
        by_cases hik : i = k
        · subst hik
          rw [show ndg i + 1 - 1 - ndg i = 0 by omega, Int.pow_zero, Int.ediv_one]
          omega
        · have hlt : ndg i < ndg k := by unfold ndg; split <;> split <;> omega
          rw [show ndg k + 1 - 1 - ndg i = (ndg k - 1 - ndg i) + 1 by omega, Int.pow_succ, Int.mul_comm (16 ^ _) 16, ← Int.ediv_ediv_of_nonneg (show (0 : Int) ≤ 16 by decide)]
          rw [show (pacc L k * 16 + unhx (L.getD k 0)) / 16 = pacc L k by omega]
          exact ih (by omega) i (by omega) h8
  intro k hk h8
  have := q 17 (by omega) k hk h8
  have e : ndg 17 - 1 - ndg k = 15 - ndg k := rfl
  rw [e] at this
  exact this
theorem txL_pV {L : List Int} (h : Hexy L) : txL (pV L) = L := by
  obtain ⟨h1, h2, h3⟩ := h
  rw [(good_yes ⟨h1, h2, h3⟩).2]
  apply List.ext_getElem (by rw [txL_len, h1])
  intro i hi _
  have hi' : i < 17 := by rw [txL_len] at hi; exact hi
  have a := txL_getD (pacc L 17) i hi'
  rw [List.getD_eq_getElem?_getD, List.getElem?_eq_getElem hi] at a
  have c : L.getD i 0 = L[i] := by rw [List.getD_eq_getElem?_getD, List.getElem?_eq_getElem (by omega)]; rfl
  rw [show (txL (pacc L 17))[i] = tx (pacc L 17) i from a, ← c]
  unfold tx
  by_cases h8 : i = 8
  · subst h8; rw [if_pos rfl, h2]
  · rw [if_neg h8, nib_pacc h3 i hi' h8, hx_unhx (h3 i hi' h8)]

/-- A text is read back. -/
theorem good_txL (s : Int) : Hexy (txL s) := by
  refine ⟨txL_len s, by rw [txL_getD s 8 (by decide)]; rfl, fun i hi h8 => ?_⟩
  rw [txL_getD s i hi]; unfold tx; rw [if_neg h8]
  have b := nib_bounds s (ndg i)
  rw [unhx_hx b.1 b.2]; exact b.1
theorem pacc_txL {s : Int} (h0 : 0 ≤ s) (h1 : s ≤ 18446744073709551615) : pacc (txL s) 17 = s := by
  have q : ∀ k, k ≤ 17 → pacc (txL s) k = s / 16 ^ (16 - ndg k) := by
    intro k
    induction k with
    | zero =>
      intro _; show 0 = s / 16 ^ 16
      rw [Int.ediv_eq_zero_of_lt h0]
      have : (16 : Int) ^ 16 = 18446744073709551616 := by decide
      omega
    | succ k ih =>
      intro hk
      by_cases e8 : k = 8
      · subst e8; exact ih (by omega)
      · have e : pacc (txL s) (k + 1) = pacc (txL s) k * 16 + unhx ((txL s).getD k 0) := if_neg e8
        have en : ndg (k + 1) = ndg k + 1 := by unfold ndg; split <;> split <;> omega
        have hn : ndg k ≤ 15 := by unfold ndg; split <;> omega
        have b := nib_bounds s (ndg k)
        rw [e, ih (by omega), txL_getD s k (by omega), en]
        unfold tx; rw [if_neg e8, unhx_hx b.1 b.2]
        unfold nib
        rw [show 16 - ndg k = (15 - ndg k) + 1 by omega, show 16 - (ndg k + 1) = 15 - ndg k by omega, Int.pow_succ, ← Int.ediv_ediv_of_nonneg (Int.le_of_lt (Int.pow_pos (by decide)))]
        omega
  have := q 17 (by omega)
  rw [this]; show s / 16 ^ 0 = s
  simp
theorem pV_txL {s : Int} (h0 : 0 ≤ s) (h1 : s ≤ 18446744073709551615) : pV (txL s) = s ∧ pE (txL s) = 0 :=
  ⟨(good_yes (good_txL s)).2.trans (pacc_txL h0 h1), (good_yes (good_txL s)).1⟩

/-! ### Strings -/
def bys (s : ByteArray) : List Int := s.data.toList.map fun b => (b.toNat : Int)
theorem bytes_len (s : ByteArray) : (bys s).length = s.size := by simp [bys]
theorem bytes_getD (s : ByteArray) (i : Nat) (h : i < s.size) : (bys s).getD i 0 = (s[i].toNat : Int) := by
  rw [List.getD_eq_getElem?_getD, List.getElem?_eq_getElem (by rw [bytes_len]; exact h)]
  simp [bys]; rfl
theorem bytes_of {l : List Int} (h : ∀ x ∈ l, 0 ≤ x ∧ x ≤ 255) : bys (strOfNums l) = l := by
  unfold bys strOfNums
  simp only [List.map_map]
  conv => rhs; rw [← List.map_id l]
  apply List.map_congr_left
  intro x hx
  have := h x hx
  simp
  omega
theorem of_bytes (s : ByteArray) : strOfNums (bys s) = s := by
  unfold bys strOfNums
  simp only [List.map_map]
  have : ((fun n : Int => UInt8.ofNat n.toNat) ∘ fun b : UInt8 => (b.toNat : Int)) = id := by
    funext b; simp
  rw [this]; simp
theorem txL_byte (s : Int) : ∀ x ∈ txL s, 0 ≤ x ∧ x ≤ 255 := by
  intro x hx
  unfold txL at hx
  obtain ⟨i, _, rfl⟩ := List.mem_map.1 hx
  exact tx_bounds s i
def hexDigits : List UInt8 := [48, 49, 50, 51, 52, 53, 54, 55, 56, 57, 97, 98, 99, 100, 101, 102]
theorem index_unhx (c : UInt8) : Lib.indexByte hexDigits c = unhx c.toNat := by
  have : ∀ n : Fin 256, Lib.indexByte hexDigits (UInt8.ofNat n.val) = unhx (n.val : Int) := by decide +kernel
  have h := this ⟨c.toNat, c.toNat_lt⟩
  simpa using h
end Go.Proofs.Ytemflgjfoappaaa.St
