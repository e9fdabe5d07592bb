/- The plain arithmetic of layer 4: decimal texts. No program in sight. -/
import Derived.Lib.ItoaNum
import Derived.Lib.AtoiAll
import Derived.Lib.Repeat
import Derived.Lib.Bytealg
namespace Go.Proofs.YtegpajdahanhfaaGreatDoor.Pt
open Go Lib

/-- The last i digits of k. -/
def low (k : Nat) : Nat → List UInt8
  | 0 => []
  | i + 1 => UInt8.ofNat (48 + k / 10 ^ i % 10) :: low k i
theorem low_len (k i : Nat) : (low k i).length = i := by
  induction i with
  | zero => rfl
  | succ i ih => simp [low, ih]
theorem low_snoc (k i : Nat) : low k (i + 1) = low (k / 10) i ++ [UInt8.ofNat (48 + k % 10)] := by
  induction i with
  | zero => simp [low]
  | succ i ih =>
    have e : low k (i + 1 + 1) = UInt8.ofNat (48 + k / 10 ^ (i + 1) % 10) :: low k (i + 1) := rfl
    have e2 : low (k / 10) (i + 1) = UInt8.ofNat (48 + k / 10 / 10 ^ i % 10) :: low (k / 10) i := rfl
    rw [e, ih, e2, Nat.div_div_eq_div_mul, Nat.pow_succ, Nat.mul_comm (10 ^ i) 10, List.cons_append]

theorem dec_small {u : Nat} (h : u < 10) : decDigits u = [UInt8.ofNat (48 + u)] := by rw [decDigits, dif_pos h]
theorem dec_big {u : Nat} (h : ¬ u < 10) : decDigits u = decDigits (u / 10) ++ [UInt8.ofNat (48 + u % 10)] := by rw [decDigits, dif_neg h]
theorem dec_pos (u : Nat) : 1 ≤ (decDigits u).length := by
  by_cases h : u < 10
  · rw [dec_small h]; simp
  · rw [dec_big h]; simp
theorem dec_le : ∀ m u, 1 ≤ m → u < 10 ^ m → (decDigits u).length ≤ m := by
  intro m
  induction m with
  | zero => intro u h; omega
  | succ m ih =>
    intro u _ h
    by_cases hu : u < 10
    · rw [dec_small hu]; simp
    · rw [dec_big hu, List.length_append]
      have hm : 1 ≤ m := by
        rcases Nat.eq_zero_or_pos m with rfl | h0
        · simp at h; omega
        · exact h0
      have := ih (u / 10) hm (by rw [Nat.pow_succ] at h; omega)
      simp; omega
theorem dec_lt (u : Nat) : u < 10 ^ (decDigits u).length := by
  induction u using Nat.strongRecOn with
  | _ u ih =>
    by_cases hu : u < 10
    · rw [dec_small hu]; simpa using hu
    · rw [dec_big hu, List.length_append]
      have := ih (u / 10) (by omega)
      simp only [List.length_singleton, Nat.pow_succ]
      omega
theorem dec_len {m u : Nat} (h1 : 1 ≤ m) (h2 : u < 10 ^ m) (h3 : m = 1 ∨ 10 ^ (m - 1) ≤ u) : (decDigits u).length = m := by
  have a := dec_le m u h1 h2
  rcases h3 with rfl | h3
  · have := dec_pos u; omega
  · have b := dec_lt u
    rcases Nat.lt_or_ge (decDigits u).length m with hlt | hge
    · have := Nat.pow_le_pow_right (show 0 < 10 by decide) (show (decDigits u).length ≤ m - 1 by omega)
      omega
    · omega
theorem low_dec : ∀ m u, 1 ≤ m → u < 10 ^ m → low u m = List.replicate (m - (decDigits u).length) 48 ++ decDigits u := by
  intro m
  induction m with
  | zero => intro u h; omega
  | succ m ih =>
    intro u _ h
    rcases Nat.eq_zero_or_pos m with rfl | hm
    · have hu : u < 10 := by simpa using h
      rw [dec_small hu]
      simp [low]
      congr 1; omega
    · rw [low_snoc, ih (u / 10) hm (by rw [Nat.pow_succ] at h; omega)]
      by_cases hu : u < 10
      · have e : u / 10 = 0 := by omega
        rw [e, dec_small hu, dec_small (show 0 < 10 by decide)]
        simp only [List.length_singleton]
        rw [show m + 1 - 1 = (m - 1) + 1 by omega, List.replicate_succ']
        rw [show u % 10 = u by omega]; rfl
      · rw [dec_big hu, List.length_append, List.append_assoc]
        simp only [List.length_singleton]
        rw [show m + 1 - ((decDigits (u / 10)).length + 1) = m - (decDigits (u / 10)).length by omega]
/-- The text of a number of as many digits as it has. -/
theorem low_dec_eq {m u : Nat} (h1 : 1 ≤ m) (h2 : u < 10 ^ m) (h3 : m = 1 ∨ 10 ^ (m - 1) ≤ u) : low u m = decDigits u := by
  rw [low_dec m u h1 h2, dec_len h1 h2 h3, Nat.sub_self]; rfl

/-! ### All digits -/
def Digs (l : List UInt8) : Prop := ∀ c ∈ l, 48 ≤ c.toNat ∧ c.toNat ≤ 57
theorem digit_ok (d : Nat) (h : d < 10) : 48 ≤ (UInt8.ofNat (48 + d)).toNat ∧ (UInt8.ofNat (48 + d)).toNat ≤ 57 ∧ (UInt8.ofNat (48 + d)).toNat = 48 + d := by
  have : (UInt8.ofNat (48 + d)).toNat = 48 + d := by simp [UInt8.toNat_ofNat']; omega
  omega
theorem digs_low (k i : Nat) : Digs (low k i) := by
  induction i with
  | zero => intro c hc; simp [low] at hc
  | succ i ih =>
    intro c hc
    rcases List.mem_cons.1 hc with rfl | hc
    · have := digit_ok (k / 10 ^ i % 10) (Nat.mod_lt _ (by decide)); omega
    · exact ih c hc
theorem dec_is_low (u : Nat) : decDigits u = low u (decDigits u).length := by
  rw [low_dec _ u (dec_pos u) (dec_lt u), Nat.sub_self]; rfl
theorem digs_dec (u : Nat) : Digs (decDigits u) := by rw [dec_is_low]; exact digs_low _ _

/-- What digits say, behind acc. -/
def dval (acc : Nat) : List UInt8 → Nat
  | [] => acc
  | c :: r => dval (acc * 10 + (c.toNat - 48)) r
theorem dval_append (l m : List UInt8) : ∀ acc, dval acc (l ++ m) = dval (dval acc l) m := by
  induction l with
  | nil => intro acc; rfl
  | cons c l ih => intro acc; exact ih (acc * 10 + (c.toNat - 48))
theorem dval_one (acc : Nat) (c : UInt8) : dval acc [c] = acc * 10 + (c.toNat - 48) := rfl
theorem dval_low : ∀ (i k : Nat), dval 0 (low k i) = k % 10 ^ i := by
  intro i
  induction i with
  | zero => intro k; rw [Nat.pow_zero, Nat.mod_one]; rfl
  | succ i ih =>
    intro k
    rw [low_snoc, dval_append, ih (k / 10), dval_one]
    have h := (digit_ok (k % 10) (Nat.mod_lt _ (by decide))).2.2
    rw [h, Nat.pow_succ, Nat.mul_comm (10 ^ i) 10, Nat.mod_mul]
    generalize k / 10 % 10 ^ i = q
    omega
theorem dval_dec (u : Nat) : dval 0 (decDigits u) = u := by
  rw [dec_is_low, dval_low]; exact Nat.mod_eq_of_lt (dec_lt u)
theorem dval_le (l : List UInt8) : ∀ acc, acc ≤ dval acc l := by
  induction l with
  | nil => intro acc; exact Nat.le_refl _
  | cons c l ih => intro acc; exact Nat.le_trans (by omega) (ih _)
theorem parse_digs : ∀ (l : List UInt8) (acc : Nat), Digs l → dval acc l < 1844674407370955161 → parseUint10 acc l = .ok (dval acc l) := by
  intro l
  induction l with
  | nil => intro acc _ _; rfl
  | cons c l ih =>
    intro acc hd h
    have hc := hd c (by simp)
    have hle := dval_le l (acc * 10 + (c.toNat - 48))
    have e : dval acc (c :: l) = dval (acc * 10 + (c.toNat - 48)) l := rfl
    rw [e] at h ⊢
    unfold parseUint10
    rw [if_pos hc, if_neg (by omega), if_neg (by omega)]
    exact ih _ (fun x hx => hd x (by simp [hx])) h
theorem atoi_digs {l : List UInt8} (h0 : l ≠ []) (hd : Digs l) (h : dval 0 l < 1844674407370955161) : atoiAll l = .ok (dval 0 l : Int) := by
  rcases l with _ | ⟨c, r⟩
  · exact absurd rfl h0
  · have hc := hd c (by simp)
    unfold atoiAll
    have e : parseMag (c :: r) = .ok (dval 0 (c :: r)) := by unfold parseMag; rw [if_neg (by simp)]; exact parse_digs _ 0 hd h
    have e2 : (if c.toNat = 43 ∨ c.toNat = 45 then r else c :: r) = c :: r := if_neg (by omega)
    simp only []
    rw [e2, e]
    simp only []
    rw [if_neg (by omega), if_neg (by omega), if_neg (by omega)]

/-! ### Texts -/
def ptL (S N : Nat) : List UInt8 := decDigits S ++ 46 :: low N 9
theorem repeat_48 : ∀ c, repeatL [48] c = List.replicate c 48 := by
  intro c
  induction c with
  | zero => rfl
  | succ c ih => rw [repeatL, ih]; rfl
theorem pad_nine {N : Nat} (h : N < 1000000000) : repeatL [48] (9 - (decDigits N).length) ++ decDigits N = low N 9 := by
  rw [repeat_48, low_dec 9 N (by decide) (by simpa using h)]
theorem index_at {l m : List UInt8} (h : ∀ c ∈ l, c ≠ 46) : indexByte (l ++ 46 :: m) 46 = l.length := by
  induction l with
  | nil => simp [indexByte]
  | cons c l ih =>
    have hc : (c == 46) = false := by simpa using h c (by simp)
    have := ih (fun x hx => h x (by simp [hx]))
    rw [List.cons_append]
    unfold indexByte
    rw [hc, this]
    have h2 : ((l.length : Int) == -1) = false := by simp
    rw [h2]
    simp
theorem digs_no {l : List UInt8} (h : Digs l) : ∀ c ∈ l, c ≠ 46 := fun c hc e => by
  have := h c hc
  rw [e] at this
  exact absurd this.1 (by decide)
end Go.Proofs.YtegpajdahanhfaaGreatDoor.Pt
