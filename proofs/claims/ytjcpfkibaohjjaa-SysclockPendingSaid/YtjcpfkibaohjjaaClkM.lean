/- The plain arithmetic of layer 10: states of clocks, no program in sight. -/
import Derived.Test.YtjcpfkibaohjjaaFixM
import Derived.Test.YtjcpfkibaohjjaaFixN
namespace Go.Proofs.Ytjcpfkibaohjjaa.Ck
open Fx

/-- A state of a clock. -/
structure St where
  r : Int
  t : Int
  p : Int
  l : Int
  q : Int
  s : Int
/-- Is n from -b to b? -/
def win (n b : Int) : Bool := decide (-b ≤ n ∧ n ≤ b)
theorem win_yes {n b : Int} (h : -b ≤ n) (h' : n ≤ b) : win n b = true := decide_eq_true ⟨h, h'⟩
theorem win_no {n b : Int} (h : ¬(-b ≤ n ∧ n ≤ b)) : win n b = false := decide_eq_false h
theorem win_iff {n b : Int} : win n b = true ↔ (-b ≤ n ∧ n ≤ b) := by simp [win]
theorem win_iff' {n b : Int} : win n b = false ↔ ¬(-b ≤ n ∧ n ≤ b) := by simp [win]
/-- The valid states. -/
def Ok (x : St) : Prop :=
  (-4503599627370496 ≤ x.r ∧ x.r ≤ 4503599627370496) ∧ (-4503599627370496 ≤ x.t ∧ x.t ≤ 4503599627370496) ∧ (-4503599627370496 ≤ x.l ∧ x.l ≤ 4503599627370496) ∧
  (-500000 ≤ x.p ∧ x.p ≤ 500000) ∧ (0 ≤ x.q ∧ x.q ≤ 500000) ∧ (x.l = 0 ∨ 0 < x.q) ∧ (0 ≤ x.s ∧ x.s ≤ 9223372036854775807)
/-- The sign. -/
def sg (n : Int) : Int := if 0 < n then 1 else if n < 0 then -1 else 0
/-- n, or the limit that it passes. -/
def clm (n lo hi : Int) : Int := if n < lo then lo else if hi < n then hi else n
/-- What is slewed in e. -/
def slw (l q e : Int) : Int := clm l (-(e * q / 1000000000)) (e * q / 1000000000)
/-- The length of a slew. -/
def ln (l q : Int) : Int := if l = 0 then 0 else -(-(sg l * l) * 1000000000 / q)
/-- What is counted in e. -/
def cnt (e p : Int) : Int := e + e * p / 1000000000
/-- What is shown e behind the state. -/
def shn (t p l q e : Int) : Int :=
  if slw l q e = l then t + cnt (ln l q) (p + sg l * q) + cnt (e - ln l q) p else t + cnt e (p + sg l * q)
def zer : St := ⟨0, 0, 0, 0, 0, 0⟩
/-- The time that is shown at a reading. -/
def at' (x : St) (raw : Int) : Int := shn x.t x.p x.l x.q (raw - x.r)
/-- The error of a move. -/
def mvE (x : St) (raw : Int) : Int :=
  if raw < x.r then 12 else if 4503599627370496 < raw then 3 else if win (at' x raw) 4503599627370496 = true then 0 else 3
/-- What is left. -/
def lft (x : St) (raw : Int) : Int := x.l - slw x.l x.q (raw - x.r)
/-- The state behind a move. -/
def mvG (x : St) (raw : Int) : St := ⟨raw, at' x raw, x.p, lft x raw, if lft x raw = 0 then 0 else x.q, x.s⟩
def mvS (x : St) (raw : Int) : St := if mvE x raw = 0 then mvG x raw else zer

theorem div_cases (n : Int) : 1000000000 * (n / 1000000000) ≤ n ∧ n < 1000000000 * (n / 1000000000) + 1000000000 := by omega
theorem sg_pos {n : Int} (h : 0 < n) : sg n = 1 := if_pos h
theorem sg_neg {n : Int} (h : n < 0) : sg n = -1 := (if_neg (by omega)).trans (if_pos h)
theorem sg_zero : sg 0 = 0 := rfl
/-- A floor of a product, bounded. -/
theorem mul_bound {e p M N : Int} (h0 : 0 ≤ e) (h1 : e ≤ M) (h2 : -N ≤ p) (h3 : p ≤ N) (hN : 0 ≤ N) : -(M * N) ≤ e * p ∧ e * p ≤ M * N := by
  have a : e * p ≤ e * N := Int.mul_le_mul_of_nonneg_left h3 h0
  have b : e * N ≤ M * N := Int.mul_le_mul_of_nonneg_right h1 hN
  have c : e * (-N) ≤ e * p := Int.mul_le_mul_of_nonneg_left h2 h0
  rw [Int.mul_neg] at c
  omega
/-- e readings on, at up to a million parts per billion. -/
theorem fl_bound {e p : Int} (h0 : 0 ≤ e) (h1 : e ≤ 9007199254740992) (h2 : -1000000 ≤ p) (h3 : p ≤ 1000000) : -9007199254741 ≤ e * p / 1000000000 ∧ e * p / 1000000000 ≤ 9007199254741 := by
  have := mul_bound h0 h1 h2 h3 (by omega)
  omega
theorem cnt_bound {e p : Int} (h0 : 0 ≤ e) (h1 : e ≤ 9007199254740992) (h2 : -1000000 ≤ p) (h3 : p ≤ 1000000) : -9007199254741 ≤ cnt e p ∧ cnt e p ≤ 9016206453995733 := by
  have := fl_bound h0 h1 h2 h3
  unfold cnt; omega
theorem mst_bound {e q : Int} (h0 : 0 ≤ e) (h1 : e ≤ 9007199254740992) (h2 : 0 ≤ q) (h3 : q ≤ 500000) : 0 ≤ e * q / 1000000000 ∧ e * q / 1000000000 ≤ 9007199254741 := by
  have a := fl_bound h0 h1 (by omega : -1000000 ≤ q) (by omega)
  have b : 0 ≤ e * q := Int.mul_nonneg h0 h2
  omega
theorem slw_bound {l q e : Int} (hl : -4503599627370496 ≤ l ∧ l ≤ 4503599627370496) (h0 : 0 ≤ e) (h1 : e ≤ 9007199254740992) (h2 : 0 ≤ q) (h3 : q ≤ 500000) : -9007199254741 ≤ slw l q e ∧ slw l q e ≤ 9007199254741 := by
  have := mst_bound h0 h1 h2 h3
  unfold slw clm; split <;> (try split) <;> omega
/-- The slew has the sign of what is left, and is no more. -/
theorem slw_sign {l q e : Int} (h0 : 0 ≤ e) (h2 : 0 ≤ q) : (0 ≤ l → 0 ≤ slw l q e ∧ slw l q e ≤ l) ∧ (l ≤ 0 → l ≤ slw l q e ∧ slw l q e ≤ 0) := by
  have b : 0 ≤ e * q := Int.mul_nonneg h0 h2
  have : 0 ≤ e * q / 1000000000 := by omega
  unfold slw clm
  constructor <;> intro h <;> split <;> (try split) <;> omega
/-- The slew is done iff as much as is left could be slewed. -/
theorem slw_done {l q e : Int} (h0 : 0 ≤ e) (h2 : 0 ≤ q) : slw l q e = l ↔ (-(e * q / 1000000000) ≤ l ∧ l ≤ e * q / 1000000000) := by
  have b : 0 ≤ e * q := Int.mul_nonneg h0 h2
  have : 0 ≤ e * q / 1000000000 := by omega
  unfold slw clm
  constructor
  · split <;> (try split) <;> omega
  · intro h; rw [if_neg (by omega), if_neg (by omega)]
/-- The length of a slew: the least e in which all is slewed. -/
theorem ln_iff {l q e : Int} (h0 : 0 ≤ e) (h2 : 0 < q) : ln l q ≤ e ↔ slw l q e = l := by
  rw [slw_done h0 (by omega)]
  have b : 0 ≤ e * q := Int.mul_nonneg h0 (by omega)
  unfold ln
  by_cases hl : l = 0
  · subst hl; rw [if_pos rfl]; exact ⟨fun _ => by omega, fun _ => h0⟩
  · rw [if_neg hl]
    have key : ∀ m : Int, 0 < m → (-(-m * 1000000000 / q) ≤ e ↔ m ≤ e * q / 1000000000) := by
      intro m hm
      rw [show (-(-m * 1000000000 / q) ≤ e) ↔ (-e ≤ -m * 1000000000 / q) by omega, Int.le_ediv_iff_mul_le h2, Int.neg_mul, Int.neg_mul]
      omega
    rcases Int.lt_or_gt_of_ne hl with h | h
    · rw [sg_neg h, show -1 * l = -l from by omega, key (-l) (by omega)]; omega
    · rw [sg_pos h, show 1 * l = l from by omega, key l h]; omega
theorem ln_nonneg {l q : Int} (h2 : 0 < q) : 0 ≤ ln l q := by
  unfold ln
  by_cases hl : l = 0
  · rw [if_pos hl]; omega
  · rw [if_neg hl]
    have : 0 ≤ sg l * l := by
      unfold sg; split
      · omega
      · rw [if_pos (by omega)]; omega
    have h : -(sg l * l) * 1000000000 / q ≤ 0 := by
      have := Int.ediv_le_ediv h2 (show -(sg l * l) * 1000000000 ≤ 0 by omega)
      simpa using this
    omega
theorem ln_zero {q : Int} : ln 0 q = 0 := rfl
/-- All lengths of slews that end. -/
theorem ln_bound {l q e : Int} (h0 : 0 ≤ e) (h2 : l = 0 ∨ 0 < q) (hd : slw l q e = l) : 0 ≤ ln l q ∧ ln l q ≤ e := by
  rcases h2 with rfl | h
  · rw [ln_zero]; omega
  · exact ⟨ln_nonneg h, (ln_iff h0 h).2 hd⟩
theorem sgq_bound {l p q : Int} (h0 : -500000 ≤ p) (h1 : p ≤ 500000) (h2 : 0 ≤ q) (h3 : q ≤ 500000) : -1000000 ≤ p + sg l * q ∧ p + sg l * q ≤ 1000000 := by
  unfold sg; split
  · omega
  · split <;> omega
theorem shn_bound {t p l q e : Int} (ht : -4503599627370496 ≤ t ∧ t ≤ 4503599627370496) (hp : -500000 ≤ p ∧ p ≤ 500000) (hq : 0 ≤ q ∧ q ≤ 500000) (hlq : l = 0 ∨ 0 < q) (h0 : 0 ≤ e) (h1 : e ≤ 9007199254740992) :
    -1000000000000000000 ≤ shn t p l q e ∧ shn t p l q e ≤ 1000000000000000000 := by
  have a := sgq_bound (l := l) hp.1 hp.2 hq.1 hq.2
  unfold shn
  split
  · rename_i hd
    have hl := ln_bound h0 hlq hd
    have b := cnt_bound hl.1 (by omega) a.1 a.2
    have c := cnt_bound (e := e - ln l q) (p := p) (by omega) (by omega) (by omega) (by omega)
    omega
  · have b := cnt_bound h0 h1 a.1 a.2
    omega
theorem at_bound {x : St} {raw : Int} (h : Ok x) (h0 : x.r ≤ raw) (h1 : raw ≤ 4503599627370496) : -1000000000000000000 ≤ at' x raw ∧ at' x raw ≤ 1000000000000000000 := by
  obtain ⟨hr, ht, hl, hp, hq, hlq, hs⟩ := h
  exact shn_bound ht hp hq hlq (by omega) (by omega)
theorem lft_bound {x : St} {raw : Int} (h : Ok x) (h0 : x.r ≤ raw) : (0 ≤ x.l → 0 ≤ lft x raw ∧ lft x raw ≤ x.l) ∧ (x.l ≤ 0 → x.l ≤ lft x raw ∧ lft x raw ≤ 0) := by
  obtain ⟨hr, ht, hl, hp, hq, hlq, hs⟩ := h
  have := slw_sign (l := x.l) (q := x.q) (e := raw - x.r) (by omega) hq.1
  unfold lft
  omega
theorem mvE_iff {x : St} {raw : Int} : mvE x raw = 0 ↔ (x.r ≤ raw ∧ raw ≤ 4503599627370496 ∧ -4503599627370496 ≤ at' x raw ∧ at' x raw ≤ 4503599627370496) := by
  unfold mvE
  by_cases a : raw < x.r
  · rw [if_pos a]; omega
  · rw [if_neg a]
    by_cases b : 4503599627370496 < raw
    · rw [if_pos b]; omega
    · rw [if_neg b]
      by_cases c : win (at' x raw) 4503599627370496 = true
      · rw [if_pos c]; have := win_iff.1 c; omega
      · rw [if_neg c]
        have := win_iff' (n := at' x raw) (b := 4503599627370496)
        simp only [Bool.not_eq_true] at c
        have := this.1 c
        omega
/-- A moved state is valid. -/
theorem mv_ok {x : St} {raw : Int} (h : Ok x) (he : mvE x raw = 0) : Ok (mvG x raw) := by
  obtain ⟨h0, h1, h2, h3⟩ := mvE_iff.1 he
  have hb := lft_bound h h0
  obtain ⟨hr, ht, hl, hp, hq, hlq, hs⟩ := h
  refine ⟨⟨by show _ ≤ raw; omega, h1⟩, ⟨h2, h3⟩, ?_, hp, ?_, ?_, hs⟩
  · show -4503599627370496 ≤ lft x raw ∧ lft x raw ≤ 4503599627370496
    omega
  · show 0 ≤ (if lft x raw = 0 then 0 else x.q) ∧ (if lft x raw = 0 then 0 else x.q) ≤ 500000
    split <;> omega
  · show lft x raw = 0 ∨ 0 < (if lft x raw = 0 then 0 else x.q)
    split
    · left; assumption
    · right; omega
end Go.Proofs.Ytjcpfkibaohjjaa.Ck
