/- The plain arithmetic of layer 5: days, years, months. No program in sight. -/
import Derived.Laws.BitsAllLaws
import Derived.Laws.BitsLemmas
namespace Go.Proofs.YtegpajdahanhfaaGreatDoor.Cv
open Go

/-- Is the year a leap year? -/
def isL (y : Int) : Bool := decide (y % 4 = 0 ∧ (y % 100 ≠ 0 ∨ y % 400 = 0))
/-- The days of a year. -/
def yd (y : Int) : Int := if isL y = true then 366 else 365
/-- The days of a month. -/
def md (y m : Int) : Int :=
  if m = 2 then (if isL y = true then 29 else 28)
  else if m = 4 ∨ m = 6 ∨ m = 9 ∨ m = 11 then 30
  else if 1 ≤ m ∧ m ≤ 12 then 31 else 0
/-- The day on which a year begins. -/
def ys (y : Int) : Int := 365 * (y - 1900) + (y - 1) / 4 - (y - 1) / 100 + (y - 1) / 400 - 460
/-- 1 in a leap year. -/
def lp (y : Int) : Int := if isL y = true then 1 else 0
/-- The days of a year that lie before a month. -/
def ms (y m : Int) : Int :=
  if m ≤ 1 then 0 else if m = 2 then 31 else if m = 3 then 59 + lp y else if m = 4 then 90 + lp y
  else if m = 5 then 120 + lp y else if m = 6 then 151 + lp y else if m = 7 then 181 + lp y
  else if m = 8 then 212 + lp y else if m = 9 then 243 + lp y else if m = 10 then 273 + lp y
  else if m = 11 then 304 + lp y else if m = 12 then 334 + lp y else 365 + lp y

theorem isL_iff (y : Int) : isL y = true ↔ (y % 4 = 0 ∧ (y % 100 ≠ 0 ∨ y % 400 = 0)) := by simp [isL]
theorem isL_cases (y : Int) : (isL y = true ∧ yd y = 366 ∧ lp y = 1) ∨ (isL y = false ∧ yd y = 365 ∧ lp y = 0) := by
  cases h : isL y <;> simp [yd, lp, h]
theorem lp_bound (y : Int) : 0 ≤ lp y ∧ lp y ≤ 1 := by rcases isL_cases y with h | h <;> omega
theorem yd_lp (y : Int) : yd y = 365 + lp y := by rcases isL_cases y with h | h <;> omega
theorem yd_bound (y : Int) : 365 ≤ yd y ∧ yd y ≤ 366 := by rcases isL_cases y with h | h <;> omega

theorem ys_succ (y : Int) : ys (y + 1) = ys y + yd y := by
  have e := isL_iff y
  rcases isL_cases y with ⟨h, h2, -⟩ | ⟨h, h2, -⟩
  · rw [h2]; have := e.1 h; simp only [ys]; omega
  · rw [h2]
    have : ¬ (y % 4 = 0 ∧ (y % 100 ≠ 0 ∨ y % 400 = 0)) := fun k => by simp [e.2 k] at h
    simp only [ys]; omega
theorem ys_1900 : ys 1900 = 0 := by decide
theorem ys_gap (y : Int) (n : Nat) : ys y + 365 * n ≤ ys (y + n) := by
  induction n with
  | zero => simp
  | succ n ih => have := ys_succ (y + n); have := yd_bound (y + n); rw [show y + ((n + 1 : Nat) : Int) = y + n + 1 by omega]; omega
theorem ys_mono {y z : Int} (h : y ≤ z) : ys y + 365 * (z - y) ≤ ys z := by
  have := ys_gap y (z - y).toNat
  rw [show y + ((z - y).toNat : Int) = z by omega] at this
  omega
theorem ys_400 (y : Int) : ys (y + 400) = ys y + 146097 := by simp only [ys]; omega

theorem md_bound {y m : Int} (h : 1 ≤ m) (h2 : m ≤ 12) : 28 ≤ md y m ∧ md y m ≤ 31 := by
  simp only [md]; cases isL y <;> simp <;> split <;> (try split) <;> omega
theorem md_zero {y m : Int} (h : m < 1 ∨ 12 < m) : md y m = 0 := by
  simp only [md]; rw [if_neg (by omega), if_neg (by omega), if_neg (by omega)]
theorem md_400 (y m : Int) : md (y + 400) m = md y m := by
  have : isL (y + 400) = isL y := by
    simp only [isL]; congr 1; apply propext; constructor <;> intro h <;> omega
  simp only [md, this]
theorem ms_one (y : Int) : ms y 1 = 0 := by simp [ms]
theorem ms_succ {y m : Int} (h : 1 ≤ m) (h2 : m ≤ 12) : ms y (m + 1) = ms y m + md y m := by
  have hm : m = 1 ∨ m = 2 ∨ m = 3 ∨ m = 4 ∨ m = 5 ∨ m = 6 ∨ m = 7 ∨ m = 8 ∨ m = 9 ∨ m = 10 ∨ m = 11 ∨ m = 12 := by omega
  rcases isL_cases y with ⟨h3, -, h4⟩ | ⟨h3, -, h4⟩ <;>
    rcases hm with hm | hm | hm | hm | hm | hm | hm | hm | hm | hm | hm | hm <;> subst hm <;> simp [ms, md, h3, h4]
theorem ms_13 (y : Int) : ms y 13 = yd y := by rw [yd_lp]; simp [ms]
theorem ms_gap (y m : Int) (h : 1 ≤ m) (n : Nat) (h2 : m + n ≤ 13) : ms y m + 28 * n ≤ ms y (m + n) := by
  induction n with
  | zero => simp
  | succ n ih =>
    have := ms_succ (y := y) (m := m + n) (by omega) (by omega)
    have := md_bound (y := y) (m := m + n) (by omega) (by omega)
    have := ih (by omega)
    rw [show m + ((n + 1 : Nat) : Int) = m + n + 1 by omega]; omega
theorem ms_mono {y m k : Int} (h : 1 ≤ m) (h2 : m ≤ k) (h3 : k ≤ 13) : ms y m + 28 * (k - m) ≤ ms y k := by
  have := ms_gap y m h (k - m).toNat (by omega)
  rw [show m + ((k - m).toNat : Int) = k by omega] at this
  omega

/-- The number of a day. -/
def num (y m d : Int) : Int := ys y + ms y m + d - 1
/-- A date of the calendar. -/
def Dat (y m d : Int) : Prop := 1 ≤ m ∧ m ≤ 12 ∧ 1 ≤ d ∧ d ≤ md y m

theorem num_in {y m d : Int} (h : Dat y m d) : ys y + ms y m ≤ num y m d ∧ num y m d < ys y + ms y (m + 1) := by
  have := ms_succ (y := y) h.1 h.2.1
  have := h.2.2
  simp only [num]; omega
theorem num_year {y m d : Int} (h : Dat y m d) : ys y ≤ num y m d ∧ num y m d < ys (y + 1) := by
  have h1 := num_in h
  have h2 := ms_mono (y := y) (m := 1) (k := m) (by omega) h.1 (by have := h.2.1; omega)
  have h3 := ms_mono (y := y) (m := m + 1) (k := 13) (by have := h.1; omega) (by have := h.2.1; omega) (by omega)
  have h4 := h.1
  have h5 := h.2.1
  rw [ms_one] at h2; rw [ms_13] at h3
  have := ys_succ y
  omega
/-- The order of dates is that of their days. -/
theorem num_lt {y m d y' m' d' : Int} (h : Dat y m d) (h' : Dat y' m' d')
    (hl : y < y' ∨ (y = y' ∧ (m < m' ∨ (m = m' ∧ d < d')))) : num y m d < num y' m' d' := by
  rcases hl with hl | ⟨rfl, hl | ⟨rfl, hl⟩⟩
  · have := (num_year h).2
    have := (num_year h').1
    have := ys_mono (y := y + 1) (z := y') (by omega)
    omega
  · have := (num_in h).2
    have := (num_in h').1
    have := ms_mono (y := y) (m := m + 1) (k := m') (by have := h.1; omega) (by omega) (by have := h'.2.1; omega)
    omega
  · simp only [num]; omega
theorem num_inj {y m d y' m' d' : Int} (h : Dat y m d) (h' : Dat y' m' d') (he : num y m d = num y' m' d') :
    y = y' ∧ m = m' ∧ d = d' := by
  by_cases c : y < y' ∨ (y = y' ∧ (m < m' ∨ (m = m' ∧ d < d')))
  · have := num_lt h h' c; omega
  by_cases c' : y' < y ∨ (y' = y ∧ (m' < m ∨ (m' = m ∧ d' < d)))
  · have := num_lt h' h c'; omega
  omega

/-- The year of a day. -/
def cy (n : Int) : Int :=
  if n < ys (1900 + n * 400 / 146097) then 1900 + n * 400 / 146097 - 1
  else if ys (1900 + n * 400 / 146097 + 1) ≤ n then 1900 + n * 400 / 146097 + 1 else 1900 + n * 400 / 146097
theorem cy_low (n : Int) : ys (1900 + n * 400 / 146097 - 1) ≤ n := by
  simp only [ys]; omega
theorem cy_high (n : Int) : n < ys (1900 + n * 400 / 146097 + 1 + 1) := by
  simp only [ys]; omega
theorem cy_in (n : Int) : ys (cy n) ≤ n ∧ n < ys (cy n + 1) := by
  have h1 := cy_low n
  have h2 := cy_high n
  simp only [cy]
  split
  · refine ⟨h1, ?_⟩; rw [show (1900 + n * 400 / 146097 - 1 + 1 : Int) = 1900 + n * 400 / 146097 by omega]; assumption
  · split
    · exact ⟨by assumption, h2⟩
    · exact ⟨by omega, by omega⟩
theorem cy_of {n y : Int} (h : ys y ≤ n) (h2 : n < ys (y + 1)) : cy n = y := by
  have h3 := cy_in n
  by_cases c : cy n < y
  · have := ys_mono (y := cy n + 1) (z := y) (by omega); omega
  by_cases c' : y < cy n
  · have := ys_mono (y := y + 1) (z := cy n) (by omega); omega
  omega
/-- The month of a day of a year. -/
def cmo (y r : Int) : Int :=
  if r < ms y 2 then 1 else if r < ms y 3 then 2 else if r < ms y 4 then 3 else if r < ms y 5 then 4
  else if r < ms y 6 then 5 else if r < ms y 7 then 6 else if r < ms y 8 then 7 else if r < ms y 9 then 8
  else if r < ms y 10 then 9 else if r < ms y 11 then 10 else if r < ms y 12 then 11 else 12
theorem cmo_in {y r : Int} (h : 0 ≤ r) (h2 : r < yd y) :
    1 ≤ cmo y r ∧ cmo y r ≤ 12 ∧ ms y (cmo y r) ≤ r ∧ r < ms y (cmo y r + 1) := by
  have h13 := ms_13 y
  have h1 := ms_one y
  simp only [cmo]
  repeat' split
  all_goals (refine ⟨by omega, by omega, ?_, ?_⟩ <;> (try simp only [Int.reduceAdd]) <;> omega)
theorem cmo_of {y r m : Int} (h1 : 1 ≤ m) (h12 : m ≤ 12) (h : ms y m ≤ r) (h2 : r < ms y (m + 1)) : cmo y r = m := by
  have hy : 0 ≤ r ∧ r < yd y := by
    have a := ms_mono (y := y) (m := 1) (k := m) (by omega) h1 (by omega)
    have b := ms_mono (y := y) (m := m + 1) (k := 13) (by omega) (by omega) (by omega)
    rw [ms_one] at a; rw [ms_13] at b; omega
  have h3 := cmo_in hy.1 hy.2
  by_cases c : cmo y r < m
  · have := ms_mono (y := y) (m := cmo y r + 1) (k := m) (by omega) (by omega) (by omega); omega
  by_cases c' : m < cmo y r
  · have := ms_mono (y := y) (m := m + 1) (k := cmo y r) (by omega) (by omega) (by omega); omega
  omega
/-- Month and day of a day. -/
def cm (n : Int) : Int := cmo (cy n) (n - ys (cy n))
def cd (n : Int) : Int := n - ys (cy n) - ms (cy n) (cm n) + 1
theorem civ_dat (n : Int) : Dat (cy n) (cm n) (cd n) ∧ num (cy n) (cm n) (cd n) = n := by
  have h := cy_in n
  have h2 := ys_succ (cy n)
  obtain ⟨a, b, c, d⟩ := cmo_in (y := cy n) (r := n - ys (cy n)) (by omega) (by omega)
  have e := ms_succ (y := cy n) a b
  refine ⟨⟨a, b, ?_, ?_⟩, ?_⟩
  · simp only [cd, cm]; omega
  · simp only [cd, cm]; omega
  · simp only [num, cd]; omega
theorem civ_num {y m d : Int} (h : Dat y m d) : cy (num y m d) = y ∧ cm (num y m d) = m ∧ cd (num y m d) = d := by
  have := civ_dat (num y m d)
  exact num_inj this.1 h this.2
end Go.Proofs.YtegpajdahanhfaaGreatDoor.Cv
