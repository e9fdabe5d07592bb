/- Plain arithmetic of layer 5: seconds and civil times, the next second, the cycle. -/
import Derived.Test.YtnhaflnlhcabpaaDoorCivT
namespace Go.Proofs.YtnhaflnlhcabpaaDoor
open Go.RowKit Fx Cv Pt

theorem Cv.inS_iff {t : Int} : inS t = true ↔ (-8000000000 ≤ t ∧ t ≤ 8000000000) := by simp [inS]
theorem Cv.inS_no {t : Int} (h : t < -8000000000 ∨ 8000000000 < t) : inS t = false := by
  cases hi : inS t
  · rfl
  · have := inS_iff.1 hi; omega
theorem Cv.clock (t : Int) : 0 ≤ oH t ∧ oH t ≤ 23 ∧ 0 ≤ oI t ∧ oI t ≤ 59 ∧ 0 ≤ oS t ∧ oS t ≤ 59 ∧ oH t * 3600 + oI t * 60 + oS t = t % 86400 := by
  simp only [oH, oI, oS]; omega
theorem Cv.date (t : Int) : Dat (oY t) (oM t) (oD t) ∧ num (oY t) (oM t) (oD t) = t / 86400 := civ_dat (t / 86400)
theorem Cv.sec_of_of (t : Int) : secN (oY t) (oM t) (oD t) (oH t) (oI t) (oS t) = t := by
  have a := clock t
  have b := (date t).2
  simp only [secN]; rw [b]; omega
theorem Cv.of_ok {t : Int} (h : inS t = true) : okC (oY t) (oM t) (oD t) (oH t) (oI t) (oS t) 0 = true := by
  have a := clock t
  obtain ⟨m0, m1, d0, d1⟩ := (date t).1
  have hy := inS_iff.1 h
  have b : 1600 ≤ oY t ∧ oY t ≤ 2200 := cy_bound (q := t / 86400) (by omega) (by omega)
  exact okC_iff.2 ⟨b.1, b.2, m0, m1, d0, d1, a.1, a.2.1, a.2.2.1, a.2.2.2.1, a.2.2.2.2.1, a.2.2.2.2.2.1, by decide, by decide⟩
theorem Cv.of_nano {y m d hh mi s n : Int} (h : okC y m d hh mi s n = true) : okC y m d hh mi s 0 = true := by
  have := okC_iff.1 h
  exact okC_iff.2 (by omega)
theorem Cv.of_sec {y m d hh mi s : Int} (hd : Dat y m d) (h0 : 0 ≤ hh) (h1 : hh ≤ 23) (i0 : 0 ≤ mi) (i1 : mi ≤ 59) (s0 : 0 ≤ s) (s1 : s ≤ 59) {t : Int} (ht : secN y m d hh mi s = t) :
    oY t = y ∧ oM t = m ∧ oD t = d ∧ oH t = hh ∧ oI t = mi ∧ oS t = s := by
  simp only [secN] at ht
  obtain ⟨q, hq⟩ : ∃ q, num y m d = q := ⟨_, rfl⟩
  have hc := civ_num hd
  rw [hq] at ht hc
  have e : t / 86400 = q := by omega
  have e2 : t % 86400 = hh * 3600 + mi * 60 + s := by omega
  simp only [oY, oM, oD, oH, oI, oS, e, e2]
  exact ⟨hc.1, hc.2.1, hc.2.2, by omega, by omega, by omega⟩

/-! ### 400 years -/
theorem Cv.isL_400 (y : Int) : isL (y + 400) = isL y := by
  simp only [isL]; apply decide_eq_decide.2; constructor <;> intro h <;> omega
theorem Cv.ms_400 (y m : Int) : ms (y + 400) m = ms y m := by
  have : lp (y + 400) = lp y := by simp only [lp, isL_400]
  simp only [ms, this]
theorem Cv.num_400 (y m d : Int) : num (y + 400) m d = num y m d + 146097 := by
  simp only [num, ys_400, ms_400]; omega
theorem Cv.of_400 (t : Int) : oY (t + 12622780800) = oY t + 400 ∧ oM (t + 12622780800) = oM t ∧ oD (t + 12622780800) = oD t ∧ oH (t + 12622780800) = oH t ∧ oI (t + 12622780800) = oI t ∧ oS (t + 12622780800) = oS t := by
  have a := clock t
  have hd := (date t).1
  have hs := sec_of_of t
  refine of_sec (y := oY t + 400) ?_ a.1 a.2.1 a.2.2.1 a.2.2.2.1 a.2.2.2.2.1 a.2.2.2.2.2.1 ?_
  · obtain ⟨m0, m1, d0, d1⟩ := hd
    exact ⟨m0, m1, d0, by rw [md_400]; exact d1⟩
  · simp only [secN] at hs ⊢
    rw [num_400]; omega
theorem Cv.md_sum (y : Int) : md y 1 + md y 2 + md y 3 + md y 4 + md y 5 + md y 6 + md y 7 + md y 8 + md y 9 + md y 10 + md y 11 + md y 12 = yd y := by
  rcases isL_cases y with ⟨h, h2, -⟩ | ⟨h, h2, -⟩ <;> rw [h2] <;> simp [md, h]

/-! ### The next second -/
theorem Cv.day_next {y m d : Int} (_h : Dat y m d) : num y m (d + 1) = num y m d + 1 := by simp only [num]; omega
theorem Cv.month_next {y m d : Int} (h : Dat y m d) (hd : d = md y m) : num y (m + 1) 1 = num y m d + 1 := by
  have := ms_succ (y := y) h.1 h.2.1
  simp only [num]; omega
theorem Cv.year_next {y d : Int} (hd : d = md y 12) : num (y + 1) 1 1 = num y 12 d + 1 := by
  have a := ms_succ (y := y) (m := 12) (by decide) (by decide)
  have b := ms_13 y
  have c := ys_succ y
  have e := ms_one (y + 1)
  rw [show (12 : Int) + 1 = 13 from rfl] at a
  simp only [num]; omega
theorem Cv.dat_first {y m : Int} (h0 : 1 ≤ m) (h1 : m ≤ 12) : Dat y m 1 := ⟨h0, h1, by decide, by have := md_bound (y := y) h0 h1; omega⟩
end Go.Proofs.YtnhaflnlhcabpaaDoor
