/- Contracts of layer 5, of the specification: leap years, days of months and years, the day of a second. -/
import Derived.Test.YtgeklbpkmfeheaaDoorFixG
import Derived.Test.YtgeklbpkmfeheaaDoorCivM
namespace Go.Proofs.YtgeklbpkmfeheaaDoor
open Go.RowKit Fx Cv

theorem Cv.tmod_zero (y : Int) {k : Int} : Int.tmod y k = 0 ↔ y % k = 0 := by
  rw [← Int.dvd_iff_tmod_eq_zero, ← Int.dvd_iff_emod_eq_zero]

theorem Cv.md_yes (y : Int) {m : Int} (h : m = 1 ∨ m = 3 ∨ m = 5 ∨ m = 7 ∨ m = 8 ∨ m = 10 ∨ m = 12) : md y m = 31 := by
  simp only [md]; rw [if_neg (by omega), if_neg (by omega), if_pos (by omega)]
theorem Cv.md_30 (y : Int) {m : Int} (h : m = 4 ∨ m = 6 ∨ m = 9 ∨ m = 11) : md y m = 30 := by
  simp only [md]; rw [if_neg (by omega), if_pos (by omega)]

theorem Cv.flo_86400 (s : Int) : flo s 86400 = s / 86400 := by unfold flo; simp
end Go.Proofs.YtgeklbpkmfeheaaDoor
