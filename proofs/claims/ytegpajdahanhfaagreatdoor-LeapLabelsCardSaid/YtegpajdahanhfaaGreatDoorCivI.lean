/- Contracts of layer 5: Parse and Of of the specification, for every input. -/
import Derived.Test.YtegpajdahanhfaaGreatDoorCivH
namespace Go.Proofs.YtegpajdahanhfaaGreatDoor
open Go.RowKit Fx Cv Pt

/-- The error and the parts of a second, or zeros. -/
def Cv.ofE (t : Int) : Int := if inS t = true then 0 else 3
def Cv.ofP (t v : Int) : Int := if inS t = true then v else 0
theorem rof_any (t : Int) (w : World) :
    Calls Tryz.prog 53 #[.int .i64 t] w fun e w' => e = .returned (.tuple #[.agg #[.int .i64 (ofP t (oY t)), .int .i64 (ofP t (oM t)), .int .i64 (ofP t (oD t)), .int .i64 (ofP t (oH t)), .int .i64 (ofP t (oI t)), .int .i64 (ofP t (oS t)), .int .i64 (ofP t (0))], .int .i64 (ofE t)]) ∧ Below w.heap.size w w' := by
  unfold ofE ofP
  cases h : inS t
  · have hn : t < -8000000000 ∨ 8000000000 < t := by
      by_cases a : t < -8000000000
      · exact .inl a
      · by_cases b : 8000000000 < t
        · exact .inr b
        · simp [inS] at h; omega
    simp only [Bool.false_eq_true, if_false]
    exact rof_no t w hn
  · have hy : -8000000000 ≤ t ∧ t ≤ 8000000000 := by simpa [inS] using h
    simp only [if_true]
    exact rof_ok t w hy.1 hy.2
end Go.Proofs.YtegpajdahanhfaaGreatDoor
