/- Contracts of layer 5: Seconds of the specification. -/
import Derived.Test.YtegpajdahanhfaaGreatDoorCivB
import Derived.Test.YtegpajdahanhfaaGreatDoorFixG
namespace Go.Proofs.YtegpajdahanhfaaGreatDoor
open Go.RowKit Fx Cv

/-- The second of a civil time. -/
def Cv.secN (y m d hh mi s : Int) : Int := num y m d * 86400 + hh * 3600 + mi * 60 + s
/-- Is it one of the seconds that have a civil time? -/
def Cv.inS (t : Int) : Bool := decide (-8000000000 ≤ t ∧ t ≤ 8000000000)
def Cv.secE (y m d hh mi s n : Int) : Int := if okC y m d hh mi s n = true ∧ inS (secN y m d hh mi s) = true then 0 else 3
def Cv.secV (y m d hh mi s n : Int) : Int := if secE y m d hh mi s n = 0 then secN y m d hh mi s else 0
theorem Cv.sec_no {y m d hh mi s n : Int} (h : ¬ (okC y m d hh mi s n = true ∧ inS (secN y m d hh mi s) = true)) : secE y m d hh mi s n = 3 ∧ secV y m d hh mi s n = 0 := by
  have e : secE y m d hh mi s n = 3 := by unfold secE; rw [if_neg h]
  exact ⟨e, by unfold secV; rw [e, if_neg (by decide)]⟩
theorem Cv.sec_yes {y m d hh mi s n : Int} (h : okC y m d hh mi s n = true) (h2 : inS (secN y m d hh mi s) = true) : secE y m d hh mi s n = 0 ∧ secV y m d hh mi s n = secN y m d hh mi s := by
  have e : secE y m d hh mi s n = 0 := by unfold secE; rw [if_pos ⟨h, h2⟩]
  exact ⟨e, by unfold secV; rw [if_pos e]⟩
theorem Cv.ret_ii {a b c d : Int} (h : a = b) (h' : c = d) : Ending.returned (.tuple #[.int .i64 a, .int .i64 c]) = .returned (.tuple #[.int .i64 b, .int .i64 d]) := by rw [h, h']
theorem Cv.blwn {B : Nat} {a w : World} (h : Below B a w) (n : Nat) : Below B a (w.drewN n) := ⟨h.os, h.tape, h.output, h.size, h.block⟩
theorem Cv.sz_alloc (w : World) (o : Obj) : (w.alloc o).heap.size = w.heap.size + 1 := by simp
theorem Cv.ys_1600 : ys 1600 = -109573 := by decide
theorem Cv.ys_2200 : ys 2200 = 109573 := by decide
theorem Cv.ys_bound {y : Int} (h : 1600 ≤ y) (h2 : y ≤ 2200) : -109573 ≤ ys y ∧ ys y ≤ 109573 := by
  have a := ys_mono h
  have b := ys_mono h2
  rw [ys_1600] at a; rw [ys_2200] at b
  omega
theorem Cv.ms_bound {y m : Int} (h : 1 ≤ m) (h2 : m ≤ 12) : 0 ≤ ms y m ∧ ms y m ≤ 366 := by
  have a := ms_mono (y := y) (m := 1) (k := m) (by omega) h (by omega)
  have b := ms_mono (y := y) (m := m) (k := 13) h (by omega) (by omega)
  have := yd_bound y
  rw [ms_one] at a; rw [ms_13] at b
  omega

end Go.Proofs.YtegpajdahanhfaaGreatDoor
