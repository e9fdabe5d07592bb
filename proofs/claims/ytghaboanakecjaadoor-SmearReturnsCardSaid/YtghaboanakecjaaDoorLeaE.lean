/- Contracts of layer 6: the program's TAI, UTC, Indicator, Next. -/
import Derived.Test.YtghaboanakecjaaDoorLeaD
namespace Go.Proofs.YtghaboanakecjaaDoor
open Go.RowKit Fx Cv Lp

/-- The error of TAI, and its second. -/
def Lp.taiE (B E : Int) (f : Nat → Int × Int) (n : Nat) (u : Int) (x : Bool) : Int :=
  if chkL B E f n ≠ 0 then chkL B E f n else if inS u = false then 3
  else if (if x = true then chaU B f n u ≠ 1 else chaU B f n u = -1) then 11 else 0
def Lp.taiV (B E : Int) (f : Nat → Int × Int) (n : Nat) (u : Int) (x : Bool) : Int :=
  if taiE B E f n u x = 0 then u + offA B f (psU f n u) + (if x = true then 1 else 0) else 0
theorem Lp.chaU_in {B E : Int} {f : Nat → Int × Int} {n : Nat} {u : Int} (h : inR B E f n) : -2000 ≤ chaU B f n u ∧ chaU B f n u ≤ 2000 := by
  unfold chaU
  by_cases c : psU f n u < n ∧ (f (psU f n u)).1 = u + 1
  · rw [if_pos c]
    have a := offA_in h (psU_le f n u)
    have b := (h.2.2 _ c.1).1
    omega
  · rw [if_neg c]; omega
theorem Lp.tai_bad {B E : Int} {f : Nat → Int × Int} {n : Nat} {u : Int} {x : Bool} {v : Int} (h : taiE B E f n u x = v) (h0 : v ≠ 0) : Ending.returned (.tuple #[.int .i64 0, .int .i64 v]) = .returned (.tuple #[.int .i64 (taiV B E f n u x), .int .i64 (taiE B E f n u x)]) := by
  unfold taiV; rw [h, if_neg h0]
theorem Lp.tai_good {B E : Int} {f : Nat → Int × Int} {n : Nat} {u : Int} {x : Bool} {v : Int} (h : taiE B E f n u x = 0) (hv : u + offA B f (psU f n u) + (if x = true then 1 else 0) = v) : Ending.returned (.tuple #[.int .i64 v, .int .i64 0]) = .returned (.tuple #[.int .i64 (taiV B E f n u x), .int .i64 (taiE B E f n u x)]) := by
  unfold taiV; rw [h, if_pos rfl, hv]

/-- The label of a second: the number of entries passed, the second, whether it is an inserted one. -/
def Lp.utX (B : Int) (f : Nat → Int × Int) (n : Nat) (t : Int) : Bool := decide (psT f n t < n) && decide (t - offA B f (psT f n t) = (f (psT f n t)).1)
def Lp.utU (B : Int) (f : Nat → Int × Int) (n : Nat) (t : Int) : Int := t - offA B f (psT f n t) - (if utX B f n t = true then 1 else 0)
def Lp.utE (B E : Int) (f : Nat → Int × Int) (n : Nat) (t : Int) : Int :=
  if chkL B E f n ≠ 0 then chkL B E f n else if okI (t - offA B f (psT f n t)) = true ∧ inS (utU B f n t) = true then 0 else 3
def Lp.utV (B E : Int) (f : Nat → Int × Int) (n : Nat) (t : Int) : Int := if utE B E f n t = 0 then utU B f n t else 0
def Lp.utP (B E : Int) (f : Nat → Int × Int) (n : Nat) (t : Int) : Bool := if utE B E f n t = 0 then utX B f n t else false
theorem Lp.ut_bad {B E : Int} {f : Nat → Int × Int} {n : Nat} {t v : Int} (h : utE B E f n t = v) (h0 : v ≠ 0) : Ending.returned (.tuple #[.int .i64 0, .bool false, .int .i64 v]) = .returned (.tuple #[.int .i64 (utV B E f n t), .bool (utP B E f n t), .int .i64 (utE B E f n t)]) := by
  unfold utV utP; rw [h, if_neg h0, if_neg h0]
theorem Lp.ut_good {B E : Int} {f : Nat → Int × Int} {n : Nat} {t v : Int} {x : Bool} (h : utE B E f n t = 0) (hv : utU B f n t = v) (hx : utX B f n t = x) : Ending.returned (.tuple #[.int .i64 v, .bool x, .int .i64 0]) = .returned (.tuple #[.int .i64 (utV B E f n t), .bool (utP B E f n t), .int .i64 (utE B E f n t)]) := by
  unfold utV utP; rw [h, if_pos rfl, if_pos rfl, hv, hx]
end Go.Proofs.YtghaboanakecjaaDoor
