/- The plain arithmetic of layer 4: PTP timestamps. No program in sight. -/
import Derived.Test.YtiecbpecpoojkaaFixL
namespace Go.Proofs.Ytiecbpecpoojkaa.Pt
open Go Fx

/-- Is a timestamp valid? -/
def ok (s n : Int) : Bool := decide (0 ≤ s ∧ s ≤ 281474976710655 ∧ 0 ≤ n ∧ n < 1000000000)
def chk (s n : Int) : Int := if ok s n = true then 0 else 3
theorem chk_yes {s n : Int} (h0 : 0 ≤ s) (h1 : s ≤ 281474976710655) (h2 : 0 ≤ n) (h3 : n < 1000000000) : chk s n = 0 := if_pos (decide_eq_true ⟨h0, h1, h2, h3⟩)
theorem chk_no {s n : Int} (h : s < 0 ∨ 281474976710655 < s ∨ n < 0 ∨ 1000000000 ≤ n) : chk s n = 3 := if_neg (by simp [ok]; omega)
theorem ok_iff {s n : Int} : ok s n = true ↔ (0 ≤ s ∧ s ≤ 281474976710655 ∧ 0 ≤ n ∧ n < 1000000000) := by simp [ok]
/-- The instant of a valid timestamp; may it be one? -/
def ins (s n : Int) : Int := (s + 2208988800) * 1000000000 + n
def timE (s n : Int) : Int := if ok s n = true ∧ ins s n ≤ 8000000000000000000 then 0 else 3
def timV (s n : Int) : Int := if ok s n = true ∧ ins s n ≤ 8000000000000000000 then ins s n else 0
/-- The timestamp of an instant. -/
def ofE (t : Int) : Int := if t < 2208988800000000000 then 3 else 0
def ofS (t : Int) : Int := if t < 2208988800000000000 then 0 else t / 1000000000 - 2208988800
def ofN (t : Int) : Int := if t < 2208988800000000000 then 0 else t % 1000000000
/-- A sum that saturates. -/
def satV (a b : Int) : Int := if a + b < -9223372036854775808 then -9223372036854775808 else if 9223372036854775807 < a + b then 9223372036854775807 else a + b
end Go.Proofs.Ytiecbpecpoojkaa.Pt
