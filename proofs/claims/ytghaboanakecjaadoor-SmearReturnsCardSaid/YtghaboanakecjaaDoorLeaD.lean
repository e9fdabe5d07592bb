/- Contracts of layer 6: the program's Offset, TAI, UTC. -/
import Derived.Test.YtghaboanakecjaaDoorLeaC
namespace Go.Proofs.YtghaboanakecjaaDoor
open Go.RowKit Fx Cv Lp

/-- The first index at which p fails, from k on, m at most. -/
def Lp.fstG (p : Nat → Bool) : Nat → Nat → Nat
  | 0, k => k
  | m + 1, k => if p k = true then fstG p m (k + 1) else k
def Lp.fst (p : Nat → Bool) (n : Nat) : Nat := fstG p n 0
theorem Lp.fstG_spec (p : Nat → Bool) : ∀ m k, k ≤ fstG p m k ∧ fstG p m k ≤ k + m ∧ (∀ j, k ≤ j → j < fstG p m k → p j = true) ∧ (fstG p m k = k + m ∨ p (fstG p m k) = false) := by
  intro m
  induction m with
  | zero => intro k; exact ⟨Nat.le_refl _, Nat.le_refl _, fun j h1 h2 => absurd h2 (by simp only [fstG]; omega), .inl rfl⟩
  | succ m ih =>
    intro k
    simp only [fstG]
    by_cases h : p k = true
    · rw [if_pos h]
      obtain ⟨a, b, c, d⟩ := ih (k + 1)
      refine ⟨by omega, by omega, fun j h1 h2 => ?_, ?_⟩
      · rcases (show j = k ∨ k + 1 ≤ j by omega) with rfl | h3
        · exact h
        · exact c j h3 h2
      · rcases d with d | d
        · exact .inl (by omega)
        · exact .inr d
    · rw [if_neg h]
      exact ⟨Nat.le_refl _, by omega, fun j h1 h2 => by omega, .inr (by simpa using h)⟩
theorem Lp.fst_spec (p : Nat → Bool) (n : Nat) : fst p n ≤ n ∧ (∀ j, j < fst p n → p j = true) ∧ (fst p n = n ∨ p (fst p n) = false) := by
  obtain ⟨a, b, c, d⟩ := fstG_spec p n 0
  rw [Nat.zero_add] at b d
  exact ⟨b, fun j h => c j (by omega) h, d⟩
theorem Lp.fst_eq {p : Nat → Bool} {n k : Nat} (hk : k ≤ n) (h : ∀ j, j < k → p j = true) (h2 : k = n ∨ p k = false) : fst p n = k := by
  obtain ⟨a, b, c⟩ := fst_spec p n
  rcases Nat.lt_trichotomy (fst p n) k with hl | hl | hl
  · rcases c with c | c
    · omega
    · rw [h _ hl] at c; cases c
  · exact hl
  · rcases h2 with h2 | h2
    · omega
    · rw [b _ hl] at h2; cases h2
/-- How many entries there are up to a second. -/
def Lp.psU (f : Nat → Int × Int) (n : Nat) (u : Int) : Nat := fst (fun i => decide ((f i).1 ≤ u)) n
/-- The same for a second of atomic time. -/
def Lp.psT (f : Nat → Int × Int) (n : Nat) (t : Int) : Nat := fst (fun i => decide ((f i).1 + (f i).2 ≤ t)) n
theorem Lp.psU_le (f : Nat → Int × Int) (n : Nat) (u : Int) : psU f n u ≤ n := (fst_spec _ n).1
theorem Lp.psT_le (f : Nat → Int × Int) (n : Nat) (u : Int) : psT f n u ≤ n := (fst_spec _ n).1
def Lp.chaU (B : Int) (f : Nat → Int × Int) (n : Nat) (u : Int) : Int := if psU f n u < n ∧ (f (psU f n u)).1 = u + 1 then (f (psU f n u)).2 - offA B f (psU f n u) else 0
theorem Lp.chk_zero {B E : Int} {f : Nat → Int × Int} {n : Nat} (h : chkL B E f n = 0) : n ≤ 64 ∧ inR B E f n ∧ fE B f n = 0 := by
  unfold chkL at h
  by_cases a : 64 < n
  · rw [if_pos a] at h; omega
  · rw [if_neg a] at h
    by_cases b : inR B E f n
    · rw [if_pos b] at h; exact ⟨by omega, b, h⟩
    · rw [if_neg b] at h; omega

/-- What Offset returns. -/
def Lp.offU (B E : Int) (f : Nat → Int × Int) (n : Nat) (u : Int) : Int := if chkL B E f n = 0 then offA B f (psU f n u) else 0
end Go.Proofs.YtghaboanakecjaaDoor
