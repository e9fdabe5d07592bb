/- The walk of WireRoundTrip: the numbers. -/
import Derived.Test.YtkcllhcinbcgiaaWirY
import Derived.RegionTactic
import Derived.ChangeAlike
import Derived.BigRegion
namespace Go.Proofs.Ytkcllhcinbcgiaa
open Go.RowKit Wi Go.ChangeShapes Go.WideShapes

def Wi.finS (x : Int) : Nat := (IntKind.u64.wrap x % 8).toNat + 1
def Wi.fin (p : Int × Int) : Int × Int := (p.1 / 2 ^ (64 - 8 * finS p.2), (finS p.2 : Int))
theorem Wi.finS_facts (x : Int) : 1 ≤ finS x ∧ finS x ≤ 8 ∧ (IntKind.u64.wrap x).tmod 8 = ((finS x - 1 : Nat) : Int) := by
  have h : 0 ≤ IntKind.u64.wrap x := by rw [IntKind.wrap_u64]; omega
  rw [Int.tmod_eq_emod_of_nonneg h]
  unfold finS
  omega
theorem Wi.shr_facts (n : Int) {s : Nat} (h1 : 1 ≤ s) (h8 : s ≤ 8) (n0 : 0 ≤ n) (n1 : n ≤ 18446744073709551615) :
    0 ≤ n / 2 ^ (64 - 8 * s) ∧ n / 2 ^ (64 - 8 * s) ≤ 18446744073709551615 ∧ n / 2 ^ (64 - 8 * s) < ((256 ^ s : Nat) : Int) ∧ n / 2 ^ (64 - 8 * s) / 2 ^ (8 * s) = 0 := by
  obtain rfl | rfl | rfl | rfl | rfl | rfl | rfl | rfl : s = 1 ∨ s = 2 ∨ s = 3 ∨ s = 4 ∨ s = 5 ∨ s = 6 ∨ s = 7 ∨ s = 8 := by omega
  all_goals
    simp only [Nat.reduceSub, Nat.reduceMul, Int.reducePow, Nat.reducePow]
    omega
theorem Wi.app_good (L : List Int) (n : Int) {s : Nat} (h1 : 1 ≤ s) (h8 : s ≤ 8) (hz : n / 2 ^ (8 * s) = 0) : appE n s = 0 ∧ appR L n s = L ++ beB n s := by
  have e : appE n s = 0 := by
    unfold appE
    rw [if_neg (by omega), Int.toNat_natCast, if_neg (by rw [hz]; simp)]
  refine ⟨e, ?_⟩
  unfold appR
  rw [if_pos e, Int.toNat_natCast]

/-- The bytes of the first k numbers. -/
def Wi.cat (f : Nat → Int × Int) : Nat → List Int
  | 0 => []
  | k + 1 => cat f k ++ beB (f k).1 (f k).2.toNat
theorem Wi.cat_bytes (f : Nat → Int × Int) (k : Nat) : Bytes (cat f k) := by
  induction k with
  | zero => exact fun x hx => by cases hx
  | succ k ih => exact ih.append (beB_bytes _ _)
theorem Wi.cat_len (f : Nat → Int × Int) (hf : ∀ i, 0 ≤ (f i).2 ∧ (f i).2 ≤ 8) (k : Nat) : (cat f k).length ≤ 8 * k := by
  induction k with
  | zero => simp [cat]
  | succ k ih =>
    have := hf k
    simp only [cat, List.length_append, beB_length]
    omega
theorem Wi.cat_split (f : Nat → Int × Int) (z k : Nat) (h : k ≤ z) : ∃ R, cat f z = cat f k ++ R := by
  induction z with
  | zero => obtain rfl : k = 0 := by omega
            exact ⟨[], by simp⟩
  | succ z ih =>
    rcases Nat.lt_or_ge z k with h1 | h1
    · obtain rfl : k = z + 1 := by omega
      exact ⟨[], by simp⟩
    · obtain ⟨R, hR⟩ := ih h1
      exact ⟨R ++ beB (f z).1 (f z).2.toNat, by simp only [cat, hR, List.append_assoc]⟩
theorem Wi.cat_next (f : Nat → Int × Int) {z k : Nat} (h : k < z) : (cat f z).drop (cat f k).length = beB (f k).1 (f k).2.toNat ++ (cat f z).drop (cat f (k + 1)).length ∧ (cat f (k + 1)).length = (cat f k).length + (f k).2.toNat := by
  obtain ⟨R, hR⟩ := cat_split f z (k + 1) h
  have e : (cat f (k + 1)).length = (cat f k).length + (f k).2.toNat := by simp only [cat, List.length_append, beB_length]
  refine ⟨?_, e⟩
  have h2 : (cat f z).drop (cat f (k + 1)).length = R := by rw [hR, List.drop_left]
  rw [h2, hR]
  show List.drop _ ((cat f k ++ beB (f k).1 (f k).2.toNat) ++ R) = _
  rw [List.append_assoc, List.drop_left]
/-- What a reader and Get say of the next number. -/
theorem Wi.next_facts {N : Int} {s : Nat} {R l : List Int} {at_ : Nat} (h1 : 1 ≤ s) (h8 : s ≤ 8) (n0 : 0 ≤ N) (n1 : N < ((256 ^ s : Nat) : Int)) (hl : l.drop at_ = beB N s ++ R) (hat : at_ ≤ l.length) :
    numV (l.drop at_) 0 s = N ∧ numL (l.drop at_) 0 s = R ∧ numE (l.drop at_) 0 s = 0 ∧ getV l at_ s = N ∧ getE l.length at_ s = 0 := by
  have hlen : (l.drop at_).length = s + R.length := by rw [hl, List.length_append, beB_length]
  have hdl : l.length - at_ = s + R.length := by rw [← hlen, List.length_drop]
  have htk : (l.drop at_).take s = beB N s := by rw [hl]; exact List.take_left' (beB_length _ _)
  have hE : getE (l.drop at_).length 0 s = 0 := by unfold getE; rw [if_neg (by omega), if_neg (by omega)]
  have hE2 : getE l.length at_ s = 0 := by unfold getE; rw [if_neg (by omega), if_neg (by omega)]
  have hv : beVal (beB N s) = N := by rw [beVal_beB, Int.emod_eq_of_lt n0 n1]
  refine ⟨?_, ?_, ?_, ?_, hE2⟩
  · unfold numV; rw [if_pos rfl]; unfold getV; rw [if_pos hE, Int.toNat_natCast, show (0 : Int).toNat = 0 from rfl, List.drop_zero, htk, hv]
  · unfold numL; rw [if_pos ⟨rfl, hE⟩, Int.toNat_natCast, hl]; exact List.drop_left' (beB_length _ _)
  · unfold numE; rw [if_pos rfl, hE]
  · unfold getV; rw [if_pos hE2, Int.toNat_natCast, Int.toNat_natCast, htk, hv]

end Go.Proofs.Ytkcllhcinbcgiaa
