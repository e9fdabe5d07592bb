/- Contracts of layer 2: the program's reader, its calls. -/
import Derived.Test.YtiecbpecpoojkaaWirF
namespace Go.Proofs.Ytiecbpecpoojkaa
open Go.RowKit Wi

def Wi.takeOk (l : List Int) (err n : Int) : Prop := err = 0 ∧ 0 ≤ n ∧ n ≤ l.length
instance (l : List Int) (err n : Int) : Decidable (takeOk l err n) := by unfold takeOk; infer_instance
def Wi.takeV (l : List Int) (err n : Int) : List Int := if takeOk l err n then l.take n.toNat else []
def Wi.takeL (l : List Int) (err n : Int) : List Int := if takeOk l err n then l.drop n.toNat else l
def Wi.takeE (l : List Int) (err n : Int) : Int := if err = 0 then (if n < 0 then 2 else if (l.length : Int) < n then 5 else 0) else err

/-- The number of size bytes with a sign. -/
def Wi.sgn (V : Int) (s : Nat) : Int := if V * 2 < ((256 ^ s : Nat) : Int) then V else V - ((256 ^ s : Nat) : Int)
theorem Wi.sgn_shift {V : Int} {s : Nat} (h1 : 1 ≤ s) (h2 : s ≤ 8) (v0 : 0 ≤ V) (v1 : V < ((256 ^ s : Nat) : Int)) :
    wrap64 (IntKind.u64.wrap (V * 2 ^ (8 * (8 - s)))) / 2 ^ (8 * (8 - s)) = sgn V s := by
  unfold sgn wrap64
  rw [IntKind.wrap_u64]
  obtain rfl | rfl | rfl | rfl | rfl | rfl | rfl | rfl : s = 1 ∨ s = 2 ∨ s = 3 ∨ s = 4 ∨ s = 5 ∨ s = 6 ∨ s = 7 ∨ s = 8 := by omega
  all_goals
    simp only [Nat.reduceSub, Nat.reduceMul, Int.reducePow, Nat.reducePow] at v1 ⊢
    split <;> omega

theorem puint_any (g : Nat) (l : List Int) (err size : Int) (w : World) (h : PRd w g l err) :
    Calls Try.prog 19 #[.pointer (some ⟨g, 0, none⟩), .int .i64 size] w fun e w' =>
      e = .returned (.int .u64 (numV l err size)) ∧ PRd w' g (numL l err size) (numE l err size) ∧ w.grownBy w' (some g) := by
  have H := Lib.hid h
  clear h
  go_enter Try.func19, Try.ntmps19
  go_wp2_with fail
  refine (pnumber_any g l err size _ H.out).mono ?_
  rintro e w' ⟨rfl, hp, hg⟩
  go_wp2_with fail
  go_ret
  exact ⟨rfl, hp, hg⟩

/-- What Int returns. -/
def Wi.intV (l : List Int) (err size : Int) : Int := if numE l err size = 0 then sgn (numV l err size) size.toNat else 0

theorem Wi.numE_zero {l : List Int} {err size : Int} (h : numE l err size = 0) : err = 0 ∧ 1 ≤ size ∧ size ≤ 8 ∧ size ≤ l.length ∧ getE l.length 0 size = 0 := by
  unfold numE at h
  by_cases he : err = 0
  · rw [if_pos he] at h
    refine ⟨he, ?_⟩
    have h' := h
    unfold getE at h
    by_cases c1 : size < 1 ∨ 8 < size
    · rw [if_pos c1] at h; exact absurd h (by decide)
    · rw [if_neg c1] at h
      by_cases c2 : (0 : Int) < 0 ∨ (l.length : Int) - 0 < size
      · rw [if_pos c2] at h; exact absurd h (by decide)
      · exact ⟨by omega, by omega, by omega, h'⟩
  · rw [if_neg he] at h; exact absurd h he

end Go.Proofs.Ytiecbpecpoojkaa
