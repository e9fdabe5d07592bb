/- Contracts of layer 2: the program's reader, its calls. -/
import Derived.Test.YtkcllhcinbcgiabWirF
namespace Go.Proofs.Ytkcllhcinbcgiab
open Go.RowKit Wi

def Wi.takeOk (l : List Int) (err n : Int) : Prop := err = 0 ∧ 0 ≤ n ∧ n ≤ l.length
instance (l : List Int) (err n : Int) : Decidable (takeOk l err n) := by unfold takeOk; infer_instance
def Wi.takeV (l : List Int) (err n : Int) : List Int := if takeOk l err n then l.take n.toNat else []
def Wi.takeL (l : List Int) (err n : Int) : List Int := if takeOk l err n then l.drop n.toNat else l
def Wi.takeE (l : List Int) (err n : Int) : Int := if err = 0 then (if n < 0 then 2 else if (l.length : Int) < n then 5 else 0) else err

/-- The number of size bytes with a sign. -/
def Wi.sgn (V : Int) (s : Nat) : Int := if V * 2 < ((256 ^ s : Nat) : Int) then V else V - ((256 ^ s : Nat) : Int)
theorem Wi.sgn_shift {V : Int} {s : Nat} (h1 : 1 ≤ s) (h2 : s ≤ 8) (v0 : 0 ≤ V) (v1 : V < ((256 ^ s : Nat) : Int)) :
    wrap64 (IntKind.u64.wrap (V * 2 ^ (8 * (8 - s)))) / 2 ^ (8 * (8 - s)) = sgn V s := by
  unfold sgn wrap64
  rw [IntKind.wrap_u64]
  obtain rfl | rfl | rfl | rfl | rfl | rfl | rfl | rfl : s = 1 ∨ s = 2 ∨ s = 3 ∨ s = 4 ∨ s = 5 ∨ s = 6 ∨ s = 7 ∨ s = 8 := by omega
  all_goals
    simp only [Nat.reduceSub, Nat.reduceMul, Int.reducePow, Nat.reducePow] at v1 ⊢
    split <;> omega

theorem puint_any (g : Nat) (l : List Int) (err size : Int) (w : World) (h : PRd w g l err) :
    Calls Try.prog 13 #[.pointer (some ⟨g, 0, none⟩), .int .i64 size] w fun e w' =>
      e = .returned (.int .u64 (numV l err size)) ∧ PRd w' g (numL l err size) (numE l err size) ∧ w.grownBy w' (some g) := by
  have H := Lib.hid h
  clear h
  go_enter Try.func13, Try.ntmps13
  go_wp2_with fail
  refine (pnumber_any g l err size _ H.out).mono ?_
  rintro e w' ⟨rfl, hp, hg⟩
  go_wp2_with fail
  go_ret
  exact ⟨rfl, hp, hg⟩

/-- What Int returns. -/
def Wi.intV (l : List Int) (err size : Int) : Int := if numE l err size = 0 then sgn (numV l err size) size.toNat else 0

theorem Wi.numE_zero {l : List Int} {err size : Int} (h : numE l err size = 0) : err = 0 ∧ 1 ≤ size ∧ size ≤ 8 ∧ size ≤ l.length ∧ getE l.length 0 size = 0 := by
  unfold numE at h
  by_cases he : err = 0
  · rw [if_pos he] at h
    refine ⟨he, ?_⟩
    have h' := h
    unfold getE at h
    by_cases c1 : size < 1 ∨ 8 < size
    · rw [if_pos c1] at h; exact absurd h (by decide)
    · rw [if_neg c1] at h
      by_cases c2 : (0 : Int) < 0 ∨ (l.length : Int) - 0 < size
      · rw [if_pos c2] at h; exact absurd h (by decide)
      · exact ⟨by omega, by omega, by omega, h'⟩
  · rw [if_neg he] at h; exact absurd h he

theorem pint_any (g : Nat) (l : List Int) (err size : Int) (w : World) (h : PRd w g l err) :
    Calls Try.prog 14 #[.pointer (some ⟨g, 0, none⟩), .int .i64 size] w fun e w' =>
      e = .returned (.int .i64 (intV l err size)) ∧ PRd w' g (numL l err size) (numE l err size) ∧ w.grownBy w' (some g) := by
  have hby : Bytes l := by obtain ⟨A, n, c, _, hr, _⟩ := h; exact hr.2.1
  have H := Lib.hid h
  clear h
  by_cases hz : numE l err size = 0
  · obtain ⟨e1, k1, k2, k3, e2⟩ := numE_zero hz
    have hi : intV l err size = sgn (numV l err size) size.toNat := if_pos hz
    have hv : numV l err size = beVal (l.take size.toNat) := by
      unfold numV getV
      rw [if_pos e1, if_pos e2]
      simp
    have hd := Lib.hid (decide_eq_true hz)
    obtain ⟨s, rfl⟩ := Int.eq_ofNat_of_zero_le (by omega : 0 ≤ size)
    rw [Int.toNat_natCast] at hi hv
    have b := beVal_bounds (l.take s) (hby.take s)
    rw [List.length_take, Nat.min_eq_left (by omega), ← hv] at b
    obtain ⟨V, hV⟩ : ∃ V, numV l err s = V := ⟨_, rfl⟩
    rw [hV] at hi b
    have hs := sgn_shift (by omega) (by omega) b.1 b.2
    have HV := Lib.hid hV
    have HI := Lib.hid (hi.trans hs.symm)
    have k1' : 1 ≤ s := by omega
    have k2' : s ≤ 8 := by omega
    clear hi hv e1 e2 hz hs hV b
    go_enter Try.func14, Try.ntmps14
    go_wp2_with fail
    refine (pnumber_any g l err s _ H.out).mono ?_
    rintro e w' ⟨rfl, hp, hg⟩
    rw [hd.out, HV.out]
    go_wp2_with fail
    go_ret
    exact ⟨by rw [HI.out]; rfl, hp, hg⟩
  · have hi := Lib.hid (show intV l err size = 0 from if_neg hz)
    have hd := Lib.hid (decide_eq_false hz)
    clear hz
    go_enter Try.func14, Try.ntmps14
    go_wp2_with fail
    refine (pnumber_any g l err size _ H.out).mono ?_
    rintro e w' ⟨rfl, hp, hg⟩
    rw [hd.out]
    go_wp2_with fail
    go_ret
    exact ⟨by rw [hi.out]; rfl, hp, hg⟩
end Go.Proofs.Ytkcllhcinbcgiab
