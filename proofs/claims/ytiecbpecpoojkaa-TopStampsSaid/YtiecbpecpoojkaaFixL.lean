/- The walks of the statements of layer 1 that lean on no reference. -/
import Derived.Test.YtiecbpecpoojkaaFixK
namespace Go.Proofs.Ytiecbpecpoojkaa
open Go.RowKit Fx

theorem add_yes (a b : Int) (w : World) (h0 : -9223372036854775808 ≤ a) (h1 : a ≤ 9223372036854775807) (h2 : -9223372036854775808 ≤ b) (h3 : b ≤ 9223372036854775807) (hq : okI (a + b) = true) :
    Calls Try.prog 22 #[.int .i64 a, .int .i64 b] w fun e w' => e = .returned (.tuple #[.int .i64 (a + b), .bool true]) ∧ w = w' :=
  (add_any a b w h0 h1 h2 h3).mono fun _ _ h => by rw [hq] at h; exact h
theorem add_no (a b : Int) (w : World) (h0 : -9223372036854775808 ≤ a) (h1 : a ≤ 9223372036854775807) (h2 : -9223372036854775808 ≤ b) (h3 : b ≤ 9223372036854775807) (hq : okI (a + b) = false) :
    Calls Try.prog 22 #[.int .i64 a, .int .i64 b] w fun e w' => e = .returned (.tuple #[.int .i64 0, .bool false]) ∧ w = w' :=
  (add_any a b w h0 h1 h2 h3).mono fun _ _ h => by rw [hq] at h; exact h
theorem muldiv_yes {d : Int} (a b c : Int) (w : World) (h0 : -9223372036854775808 ≤ a) (h1 : a ≤ 9223372036854775807) (h2 : -9223372036854775808 ≤ b) (h3 : b ≤ 9223372036854775807) (h4 : -9223372036854775808 ≤ c) (h5 : c ≤ 9223372036854775807) (hq : qok (a * b) c = true) (hf : flo (a * b) c = d) :
    Calls Try.prog 24 #[.int .i64 a, .int .i64 b, .int .i64 c] w fun e w' => e = .returned (.tuple #[.int .i64 d, .bool true]) ∧ ∃ n, w' = w.drewN n :=
  (muldiv_any a b c w h0 h1 h2 h3 h4 h5).mono fun _ _ h => by rw [hq, hf] at h; exact h
theorem ceil_yes (a b : Int) (w : World) (h0 : -9223372036854775808 ≤ a) (h1 : a ≤ 9223372036854775807) (h2 : -9223372036854775808 ≤ b) (h3 : b ≤ 9223372036854775807) (hq : qok a b = true) :
    Calls Try.prog 21 #[.int .i64 a, .int .i64 b] w fun e w' => e = .returned (.tuple #[.int .i64 (ceiI a b), .bool true]) ∧ w = w' :=
  (ceil_any a b w h0 h1 h2 h3).mono fun _ _ h => by rw [hq] at h; exact h
theorem ceil_no (a b : Int) (w : World) (h0 : -9223372036854775808 ≤ a) (h1 : a ≤ 9223372036854775807) (h2 : -9223372036854775808 ≤ b) (h3 : b ≤ 9223372036854775807) (hq : qok a b = false) :
    Calls Try.prog 21 #[.int .i64 a, .int .i64 b] w fun e w' => e = .returned (.tuple #[.int .i64 0, .bool false]) ∧ w = w' :=
  (ceil_any a b w h0 h1 h2 h3).mono fun _ _ h => by rw [hq] at h; exact h
/-- A product is divided by its factor. -/
theorem Fx.flo_cancel (a b : Int) (hb : b ≠ 0) : flo (a * b) b = a := by
  refine flo_unique (r := 0) (by omega) ?_
  omega
theorem Fx.qok_cancel {a b : Int} (hb : b ≠ 0) (h0 : -9223372036854775808 ≤ a) (h1 : a ≤ 9223372036854775807) : qok (a * b) b = true := by
  rw [qok_okI' hb, flo_cancel a b hb]; exact okI_yes h0 h1
/-- Floor and Ceil differ by at most 1, and Near is one of them. -/
theorem Fx.near_one {a b : Int} (h0 : -9223372036854775808 ≤ a) (h1 : a ≤ 9223372036854775807) (h2 : -9223372036854775808 ≤ b) (h3 : b ≤ 9223372036854775807) (hq : qok a b = true) :
    (flo a b ≤ ceiI a b ∧ ceiI a b - flo a b ≤ 1) ∧ (nearI a b = flo a b ∨ (nearI a b ≠ flo a b ∧ nearI a b = ceiI a b)) := by
  obtain ⟨q, r, C, e1, e2, e3, q0, q1, r0, r1, C0, C1, hn, hv, hw⟩ := near_parts h0 h1 h2 h3 hq
  rw [e1, hv]
  have hc : ceiI a b = if q * b = a then q else q + 1 := by unfold ceiI; rw [e1]
  rw [hc]
  refine ⟨by split <;> omega, ?_⟩
  split
  · right
    refine ⟨by omega, ?_⟩
    rw [if_neg]
    intro he
    have : r = 0 := by omega
    subst this
    have : C = 0 := by rw [← e3]; rfl
    subst this
    omega
  · left; rfl

theorem Fx.quot_back {a b : Int} (h0 : -9223372036854775808 ≤ a) (h1 : a ≤ 9223372036854775807) (h2 : -9223372036854775808 ≤ b) (h3 : b ≤ 9223372036854775807) (hb : b ≠ 0) (hq : qok a b = false) : a = -9223372036854775808 ∧ b = -1 := by
  refine Decidable.byContradiction fun hx => ?_
  obtain ⟨_, _, _, _, _, _, _, _, b5, _⟩ := quot hb hx h0 h1 h2 h3
  rw [hq] at b5; cases b5

end Go.Proofs.Ytiecbpecpoojkaa
