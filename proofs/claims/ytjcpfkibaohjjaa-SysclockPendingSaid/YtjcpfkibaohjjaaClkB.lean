/- Contracts of layer 10: valid states; what is shown. -/
import Derived.Test.YtjcpfkibaohjjaaClkA
import Derived.Deep.QuietTactic
import Derived.BigQuiet
namespace Go.Proofs.Ytjcpfkibaohjjaa
open Go.RowKit Fx Ck

theorem vld_no_r (r t p l q s : Int) (w : World)  (hn : win r 4503599627370496 = false) :
    Calls Try.prog 25 #[.agg #[.int .i64 r, .int .i64 t, .int .i64 p, .int .i64 l, .int .i64 q, .int .i64 s]] w fun e w' => e = .returned (.bool false) ∧ Below w.heap.size w w' := by
  go_enter Try.func25, Try.ntmps25
  go_wp2_with (go_at_call 33; refine (win_any _ _ _ (by decide) (by decide)).mono ?_; rintro e w' ⟨rfl, rfl⟩)
  go_ret
  exact ⟨rfl, (Below.refl _ _).alloc (Nat.le_refl _) _⟩
theorem vld_no_t (r t p l q s : Int) (w : World) (hr : win r 4503599627370496 = true) (hn : win t 4503599627370496 = false) :
    Calls Try.prog 25 #[.agg #[.int .i64 r, .int .i64 t, .int .i64 p, .int .i64 l, .int .i64 q, .int .i64 s]] w fun e w' => e = .returned (.bool false) ∧ Below w.heap.size w w' := by
  go_enter Try.func25, Try.ntmps25
  go_wp2_with (go_at_call 33; refine (win_any _ _ _ (by decide) (by decide)).mono ?_; rintro e w' ⟨rfl, rfl⟩)
  go_ret
  exact ⟨rfl, (Below.refl _ _).alloc (Nat.le_refl _) _⟩
theorem vld_no_l (r t p l q s : Int) (w : World) (hr : win r 4503599627370496 = true) (ht : win t 4503599627370496 = true) (hn : win l 4503599627370496 = false) :
    Calls Try.prog 25 #[.agg #[.int .i64 r, .int .i64 t, .int .i64 p, .int .i64 l, .int .i64 q, .int .i64 s]] w fun e w' => e = .returned (.bool false) ∧ Below w.heap.size w w' := by
  go_enter Try.func25, Try.ntmps25
  go_wp2_with (go_at_call 33; refine (win_any _ _ _ (by decide) (by decide)).mono ?_; rintro e w' ⟨rfl, rfl⟩)
  go_ret
  exact ⟨rfl, (Below.refl _ _).alloc (Nat.le_refl _) _⟩
theorem vld_no_p (r t p l q s : Int) (w : World) (hr : win r 4503599627370496 = true) (ht : win t 4503599627370496 = true) (hl : win l 4503599627370496 = true) (hn : win p 500000 = false) :
    Calls Try.prog 25 #[.agg #[.int .i64 r, .int .i64 t, .int .i64 p, .int .i64 l, .int .i64 q, .int .i64 s]] w fun e w' => e = .returned (.bool false) ∧ Below w.heap.size w w' := by
  go_enter Try.func25, Try.ntmps25
  go_wp2_with (go_at_call 33; refine (win_any _ _ _ (by decide) (by decide)).mono ?_; rintro e w' ⟨rfl, rfl⟩)
  go_ret
  exact ⟨rfl, (Below.refl _ _).alloc (Nat.le_refl _) _⟩
theorem vld_no_q0 (r t p l q s : Int) (w : World) (hr : win r 4503599627370496 = true) (ht : win t 4503599627370496 = true) (hl : win l 4503599627370496 = true) (hp : win p 500000 = true) (hn : q < 0) :
    Calls Try.prog 25 #[.agg #[.int .i64 r, .int .i64 t, .int .i64 p, .int .i64 l, .int .i64 q, .int .i64 s]] w fun e w' => e = .returned (.bool false) ∧ Below w.heap.size w w' := by
  have dq0 : decide (q < 0) = true := decide_eq_true (by omega)
  have dq0g : decide (0 ≤ q) = false := decide_eq_false (by omega)
  go_enter Try.func25, Try.ntmps25
  go_wp2_with (go_at_call 33; refine (win_any _ _ _ (by decide) (by decide)).mono ?_; rintro e w' ⟨rfl, rfl⟩)
  go_ret
  exact ⟨rfl, (Below.refl _ _).alloc (Nat.le_refl _) _⟩
theorem vld_no_q1 (r t p l q s : Int) (w : World) (hr : win r 4503599627370496 = true) (ht : win t 4503599627370496 = true) (hl : win l 4503599627370496 = true) (hp : win p 500000 = true) (hq0 : 0 ≤ q) (hn : 500000 < q) :
    Calls Try.prog 25 #[.agg #[.int .i64 r, .int .i64 t, .int .i64 p, .int .i64 l, .int .i64 q, .int .i64 s]] w fun e w' => e = .returned (.bool false) ∧ Below w.heap.size w w' := by
  have dq0 : decide (q < 0) = false := decide_eq_false (by omega)
  have dq0g : decide (0 ≤ q) = true := decide_eq_true (by omega)
  have dq1 : decide (500000 < q) = true := decide_eq_true (by omega)
  have dq1g : decide (q ≤ 500000) = false := decide_eq_false (by omega)
  go_enter Try.func25, Try.ntmps25
  go_wp2_with (go_at_call 33; refine (win_any _ _ _ (by decide) (by decide)).mono ?_; rintro e w' ⟨rfl, rfl⟩)
  go_ret
  exact ⟨rfl, (Below.refl _ _).alloc (Nat.le_refl _) _⟩
theorem vld_no_lq (r t p l s : Int) (w : World) (hr : win r 4503599627370496 = true) (ht : win t 4503599627370496 = true) (hl : win l 4503599627370496 = true) (hp : win p 500000 = true)   (hl0 : l ≠ 0) :
    Calls Try.prog 25 #[.agg #[.int .i64 r, .int .i64 t, .int .i64 p, .int .i64 l, .int .i64 0, .int .i64 s]] w fun e w' => e = .returned (.bool false) ∧ Below w.heap.size w w' := by
  have e1 : (l != 0) = true := by simpa using hl0
  have e2 : (l == 0) = false := by simpa using hl0
  have e4 : decide (0 < (0 : Int)) = false := rfl
  go_enter Try.func25, Try.ntmps25
  go_wp2_with (go_at_call 33; refine (win_any _ _ _ (by decide) (by decide)).mono ?_; rintro e w' ⟨rfl, rfl⟩)
  go_ret
  exact ⟨rfl, (Below.refl _ _).alloc (Nat.le_refl _) _⟩
theorem vld_no_sa (r t p q s : Int) (w : World) (hr : win r 4503599627370496 = true) (ht : win t 4503599627370496 = true)  (hp : win p 500000 = true) (hq0 : 0 ≤ q) (hq1 : q ≤ 500000) (hn : s < 0) :
    Calls Try.prog 25 #[.agg #[.int .i64 r, .int .i64 t, .int .i64 p, .int .i64 0, .int .i64 q, .int .i64 s]] w fun e w' => e = .returned (.bool false) ∧ Below w.heap.size w w' := by
  have hl : win 0 4503599627370496 = true := rfl
  have dq0 : decide (q < 0) = false := decide_eq_false (by omega)
  have dq0g : decide (0 ≤ q) = true := decide_eq_true (by omega)
  have dq1 : decide (500000 < q) = false := decide_eq_false (by omega)
  have dq1g : decide (q ≤ 500000) = true := decide_eq_true (by omega)
  have ds : decide (0 ≤ s) = false := decide_eq_false (by omega)
  go_enter Try.func25, Try.ntmps25
  go_wp2_with (go_at_call 33; refine (win_any _ _ _ (by decide) (by decide)).mono ?_; rintro e w' ⟨rfl, rfl⟩)
  go_ret
  exact ⟨rfl, (Below.refl _ _).alloc (Nat.le_refl _) _⟩
theorem vld_no_sb (r t p l q s : Int) (w : World) (hr : win r 4503599627370496 = true) (ht : win t 4503599627370496 = true) (hl : win l 4503599627370496 = true) (hp : win p 500000 = true) (hq0 : 0 ≤ q) (hq1 : q ≤ 500000) (hn : s < 0) (hl0 : l ≠ 0) (hq0 : 0 < q) :
    Calls Try.prog 25 #[.agg #[.int .i64 r, .int .i64 t, .int .i64 p, .int .i64 l, .int .i64 q, .int .i64 s]] w fun e w' => e = .returned (.bool false) ∧ Below w.heap.size w w' := by
  have dq0 : decide (q < 0) = false := decide_eq_false (by omega)
  have dq0g : decide (0 ≤ q) = true := decide_eq_true (by omega)
  have dq1 : decide (500000 < q) = false := decide_eq_false (by omega)
  have dq1g : decide (q ≤ 500000) = true := decide_eq_true (by omega)
  have ds : decide (0 ≤ s) = false := decide_eq_false (by omega)
  have e1 : (l != 0) = true := by simpa using hl0
  have e2 : (l == 0) = false := by simpa using hl0
  have e3 : (q == 0) = false := by simp; omega
  have e4 : decide (0 < q) = true := decide_eq_true hq0
  go_enter Try.func25, Try.ntmps25
  go_wp2_with (go_at_call 33; refine (win_any _ _ _ (by decide) (by decide)).mono ?_; rintro e w' ⟨rfl, rfl⟩)
  go_ret
  exact ⟨rfl, (Below.refl _ _).alloc (Nat.le_refl _) _⟩
theorem vld_yes_a (r t p q s : Int) (w : World) (hr : win r 4503599627370496 = true) (ht : win t 4503599627370496 = true)  (hp : win p 500000 = true) (hq0 : 0 ≤ q) (hq1 : q ≤ 500000) (hs : 0 ≤ s) :
    Calls Try.prog 25 #[.agg #[.int .i64 r, .int .i64 t, .int .i64 p, .int .i64 0, .int .i64 q, .int .i64 s]] w fun e w' => e = .returned (.bool true) ∧ Below w.heap.size w w' := by
  have hl : win 0 4503599627370496 = true := rfl
  have dq0 : decide (q < 0) = false := decide_eq_false (by omega)
  have dq0g : decide (0 ≤ q) = true := decide_eq_true (by omega)
  have dq1 : decide (500000 < q) = false := decide_eq_false (by omega)
  have dq1g : decide (q ≤ 500000) = true := decide_eq_true (by omega)
  have ds : decide (0 ≤ s) = true := decide_eq_true (by omega)
  go_enter Try.func25, Try.ntmps25
  go_wp2_with (go_at_call 33; refine (win_any _ _ _ (by decide) (by decide)).mono ?_; rintro e w' ⟨rfl, rfl⟩)
  go_ret
  exact ⟨rfl, (Below.refl _ _).alloc (Nat.le_refl _) _⟩
theorem vld_yes_b (r t p l q s : Int) (w : World) (hr : win r 4503599627370496 = true) (ht : win t 4503599627370496 = true) (hl : win l 4503599627370496 = true) (hp : win p 500000 = true) (hq0 : 0 ≤ q) (hq1 : q ≤ 500000) (hs : 0 ≤ s) (hl0 : l ≠ 0) (hq : 0 < q) :
    Calls Try.prog 25 #[.agg #[.int .i64 r, .int .i64 t, .int .i64 p, .int .i64 l, .int .i64 q, .int .i64 s]] w fun e w' => e = .returned (.bool true) ∧ Below w.heap.size w w' := by
  have dq0 : decide (q < 0) = false := decide_eq_false (by omega)
  have dq0g : decide (0 ≤ q) = true := decide_eq_true (by omega)
  have dq1 : decide (500000 < q) = false := decide_eq_false (by omega)
  have dq1g : decide (q ≤ 500000) = true := decide_eq_true (by omega)
  have ds : decide (0 ≤ s) = true := decide_eq_true (by omega)
  have e1 : (l != 0) = true := by simpa using hl0
  have e2 : (l == 0) = false := by simpa using hl0
  have e3 : (q == 0) = false := by simp; omega
  have e4 : decide (0 < q) = true := decide_eq_true hq
  go_enter Try.func25, Try.ntmps25
  go_wp2_with (go_at_call 33; refine (win_any _ _ _ (by decide) (by decide)).mono ?_; rintro e w' ⟨rfl, rfl⟩)
  go_ret
  exact ⟨rfl, (Below.refl _ _).alloc (Nat.le_refl _) _⟩
theorem vld_yes (x : St) (w : World) (h : Ok x) :
    Calls Try.prog 25 #[.agg #[.int .i64 x.r, .int .i64 x.t, .int .i64 x.p, .int .i64 x.l, .int .i64 x.q, .int .i64 x.s]] w fun e w' => e = .returned (.bool true) ∧ Below w.heap.size w w' := by
  obtain ⟨r, t, p, l, q, s⟩ := x
  obtain ⟨hr, ht, hl, hp, hq, hlq, hs⟩ := h
  by_cases h0 : l = 0
  · subst h0
    exact vld_yes_a r t p q s w (win_yes hr.1 hr.2) (win_yes ht.1 ht.2) (win_yes hp.1 hp.2) hq.1 hq.2 hs.1
  · exact vld_yes_b r t p l q s w (win_yes hr.1 hr.2) (win_yes ht.1 ht.2) (win_yes hl.1 hl.2) (win_yes hp.1 hp.2) hq.1 hq.2 hs.1 h0 (hlq.resolve_left h0)
theorem vld_no (x : St) (w : World) (hs : x.s ≤ 9223372036854775807) (h : ¬ Ok x) :
    Calls Try.prog 25 #[.agg #[.int .i64 x.r, .int .i64 x.t, .int .i64 x.p, .int .i64 x.l, .int .i64 x.q, .int .i64 x.s]] w fun e w' => e = .returned (.bool false) ∧ Below w.heap.size w w' := by
  obtain ⟨r, t, p, l, q, s⟩ := x
  cases hr : win r 4503599627370496 with
  | false => exact vld_no_r r t p l q s w hr
  | true =>
    cases ht : win t 4503599627370496 with
    | false => exact vld_no_t r t p l q s w hr ht
    | true =>
      cases hl : win l 4503599627370496 with
      | false => exact vld_no_l r t p l q s w hr ht hl
      | true =>
        cases hp : win p 500000 with
        | false => exact vld_no_p r t p l q s w hr ht hl hp
        | true =>
          rcases Int.lt_or_le q 0 with hq0 | hq0
          · exact vld_no_q0 r t p l q s w hr ht hl hp hq0
          · rcases Int.lt_or_le 500000 q with hq1 | hq1
            · exact vld_no_q1 r t p l q s w hr ht hl hp hq0 hq1
            · by_cases h0 : l = 0
              · subst h0
                rcases Int.lt_or_le s 0 with hs0 | hs0
                · exact vld_no_sa r t p q s w hr ht hp hq0 hq1 hs0
                · exact absurd ⟨win_iff.1 hr, win_iff.1 ht, win_iff.1 hl, win_iff.1 hp, ⟨hq0, hq1⟩, .inl rfl, ⟨hs0, hs⟩⟩ h
              · by_cases hq : q = 0
                · subst hq
                  exact vld_no_lq r t p l s w hr ht hl hp h0
                · rcases Int.lt_or_le s 0 with hs0 | hs0
                  · exact vld_no_sb r t p l q s w hr ht hl hp hq0 hq1 hs0 h0 (by omega)
                  · exact absurd ⟨win_iff.1 hr, win_iff.1 ht, win_iff.1 hl, win_iff.1 hp, ⟨hq0, hq1⟩, .inr (show 0 < q by omega), ⟨hs0, hs⟩⟩ h
theorem rvld_no_r (r t p l q s : Int) (w : World)  (hn : win r 4503599627370496 = false) :
    Calls Try.prog 26 #[.agg #[.int .i64 r, .int .i64 t, .int .i64 p, .int .i64 l, .int .i64 q, .int .i64 s]] w fun e w' => e = .returned (.bool false) ∧ Below w.heap.size w w' := by
  go_enter Try.func26, Try.ntmps26
  go_wp2_with (go_at_call 38; refine (rwin_any _ _ _ (by decide) (by decide)).mono ?_; rintro e w' ⟨rfl, rfl⟩)
  go_ret
  exact ⟨rfl, (Below.refl _ _).alloc (Nat.le_refl _) _⟩
theorem rvld_no_t (r t p l q s : Int) (w : World) (hr : win r 4503599627370496 = true) (hn : win t 4503599627370496 = false) :
    Calls Try.prog 26 #[.agg #[.int .i64 r, .int .i64 t, .int .i64 p, .int .i64 l, .int .i64 q, .int .i64 s]] w fun e w' => e = .returned (.bool false) ∧ Below w.heap.size w w' := by
  go_enter Try.func26, Try.ntmps26
  go_wp2_with (go_at_call 38; refine (rwin_any _ _ _ (by decide) (by decide)).mono ?_; rintro e w' ⟨rfl, rfl⟩)
  go_ret
  exact ⟨rfl, (Below.refl _ _).alloc (Nat.le_refl _) _⟩
theorem rvld_no_l (r t p l q s : Int) (w : World) (hr : win r 4503599627370496 = true) (ht : win t 4503599627370496 = true) (hn : win l 4503599627370496 = false) :
    Calls Try.prog 26 #[.agg #[.int .i64 r, .int .i64 t, .int .i64 p, .int .i64 l, .int .i64 q, .int .i64 s]] w fun e w' => e = .returned (.bool false) ∧ Below w.heap.size w w' := by
  go_enter Try.func26, Try.ntmps26
  go_wp2_with (go_at_call 38; refine (rwin_any _ _ _ (by decide) (by decide)).mono ?_; rintro e w' ⟨rfl, rfl⟩)
  go_ret
  exact ⟨rfl, (Below.refl _ _).alloc (Nat.le_refl _) _⟩
theorem rvld_no_p (r t p l q s : Int) (w : World) (hr : win r 4503599627370496 = true) (ht : win t 4503599627370496 = true) (hl : win l 4503599627370496 = true) (hn : win p 500000 = false) :
    Calls Try.prog 26 #[.agg #[.int .i64 r, .int .i64 t, .int .i64 p, .int .i64 l, .int .i64 q, .int .i64 s]] w fun e w' => e = .returned (.bool false) ∧ Below w.heap.size w w' := by
  go_enter Try.func26, Try.ntmps26
  go_wp2_with (go_at_call 38; refine (rwin_any _ _ _ (by decide) (by decide)).mono ?_; rintro e w' ⟨rfl, rfl⟩)
  go_ret
  exact ⟨rfl, (Below.refl _ _).alloc (Nat.le_refl _) _⟩
theorem rvld_no_q0 (r t p l q s : Int) (w : World) (hr : win r 4503599627370496 = true) (ht : win t 4503599627370496 = true) (hl : win l 4503599627370496 = true) (hp : win p 500000 = true) (hn : q < 0) :
    Calls Try.prog 26 #[.agg #[.int .i64 r, .int .i64 t, .int .i64 p, .int .i64 l, .int .i64 q, .int .i64 s]] w fun e w' => e = .returned (.bool false) ∧ Below w.heap.size w w' := by
  have dq0 : decide (q < 0) = true := decide_eq_true (by omega)
  have dq0g : decide (0 ≤ q) = false := decide_eq_false (by omega)
  go_enter Try.func26, Try.ntmps26
  go_wp2_with (go_at_call 38; refine (rwin_any _ _ _ (by decide) (by decide)).mono ?_; rintro e w' ⟨rfl, rfl⟩)
  go_ret
  exact ⟨rfl, (Below.refl _ _).alloc (Nat.le_refl _) _⟩
theorem rvld_no_q1 (r t p l q s : Int) (w : World) (hr : win r 4503599627370496 = true) (ht : win t 4503599627370496 = true) (hl : win l 4503599627370496 = true) (hp : win p 500000 = true) (hq0 : 0 ≤ q) (hn : 500000 < q) :
    Calls Try.prog 26 #[.agg #[.int .i64 r, .int .i64 t, .int .i64 p, .int .i64 l, .int .i64 q, .int .i64 s]] w fun e w' => e = .returned (.bool false) ∧ Below w.heap.size w w' := by
  have dq0 : decide (q < 0) = false := decide_eq_false (by omega)
  have dq0g : decide (0 ≤ q) = true := decide_eq_true (by omega)
  have dq1 : decide (500000 < q) = true := decide_eq_true (by omega)
  have dq1g : decide (q ≤ 500000) = false := decide_eq_false (by omega)
  go_enter Try.func26, Try.ntmps26
  go_wp2_with (go_at_call 38; refine (rwin_any _ _ _ (by decide) (by decide)).mono ?_; rintro e w' ⟨rfl, rfl⟩)
  go_ret
  exact ⟨rfl, (Below.refl _ _).alloc (Nat.le_refl _) _⟩
theorem rvld_no_lq (r t p l s : Int) (w : World) (hr : win r 4503599627370496 = true) (ht : win t 4503599627370496 = true) (hl : win l 4503599627370496 = true) (hp : win p 500000 = true)   (hl0 : l ≠ 0) :
    Calls Try.prog 26 #[.agg #[.int .i64 r, .int .i64 t, .int .i64 p, .int .i64 l, .int .i64 0, .int .i64 s]] w fun e w' => e = .returned (.bool false) ∧ Below w.heap.size w w' := by
  have e1 : (l != 0) = true := by simpa using hl0
  have e2 : (l == 0) = false := by simpa using hl0
  have e4 : decide (0 < (0 : Int)) = false := rfl
  go_enter Try.func26, Try.ntmps26
  go_wp2_with (go_at_call 38; refine (rwin_any _ _ _ (by decide) (by decide)).mono ?_; rintro e w' ⟨rfl, rfl⟩)
  go_ret
  exact ⟨rfl, (Below.refl _ _).alloc (Nat.le_refl _) _⟩
theorem rvld_no_sa (r t p q s : Int) (w : World) (hr : win r 4503599627370496 = true) (ht : win t 4503599627370496 = true)  (hp : win p 500000 = true) (hq0 : 0 ≤ q) (hq1 : q ≤ 500000) (hn : s < 0) :
    Calls Try.prog 26 #[.agg #[.int .i64 r, .int .i64 t, .int .i64 p, .int .i64 0, .int .i64 q, .int .i64 s]] w fun e w' => e = .returned (.bool false) ∧ Below w.heap.size w w' := by
  have hl : win 0 4503599627370496 = true := rfl
  have dq0 : decide (q < 0) = false := decide_eq_false (by omega)
  have dq0g : decide (0 ≤ q) = true := decide_eq_true (by omega)
  have dq1 : decide (500000 < q) = false := decide_eq_false (by omega)
  have dq1g : decide (q ≤ 500000) = true := decide_eq_true (by omega)
  have ds : decide (0 ≤ s) = false := decide_eq_false (by omega)
  go_enter Try.func26, Try.ntmps26
  go_wp2_with (go_at_call 38; refine (rwin_any _ _ _ (by decide) (by decide)).mono ?_; rintro e w' ⟨rfl, rfl⟩)
  go_ret
  exact ⟨rfl, (Below.refl _ _).alloc (Nat.le_refl _) _⟩
theorem rvld_no_sb (r t p l q s : Int) (w : World) (hr : win r 4503599627370496 = true) (ht : win t 4503599627370496 = true) (hl : win l 4503599627370496 = true) (hp : win p 500000 = true) (hq0 : 0 ≤ q) (hq1 : q ≤ 500000) (hn : s < 0) (hl0 : l ≠ 0) (hq0 : 0 < q) :
    Calls Try.prog 26 #[.agg #[.int .i64 r, .int .i64 t, .int .i64 p, .int .i64 l, .int .i64 q, .int .i64 s]] w fun e w' => e = .returned (.bool false) ∧ Below w.heap.size w w' := by
  have dq0 : decide (q < 0) = false := decide_eq_false (by omega)
  have dq0g : decide (0 ≤ q) = true := decide_eq_true (by omega)
  have dq1 : decide (500000 < q) = false := decide_eq_false (by omega)
  have dq1g : decide (q ≤ 500000) = true := decide_eq_true (by omega)
  have ds : decide (0 ≤ s) = false := decide_eq_false (by omega)
  have e1 : (l != 0) = true := by simpa using hl0
  have e2 : (l == 0) = false := by simpa using hl0
  have e3 : (q == 0) = false := by simp; omega
  have e4 : decide (0 < q) = true := decide_eq_true hq0
  go_enter Try.func26, Try.ntmps26
  go_wp2_with (go_at_call 38; refine (rwin_any _ _ _ (by decide) (by decide)).mono ?_; rintro e w' ⟨rfl, rfl⟩)
  go_ret
  exact ⟨rfl, (Below.refl _ _).alloc (Nat.le_refl _) _⟩
theorem rvld_yes_a (r t p q s : Int) (w : World) (hr : win r 4503599627370496 = true) (ht : win t 4503599627370496 = true)  (hp : win p 500000 = true) (hq0 : 0 ≤ q) (hq1 : q ≤ 500000) (hs : 0 ≤ s) :
    Calls Try.prog 26 #[.agg #[.int .i64 r, .int .i64 t, .int .i64 p, .int .i64 0, .int .i64 q, .int .i64 s]] w fun e w' => e = .returned (.bool true) ∧ Below w.heap.size w w' := by
  have hl : win 0 4503599627370496 = true := rfl
  have dq0 : decide (q < 0) = false := decide_eq_false (by omega)
  have dq0g : decide (0 ≤ q) = true := decide_eq_true (by omega)
  have dq1 : decide (500000 < q) = false := decide_eq_false (by omega)
  have dq1g : decide (q ≤ 500000) = true := decide_eq_true (by omega)
  have ds : decide (0 ≤ s) = true := decide_eq_true (by omega)
  go_enter Try.func26, Try.ntmps26
  go_wp2_with (go_at_call 38; refine (rwin_any _ _ _ (by decide) (by decide)).mono ?_; rintro e w' ⟨rfl, rfl⟩)
  go_ret
  exact ⟨rfl, (Below.refl _ _).alloc (Nat.le_refl _) _⟩
theorem rvld_yes_b (r t p l q s : Int) (w : World) (hr : win r 4503599627370496 = true) (ht : win t 4503599627370496 = true) (hl : win l 4503599627370496 = true) (hp : win p 500000 = true) (hq0 : 0 ≤ q) (hq1 : q ≤ 500000) (hs : 0 ≤ s) (hl0 : l ≠ 0) (hq : 0 < q) :
    Calls Try.prog 26 #[.agg #[.int .i64 r, .int .i64 t, .int .i64 p, .int .i64 l, .int .i64 q, .int .i64 s]] w fun e w' => e = .returned (.bool true) ∧ Below w.heap.size w w' := by
  have dq0 : decide (q < 0) = false := decide_eq_false (by omega)
  have dq0g : decide (0 ≤ q) = true := decide_eq_true (by omega)
  have dq1 : decide (500000 < q) = false := decide_eq_false (by omega)
  have dq1g : decide (q ≤ 500000) = true := decide_eq_true (by omega)
  have ds : decide (0 ≤ s) = true := decide_eq_true (by omega)
  have e1 : (l != 0) = true := by simpa using hl0
  have e2 : (l == 0) = false := by simpa using hl0
  have e3 : (q == 0) = false := by simp; omega
  have e4 : decide (0 < q) = true := decide_eq_true hq
  go_enter Try.func26, Try.ntmps26
  go_wp2_with (go_at_call 38; refine (rwin_any _ _ _ (by decide) (by decide)).mono ?_; rintro e w' ⟨rfl, rfl⟩)
  go_ret
  exact ⟨rfl, (Below.refl _ _).alloc (Nat.le_refl _) _⟩
theorem rvld_yes (x : St) (w : World) (h : Ok x) :
    Calls Try.prog 26 #[.agg #[.int .i64 x.r, .int .i64 x.t, .int .i64 x.p, .int .i64 x.l, .int .i64 x.q, .int .i64 x.s]] w fun e w' => e = .returned (.bool true) ∧ Below w.heap.size w w' := by
  obtain ⟨r, t, p, l, q, s⟩ := x
  obtain ⟨hr, ht, hl, hp, hq, hlq, hs⟩ := h
  by_cases h0 : l = 0
  · subst h0
    exact rvld_yes_a r t p q s w (win_yes hr.1 hr.2) (win_yes ht.1 ht.2) (win_yes hp.1 hp.2) hq.1 hq.2 hs.1
  · exact rvld_yes_b r t p l q s w (win_yes hr.1 hr.2) (win_yes ht.1 ht.2) (win_yes hl.1 hl.2) (win_yes hp.1 hp.2) hq.1 hq.2 hs.1 h0 (hlq.resolve_left h0)
theorem rvld_no (x : St) (w : World) (hs : x.s ≤ 9223372036854775807) (h : ¬ Ok x) :
    Calls Try.prog 26 #[.agg #[.int .i64 x.r, .int .i64 x.t, .int .i64 x.p, .int .i64 x.l, .int .i64 x.q, .int .i64 x.s]] w fun e w' => e = .returned (.bool false) ∧ Below w.heap.size w w' := by
  obtain ⟨r, t, p, l, q, s⟩ := x
  cases hr : win r 4503599627370496 with
  | false => exact rvld_no_r r t p l q s w hr
  | true =>
    cases ht : win t 4503599627370496 with
    | false => exact rvld_no_t r t p l q s w hr ht
    | true =>
      cases hl : win l 4503599627370496 with
      | false => exact rvld_no_l r t p l q s w hr ht hl
      | true =>
        cases hp : win p 500000 with
        | false => exact rvld_no_p r t p l q s w hr ht hl hp
        | true =>
          rcases Int.lt_or_le q 0 with hq0 | hq0
          · exact rvld_no_q0 r t p l q s w hr ht hl hp hq0
          · rcases Int.lt_or_le 500000 q with hq1 | hq1
            · exact rvld_no_q1 r t p l q s w hr ht hl hp hq0 hq1
            · by_cases h0 : l = 0
              · subst h0
                rcases Int.lt_or_le s 0 with hs0 | hs0
                · exact rvld_no_sa r t p q s w hr ht hp hq0 hq1 hs0
                · exact absurd ⟨win_iff.1 hr, win_iff.1 ht, win_iff.1 hl, win_iff.1 hp, ⟨hq0, hq1⟩, .inl rfl, ⟨hs0, hs⟩⟩ h
              · by_cases hq : q = 0
                · subst hq
                  exact rvld_no_lq r t p l s w hr ht hl hp h0
                · rcases Int.lt_or_le s 0 with hs0 | hs0
                  · exact rvld_no_sb r t p l q s w hr ht hl hp hq0 hq1 hs0 h0 (by omega)
                  · exact absurd ⟨win_iff.1 hr, win_iff.1 ht, win_iff.1 hl, win_iff.1 hp, ⟨hq0, hq1⟩, .inr (show 0 < q by omega), ⟨hs0, hs⟩⟩ h
theorem of_no (x : St) (w : World) (hs : x.s ≤ 9223372036854775807) (h : ¬ Ok x) :
    Calls Try.prog 11 #[.agg #[.int .i64 x.r, .int .i64 x.t, .int .i64 x.p, .int .i64 x.l, .int .i64 x.q, .int .i64 x.s]] w fun e w' => e = .returned (.pointer none) ∧ Below w.heap.size w w' := by
  have H := Lib.hid h
  clear h
  have HZ := Lib.hid (kb_new 23 w x.r x.t x.p x.l x.q x.s)
  obtain ⟨v, hv⟩ : ∃ v, w.alloc (.cells #[.int .i64 x.r, .int .i64 x.t, .int .i64 x.p, .int .i64 x.l, .int .i64 x.q, .int .i64 x.s] 23) = v := ⟨_, rfl⟩
  have HV := Lib.hid (hv ▸ (Below.refl w.heap.size w).alloc (Nat.le_refl _) _)
  rw [hv] at HZ
  obtain ⟨c0, c1, c2, c3, c4, c5⟩ := HZ.out.cells
  go_enter Try.func11, Try.ntmps11
  go_wp2_with fail
  clear hv HZ c0 c1 c2 c3 c4 c5
  refine (vld_no x v hs H.out).mono ?_
  rintro e w1 ⟨rfl, hb⟩
  have HB := Lib.hid (HV.out.trans (hb.mono HV.out.size))
  clear hb
  go_wp2_with fail
  go_ret
  exact ⟨rfl, HB.out⟩
theorem of_yes (x : St) (w : World) (h : Ok x) :
    Calls Try.prog 11 #[.agg #[.int .i64 x.r, .int .i64 x.t, .int .i64 x.p, .int .i64 x.l, .int .i64 x.q, .int .i64 x.s]] w fun e w' => ∃ C, e = .returned (.pointer (some ⟨C, 0, none⟩)) ∧ w.heap.size ≤ C ∧ KB 51 w' C x ∧ Below w.heap.size w w' := by
  have H := Lib.hid h
  clear h
  have HZ := Lib.hid (kb_new 23 w x.r x.t x.p x.l x.q x.s)
  obtain ⟨v, hv⟩ : ∃ v, w.alloc (.cells #[.int .i64 x.r, .int .i64 x.t, .int .i64 x.p, .int .i64 x.l, .int .i64 x.q, .int .i64 x.s] 23) = v := ⟨_, rfl⟩
  have HV := Lib.hid (hv ▸ (Below.refl w.heap.size w).alloc (Nat.le_refl _) _)
  rw [hv] at HZ
  obtain ⟨c0, c1, c2, c3, c4, c5⟩ := HZ.out.cells
  go_enter Try.func11, Try.ntmps11
  go_wp2_with fail
  clear hv c0 c1 c2 c3 c4 c5
  refine (vld_yes x v H.out).mono ?_
  rintro e w1 ⟨rfl, hb⟩
  have HB := Lib.hid (HV.out.trans (hb.mono HV.out.size))
  obtain ⟨c0, c1, c2, c3, c4, c5⟩ := (HZ.out.below hb HZ.out.lt).cells
  clear hb
  go_wp2_with fail
  go_ret
  exact ⟨w1.heap.size, rfl, HB.out.size, kb_new _ _ _ _ _ _ _ _, HB.out.alloc HB.out.size _⟩
theorem new_no (r t : Int) (w : World) (h : ¬ Ok ⟨r, t, 0, 0, 0, 0⟩) :
    Calls Try.prog 14 #[.int .i64 r, .int .i64 t] w fun e w' => e = .returned (.pointer none) ∧ Below w.heap.size w w' := by
  have H := Lib.hid h
  clear h
  go_enter Try.func14, Try.ntmps14
  go_wp2_with fail
  refine (of_no ⟨r, t, 0, 0, 0, 0⟩ w (by show (0 : Int) ≤ 9223372036854775807; decide) H.out).mono ?_
  rintro e w1 ⟨rfl, hb⟩
  have HB := Lib.hid hb
  clear hb
  go_wp2_with fail
  go_ret
  exact ⟨rfl, HB.out⟩
theorem new_yes (r t : Int) (w : World) (h : Ok ⟨r, t, 0, 0, 0, 0⟩) :
    Calls Try.prog 14 #[.int .i64 r, .int .i64 t] w fun e w' => ∃ C, e = .returned (.pointer (some ⟨C, 0, none⟩)) ∧ w.heap.size ≤ C ∧ KB 51 w' C ⟨r, t, 0, 0, 0, 0⟩ ∧ Below w.heap.size w w' := by
  have H := Lib.hid h
  clear h
  go_enter Try.func14, Try.ntmps14
  go_wp2_with fail
  refine (of_yes ⟨r, t, 0, 0, 0, 0⟩ w H.out).mono ?_
  rintro e w1 ⟨C, rfl, hC, hk, hb⟩
  have HB := Lib.hid (And.intro hC (And.intro hk hb))
  clear hb hk hC
  go_wp2_with fail
  go_ret
  exact ⟨C, rfl, HB.out⟩
theorem rof_no (x : St) (w : World) (hs : x.s ≤ 9223372036854775807) (h : ¬ Ok x) :
    Calls Try.prog 12 #[.agg #[.int .i64 x.r, .int .i64 x.t, .int .i64 x.p, .int .i64 x.l, .int .i64 x.q, .int .i64 x.s]] w fun e w' => e = .returned (.pointer none) ∧ Below w.heap.size w w' := by
  have H := Lib.hid h
  clear h
  have HZ := Lib.hid (kb_new 23 w x.r x.t x.p x.l x.q x.s)
  obtain ⟨v, hv⟩ : ∃ v, w.alloc (.cells #[.int .i64 x.r, .int .i64 x.t, .int .i64 x.p, .int .i64 x.l, .int .i64 x.q, .int .i64 x.s] 23) = v := ⟨_, rfl⟩
  have HV := Lib.hid (hv ▸ (Below.refl w.heap.size w).alloc (Nat.le_refl _) _)
  rw [hv] at HZ
  obtain ⟨c0, c1, c2, c3, c4, c5⟩ := HZ.out.cells
  go_enter Try.func12, Try.ntmps12
  go_wp2_with fail
  clear hv HZ c0 c1 c2 c3 c4 c5
  refine (rvld_no x v hs H.out).mono ?_
  rintro e w1 ⟨rfl, hb⟩
  have HB := Lib.hid (HV.out.trans (hb.mono HV.out.size))
  clear hb
  go_wp2_with fail
  go_ret
  exact ⟨rfl, HB.out⟩
theorem rof_yes (x : St) (w : World) (h : Ok x) :
    Calls Try.prog 12 #[.agg #[.int .i64 x.r, .int .i64 x.t, .int .i64 x.p, .int .i64 x.l, .int .i64 x.q, .int .i64 x.s]] w fun e w' => ∃ C, e = .returned (.pointer (some ⟨C, 0, none⟩)) ∧ w.heap.size ≤ C ∧ KB 53 w' C x ∧ Below w.heap.size w w' := by
  have H := Lib.hid h
  clear h
  have HZ := Lib.hid (kb_new 23 w x.r x.t x.p x.l x.q x.s)
  obtain ⟨v, hv⟩ : ∃ v, w.alloc (.cells #[.int .i64 x.r, .int .i64 x.t, .int .i64 x.p, .int .i64 x.l, .int .i64 x.q, .int .i64 x.s] 23) = v := ⟨_, rfl⟩
  have HV := Lib.hid (hv ▸ (Below.refl w.heap.size w).alloc (Nat.le_refl _) _)
  rw [hv] at HZ
  obtain ⟨c0, c1, c2, c3, c4, c5⟩ := HZ.out.cells
  go_enter Try.func12, Try.ntmps12
  go_wp2_with fail
  clear hv c0 c1 c2 c3 c4 c5
  refine (rvld_yes x v H.out).mono ?_
  rintro e w1 ⟨rfl, hb⟩
  have HB := Lib.hid (HV.out.trans (hb.mono HV.out.size))
  obtain ⟨c0, c1, c2, c3, c4, c5⟩ := (HZ.out.below hb HZ.out.lt).cells
  clear hb
  go_wp2_with fail
  go_ret
  exact ⟨w1.heap.size, rfl, HB.out.size, kb_new _ _ _ _ _ _ _ _, HB.out.alloc HB.out.size _⟩
theorem rnew_no (r t : Int) (w : World) (h : ¬ Ok ⟨r, t, 0, 0, 0, 0⟩) :
    Calls Try.prog 15 #[.int .i64 r, .int .i64 t] w fun e w' => e = .returned (.pointer none) ∧ Below w.heap.size w w' := by
  have H := Lib.hid h
  clear h
  go_enter Try.func15, Try.ntmps15
  go_wp2_with fail
  refine (rof_no ⟨r, t, 0, 0, 0, 0⟩ w (by show (0 : Int) ≤ 9223372036854775807; decide) H.out).mono ?_
  rintro e w1 ⟨rfl, hb⟩
  have HB := Lib.hid hb
  clear hb
  go_wp2_with fail
  go_ret
  exact ⟨rfl, HB.out⟩
theorem rnew_yes (r t : Int) (w : World) (h : Ok ⟨r, t, 0, 0, 0, 0⟩) :
    Calls Try.prog 15 #[.int .i64 r, .int .i64 t] w fun e w' => ∃ C, e = .returned (.pointer (some ⟨C, 0, none⟩)) ∧ w.heap.size ≤ C ∧ KB 53 w' C ⟨r, t, 0, 0, 0, 0⟩ ∧ Below w.heap.size w w' := by
  have H := Lib.hid h
  clear h
  go_enter Try.func15, Try.ntmps15
  go_wp2_with fail
  refine (rof_yes ⟨r, t, 0, 0, 0, 0⟩ w H.out).mono ?_
  rintro e w1 ⟨C, rfl, hC, hk, hb⟩
  have HB := Lib.hid (And.intro hC (And.intro hk hb))
  clear hb hk hC
  go_wp2_with fail
  go_ret
  exact ⟨C, rfl, HB.out⟩
end Go.Proofs.Ytjcpfkibaohjjaa
