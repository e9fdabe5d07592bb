/- Contracts of layer 4: instants of the specification, Of. -/
import Derived.Test.YtemflgjfoappaabDoorPtmB
namespace Go.Proofs.YtemflgjfoappaabDoor
open Go.RowKit Fx Pt

theorem prcheck_any (s n : Int) (w : World) :
    Calls Tryd.prog 21 #[.agg #[.int .i64 s, .int .i64 n]] w fun e w' => e = .returned (.int .i64 (chk s n)) ∧ w' = w.alloc (.cells #[.int .i64 s, .int .i64 n] 23) := by
  by_cases h1 : s < 0
  · rw [chk_no (.inl h1)]
    go_enter Tryd.func21, Tryd.ntmps21
    go_wp2
    all_goals (go_ret; exact ⟨rfl, rfl⟩)
  · by_cases h2 : 281474976710656 ≤ s
    · rw [chk_no (.inr (.inl (by omega)))]
      have d1 : decide (s < 0) = false := decide_eq_false h1
      go_enter Tryd.func21, Tryd.ntmps21
      go_wp2
      all_goals (go_ret; exact ⟨rfl, rfl⟩)
    · by_cases h3 : n < 0
      · rw [chk_no (.inr (.inr (.inl h3)))]
        have d1 : decide (s < 0) = false := decide_eq_false h1
        have d2 : decide (281474976710656 ≤ s) = false := decide_eq_false h2
        go_enter Tryd.func21, Tryd.ntmps21
        go_wp2
        all_goals (go_ret; exact ⟨rfl, rfl⟩)
      · by_cases h4 : 1000000000 ≤ n
        · rw [chk_no (.inr (.inr (.inr h4)))]
          have d1 : decide (s < 0) = false := decide_eq_false h1
          have d2 : decide (281474976710656 ≤ s) = false := decide_eq_false h2
          have d3 : decide (n < 0) = false := decide_eq_false h3
          go_enter Tryd.func21, Tryd.ntmps21
          go_wp2
          all_goals (go_ret; exact ⟨rfl, rfl⟩)
        · rw [chk_yes (by omega) (by omega) (by omega) (by omega)]
          have d1 : decide (s < 0) = false := decide_eq_false h1
          have d2 : decide (281474976710656 ≤ s) = false := decide_eq_false h2
          have d3 : decide (n < 0) = false := decide_eq_false h3
          have d4 : decide (1000000000 ≤ n) = false := decide_eq_false h4
          go_enter Tryd.func21, Tryd.ntmps21
          go_wp2
          all_goals (go_ret; exact ⟨rfl, rfl⟩)

theorem ret_se {s n e s' n' e' : Int} (h : s = s') (h' : n = n') (h'' : e = e') : Ending.returned (.tuple #[.agg #[.int .i64 s, .int .i64 n], .int .i64 e]) = .returned (.tuple #[.agg #[.int .i64 s', .int .i64 n'], .int .i64 e']) := by rw [h, h', h'']

theorem pof_any (t : Int) (w : World) (h0 : -9223372036854775808 ≤ t) (h1 : t ≤ 9223372036854775807) :
    Calls Tryd.prog 15 #[.int .i64 t] w fun e w' => e = .returned (.tuple #[.agg #[.int .i64 (ofS t), .int .i64 (ofN t)], .int .i64 (ofE t)]) ∧ Below w.heap.size w w' := by
  by_cases h : t < 2208988800000000000
  · rw [show ofS t = 0 from if_pos h, show ofN t = 0 from if_pos h, show ofE t = 3 from if_pos h]
    go_enter Tryd.func15, Tryd.ntmps15
    go_wp2
    exact bodyPost_ret (v := .tuple #[.agg #[.int .i64 0, .int .i64 0], .int .i64 3]) (by simp [results, Tryd.results15, go_sem]) rfl ⟨rfl, (Below.refl _ _).alloc (Nat.le_refl _) _⟩
  · rw [show ofS t = t / 1000000000 - 2208988800 from if_neg h, show ofN t = t % 1000000000 from if_neg h, show ofE t = 0 from if_neg h]
    go_enter Tryd.func15, Tryd.ntmps15
    go_wp2
    exact bodyPost_ret (v := .tuple #[.agg #[.int .i64 (t / 1000000000 - 2208988800), .int .i64 (t % 1000000000)], .int .i64 0]) (by simp [results, Tryd.results15, go_sem]) rfl ⟨rfl, (Below.refl _ _).alloc (Nat.le_refl _) _⟩
end Go.Proofs.YtemflgjfoappaabDoor
