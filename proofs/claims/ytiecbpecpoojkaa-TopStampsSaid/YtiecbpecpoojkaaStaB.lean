/- Contracts of layer 3: the numbers. -/
import Derived.Test.YtiecbpecpoojkaaStaA
namespace Go.Proofs.Ytiecbpecpoojkaa
open Go.RowKit Fx St

theorem St.flo_pos {x c : Int} (hc : 0 < c) : flo x c = x / c := if_pos hc
theorem St.ceiI_pos (x c : Int) (hc : 0 < c) : ceiI x c = (x + (c - 1)) / c := by
  unfold ceiI; rw [flo_pos hc]; exact ceil_by x c hc
theorem St.qok_pos {x c : Int} (hc : 0 < c) (h0 : -9223372036854775808 ≤ x / c) (h1 : x / c ≤ 9223372036854775807) : qok x c = true := by
  rw [qok_iff]; unfold flo; rw [if_pos hc]; omega
theorem St.qok_neg {x c : Int} (hc : 0 < c) (h0 : x / c < -9223372036854775808 ∨ 9223372036854775807 < x / c) : qok x c = false := by
  rw [qok_iff']; unfold flo; rw [if_pos hc]; omega

theorem isTime_any (t : Int) (w : World) :
    Calls Try.prog 14 #[.int .i64 t] w fun e w' => e = .returned (.bool (decide (-8000000000000000000 ≤ t ∧ t ≤ 8000000000000000000))) ∧ w = w' := by
  by_cases hl : -8000000000000000000 ≤ t
  · by_cases hh : t ≤ 8000000000000000000
    · rw [decide_eq_true ⟨hl, hh⟩]
      go_enter Try.func14, Try.ntmps14
      go_wp2
      go_ret
      exact ⟨rfl, rfl⟩
    · rw [decide_eq_false (by omega)]
      go_enter Try.func14, Try.ntmps14
      go_wp2
      go_ret
      exact ⟨rfl, rfl⟩
  · rw [decide_eq_false (by omega)]
    go_enter Try.func14, Try.ntmps14
    go_wp2
    go_ret
    exact ⟨rfl, rfl⟩

/-- How far are two instants apart? -/
def St.apa (a b : Int) : Int := if a < b then b - a else a - b
theorem diff_any (a b : Int) (w : World) :
    Calls Try.prog 15 #[.int .u64 a, .int .u64 b] w fun e w' => e = .returned (.int .i64 (dif a b)) ∧ w = w' := by
  go_enter Try.func15, Try.ntmps15
  go_wp2
  go_ret
  exact ⟨ret1 (by unfold wrap64 dif; simp only [IntKind.wrap_u64]; omega), rfl⟩
theorem of_any (t : Int) (w : World) (h0 : -9223372036854775808 ≤ t) (h1 : t ≤ 9223372036854775807) :
    Calls Try.prog 5 #[.int .i64 t] w fun e w' => e = .returned (.int .u64 (ofI t)) ∧ w = w' := by
  have hs := Lib.hid (ofI_split t)
  obtain ⟨u, hu⟩ : ∃ u, t % 1000000000 * 4294967296 / 1000000000 = u := ⟨_, rfl⟩
  obtain ⟨q, hq⟩ : ∃ q, t / 1000000000 = q := ⟨_, rfl⟩
  have u0 : 0 ≤ u := by omega
  have u1 : u < 4294967296 := by omega
  have Hu := Lib.hid hu
  have Hq := Lib.hid hq
  clear hu hq
  go_enter Try.func5, Try.ntmps5
  go_wp2_with fail
  refine (split_any t _ h0 h1).mono ?_
  rintro e w' ⟨rfl, rfl⟩
  rw [Hu.out, Hq.out]
  go_wp2_with fail
  go_ret
  refine ⟨ret1 ?_, rfl⟩
  rw [hs.out, Hu.out, Hq.out, ← or32 u0 u1]
  congr 1
  simp only [IntKind.wrap_u64]; omega

end Go.Proofs.Ytiecbpecpoojkaa
