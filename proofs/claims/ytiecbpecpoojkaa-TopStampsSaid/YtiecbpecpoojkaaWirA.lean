/- Contracts of layer 2: Get, of the program and of the specification. -/
import Derived.Test.YtiecbpecpoojkaaProg
import Derived.Test.YtiecbpecpoojkaaWirM
import Derived.WalkKit
import Derived.WalkSpells
import Derived.WalkLawsBesides
import Derived.Deep.QuietTactic
import Derived.BigQuiet
import Derived.BigGuardPart
import Derived.Lib.Hide
namespace Go.Proofs.Ytiecbpecpoojkaa
open Go.RowKit Wi

/-- The slice of n bytes at A reads as l and lies below block B. -/
def BReads (w : World) (B : Nat) (A : Option Addr) (n : Nat) (l : List Int) : Prop :=
  l.length = n ∧ Bytes l ∧ (0 < n → ∃ b off, A = some ⟨b, off, none⟩ ∧ b < B ∧ ∀ i, i < n → w.cell? ⟨b, off + i, none⟩ = some (.int .u8 (l.getD i 0)))

theorem isSize_any (s : Int) (w : World) :
    Calls Try.prog 12 #[.int .i64 s] w fun e w' => e = .returned (.bool (decide (1 ≤ s ∧ s ≤ 8))) ∧ w = w' := by
  by_cases hl : 1 ≤ s
  · by_cases hh : s ≤ 8
    · rw [decide_eq_true ⟨hl, hh⟩]
      go_enter Try.func12, Try.ntmps12
      go_wp2
      go_ret
      exact ⟨rfl, rfl⟩
    · rw [decide_eq_false (by omega)]
      go_enter Try.func12, Try.ntmps12
      go_wp2
      go_ret
      exact ⟨rfl, rfl⟩
  · rw [decide_eq_false (by omega)]
    go_enter Try.func12, Try.ntmps12
    go_wp2
    go_ret
    exact ⟨rfl, rfl⟩

theorem ret_ne {n e n' e' : Int} (h : n = n') (h' : e = e') : Ending.returned (.tuple #[.int .u64 n, .int .i64 e]) = .returned (.tuple #[.int .u64 n', .int .i64 e']) := by rw [h, h']

theorem get_ok (b off n c : Nat) (l : List Int) (a s : Nat) (w : World) (hn : l.length = n) (hb : Bytes l) (hm : n ≤ 9223372036854775807) (hc : ∀ i, i < n → w.cell? ⟨b, off + i, none⟩ = some (.int .u8 (l.getD i 0)))
    (h1 : 1 ≤ s) (h2 : s ≤ 8) (h3 : a + s ≤ n) :
    Calls Try.prog 6 #[.slice (some ⟨b, off, none⟩) n c, .int .i64 a, .int .i64 s] w fun e w' => e = .returned (.tuple #[.int .u64 (beVal ((l.drop a).take s)), .int .i64 0]) ∧ w = w' := by
  have hsz := Lib.hid (decide_eq_true (show (1 : Int) ≤ s ∧ (s : Int) ≤ 8 by omega))
  have Hn := Lib.hid hn
  clear hn
  have g1 : ¬ ((a : Int) < 0) := by omega
  have g2 : ¬ ((n : Int) - a < s) := by omega
  have g3 : ¬ ((n : Int) < a) := by omega
  go_enter Try.func6, Try.ntmps6
  go_wp2_with fail
  refine (isSize_any s _).mono ?_
  rintro e w' ⟨rfl, rfl⟩
  rw [hsz.out]
  go_wp2_with fail
  go_loop [8, 24] (fun v i => ∃ k : Nat, ∃ V : Int, k ≤ s ∧ i = .int .i64 k ∧ v = .int .u64 V ∧ Hid (V = beVal ((l.drop a).take k))) (fun _ i => s - (intOf i).toNat)
  case atStart => exact ⟨0, 0, by omega, rfl, rfl, Lib.hid rfl⟩
  case round =>
    obtain ⟨k, V, hk, rfl, rfl, hV⟩ := hrel
    by_cases hlt : k < s
    · obtain ⟨x, hx⟩ : ∃ x, l.getD (a + k) 0 = x := ⟨_, rfl⟩
      have hcell := hc (a + k) (by omega)
      obtain ⟨st, v0, v1⟩ := get_step l hb a k (by rw [Hn.out]; omega) (by omega)
      have bx := hb.getD (a + k)
      rw [hx] at hcell st bx
      rw [← hV.out] at st v0 v1
      obtain ⟨V', hV'⟩ : ∃ V', beVal ((l.drop a).take (k + 1)) = V' := ⟨_, rfl⟩
      rw [hV', show IntKind.u64.wrap (V * 256) = V * 256 from by rw [IntKind.wrap_u64]; omega] at st
      obtain ⟨bx0, bx1⟩ := bx
      have HV' := Lib.hid hV'.symm
      clear hx hV' hV
      go_wp2_with fail
      go_round
      case rel => exact ⟨k + 1, _, by omega, by go_num, rfl, HV'⟩
      case measure => simp [intOf]; omega
    · obtain rfl : k = s := by omega
      go_wp2_with fail
      go_ret2
      exact ⟨ret_ne hV.out rfl, rfl⟩

end Go.Proofs.Ytiecbpecpoojkaa
