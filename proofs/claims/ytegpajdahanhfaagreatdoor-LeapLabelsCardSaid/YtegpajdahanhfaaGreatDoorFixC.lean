/- Contracts of layer 1: products in two words, the division bit by bit. -/
import Derived.Test.YtegpajdahanhfaaGreatDoorFixB
import Derived.Test.YtegpajdahanhfaaGreatDoorFixN
import Derived.Test.YtegpajdahanhfaaGreatDoorShelf
namespace Go.Proofs.YtegpajdahanhfaaGreatDoor
open Go.RowKit Fx

theorem ret3u {a b a' b' c c' : Int} (h : a = a') (h' : b = b') (h'' : c = c') : Ending.returned (.tuple #[.int .u64 a, .int .u64 b, .int .u64 c]) = .returned (.tuple #[.int .u64 a', .int .u64 b', .int .u64 c']) := by rw [h, h', h'']
theorem ret2u {a b a' b' : Int} (h : a = a') (h' : b = b') : Ending.returned (.tuple #[.int .u64 a, .int .u64 b]) = .returned (.tuple #[.int .u64 a', .int .u64 b']) := by rw [h, h']

set_option maxRecDepth 100000 in
theorem divide_any (hi lo c : Int) (w : World) (h0 : 0 ≤ hi) (h1 : hi ≤ 18446744073709551615) (h2 : 0 ≤ lo) (h3 : lo ≤ 18446744073709551615) (h4 : 0 < c) (h5 : c ≤ 18446744073709551615) :
    Calls Tryz.prog 127 #[.int .u64 hi, .int .u64 lo, .int .u64 c] w fun e w' =>
      e = .returned (.tuple #[.int .u64 ((hi * 18446744073709551616 + lo) / c / 18446744073709551616), .int .u64 ((hi * 18446744073709551616 + lo) / c % 18446744073709551616), .int .u64 ((hi * 18446744073709551616 + lo) % c)]) ∧ w = w' := by
  have hX : hi * 18446744073709551616 + lo < 340282366920938463463374607431768211456 := by omega
  have hst := div_start h0 h1 h2 h3 h4
  obtain ⟨X, HX⟩ : ∃ X, hi * 18446744073709551616 + lo = X := ⟨_, rfl⟩
  rw [HX] at hX hst ⊢
  have HX' := Lib.hid HX
  clear HX
  go_enter Tryz.func127, Tryz.ntmps127
  go_wp2
  go_loop [0, 1, 9, 10, 11, 12] (fun h l q1 q0 r i => ∃ k : Nat, ∃ H L Q1 Q0 R : Int, k ≤ 128 ∧ i = .int .i64 k ∧ h = .int .u64 H ∧ l = .int .u64 L ∧ q1 = .int .u64 Q1 ∧ q0 = .int .u64 Q0 ∧ r = .int .u64 R ∧ DivInv X c k H L Q1 Q0 R) (fun _ _ _ _ _ i => 128 - (intOf i).toNat)
  case atStart => exact ⟨0, _, _, _, _, _, by omega, rfl, rfl, rfl, rfl, rfl, rfl, hst⟩
  case round =>
    obtain ⟨k, H, L, Q1, Q0, R, hk, rfl, rfl, rfl, rfl, rfl, rfl, hi⟩ := hrel
    have b := hi.1
    obtain ⟨b1, b2, b3, b4, b5, b6, b7, b8, b9, b10⟩ := b
    have eR : bits .or .u64 (IntKind.u64.wrap (R * 2)) (H / 9223372036854775808) = R * 2 % 18446744073709551616 + H / 9223372036854775808 := shl_or b1 b2
    have eH : bits .or .u64 (IntKind.u64.wrap (H * 2)) (L / 9223372036854775808) = H * 2 % 18446744073709551616 + L / 9223372036854775808 := shl_or b3 b4
    have eQ : bits .or .u64 (IntKind.u64.wrap (Q1 * 2)) (Q0 / 9223372036854775808) = Q1 * 2 % 18446744073709551616 + Q0 / 9223372036854775808 := shl_or b7 b8
    have eO : bits .or .u64 (IntKind.u64.wrap (Q0 * 2)) 1 = Q0 * 2 % 18446744073709551616 + 1 := shl_or1
    have ER := Lib.hid eR
    have EH := Lib.hid eH
    have EQ := Lib.hid eQ
    have EO := Lib.hid eO
    clear eR eH eQ eO
    by_cases hlt : k < 128
    · by_cases ht : R / 9223372036854775808 = 1
      · have nx := div_round hX h4 hlt hi 1 (.inr rfl) (by omega) (by omega)
        go_wp2
        go_round
        case rel =>
          refine ⟨k + 1, _, _, _, _, _, by omega, by go_num, rfl, rfl, rfl, rfl, rfl, ?_⟩
          rw [ER.out, EH.out, EQ.out, EO.out]
          simp only [IntKind.wrap_u64]
          rw [show (R * 2 % 18446744073709551616 + H / 9223372036854775808 - c) % 18446744073709551616 = R * 2 + H / 9223372036854775808 - 1 * c from by omega]
          exact nx
        case measure => simp [intOf]; omega
      · have ht' : (R / 9223372036854775808 == 1) = false := by simpa using ht
        have eR : bits .or .u64 (R * 2) (H / 9223372036854775808) = R * 2 + H / 9223372036854775808 := u64_or_add 1 (by omega) (by omega) (by omega) (by omega) (by omega) (by omega)
        have ER := Lib.hid eR
        clear eR
        by_cases hge : c ≤ bits .or .u64 (R * 2) (H / 9223372036854775808)
        · have hge' := hge
          rw [ER.out] at hge'
          have nx := div_round hX h4 hlt hi 1 (.inr rfl) (by omega) (by omega)
          clear hge'
          go_wp2
          go_round
          case rel =>
            refine ⟨k + 1, _, _, _, _, _, by omega, by go_num, rfl, rfl, rfl, rfl, rfl, ?_⟩
            rw [ER.out, EH.out, EQ.out, EO.out]
            simp only [IntKind.wrap_u64]
            rw [show (R * 2 + H / 9223372036854775808 - c) % 18446744073709551616 = R * 2 + H / 9223372036854775808 - 1 * c from by rw [ER.out] at hge; omega]
            exact nx
          case measure => simp [intOf]; omega
        · have hge' := hge
          rw [ER.out] at hge'
          have nx := div_round hX h4 hlt hi 0 (.inl rfl) (by omega) (by omega)
          clear hge'
          go_wp2
          go_round
          case rel =>
            refine ⟨k + 1, _, _, _, _, _, by omega, by go_num, rfl, rfl, rfl, rfl, rfl, ?_⟩
            rw [ER.out, EH.out, EQ.out]
            simp only [IntKind.wrap_u64]
            rw [show R * 2 + H / 9223372036854775808 = R * 2 + H / 9223372036854775808 - 0 * c from by omega, show Q0 * 2 % 18446744073709551616 = Q0 * 2 % 18446744073709551616 + 0 from by omega]
            exact nx
          case measure => simp [intOf]; omega
    · obtain rfl : k = 128 := by omega
      obtain ⟨e1, e2, e3⟩ := div_end hi
      have E1 := Lib.hid e1
      have E2 := Lib.hid e2
      have E3 := Lib.hid e3
      clear e1 e2 e3
      go_wp2
      go_ret3
      exact ⟨ret3u E1.out E2.out E3.out, rfl⟩

set_option maxRecDepth 100000 in
theorem product_any (a b : Int) (w : World) (h0 : 0 ≤ a) (h1 : a ≤ 18446744073709551615) (h2 : 0 ≤ b) (h3 : b ≤ 18446744073709551615) :
    Calls Tryz.prog 125 #[.int .u64 a, .int .u64 b] w fun e w' =>
      e = .returned (.tuple #[.int .u64 (a * b / 18446744073709551616), .int .u64 (a * b % 18446744073709551616)]) ∧ w = w' := by
  obtain ⟨p, ⟨p1, p2⟩, ⟨p3, p4⟩, ⟨p5, p6⟩, p7, p8⟩ := product_parts a b h0 h1 h2 h3
  have hp := Lib.hid p
  clear p
  go_enter Tryz.func125, Tryz.ntmps125
  go_wp2
  go_ret2
  exact ⟨ret2u (by have q := hp.out; omega) (by have q := hp.out; omega), rfl⟩
end Go.Proofs.YtegpajdahanhfaaGreatDoor
