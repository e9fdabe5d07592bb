/- Contracts of layer 1: the library's product and quotient of two words. -/
import Derived.Test.YtjcpfkibaohjjaaFixC
import Derived.Test.YtjcpfkibaohjjaaFixO
namespace Go.Proofs.Ytjcpfkibaohjjaa
open Go.RowKit Fx

theorem mul64_any (a b : Int) (w : World) (h0 : 0 ≤ a) (h1 : a ≤ 18446744073709551615) (h2 : 0 ≤ b) (h3 : b ≤ 18446744073709551615) :
    Calls Try.prog 51 #[.int .u64 a, .int .u64 b] w fun e w' => e = .returned (.tuple #[.int .u64 (a * b / 18446744073709551616), .int .u64 (a * b % 18446744073709551616)]) ∧ w = w' := by
  obtain ⟨x, rfl⟩ := Int.eq_ofNat_of_zero_le h0
  obtain ⟨y, rfl⟩ := Int.eq_ofNat_of_zero_le h2
  refine (Try.bits_Mul64 x y (by omega) (by omega) w).mono ?_
  rintro e w' ⟨rfl, rfl⟩
  exact ⟨rfl, rfl⟩

/-- How far y is shifted until its highest bit is set. -/
theorem bitLen_bounds (x : Nat) (h0 : x ≠ 0) (h : x < 2 ^ 64) : 1 ≤ Lib.bitLen x ∧ Lib.bitLen x ≤ 64 ∧ 2 ^ (Lib.bitLen x - 1) ≤ x ∧ x < 2 ^ Lib.bitLen x := by
  have one : ∀ z : Nat, z ≠ 0 → z < 2 ^ 64 → 1 ≤ Lib.bitLen z := fun z hz hz' => by rw [Lib.bitLen_half z hz hz']; omega
  have hb1 := one x h0 h
  have hb64 := Lib.bitLen_le x 64 (Nat.le_refl _) h
  refine ⟨hb1, hb64, ?_, ?_⟩
  · refine Nat.le_of_not_lt fun hlt => ?_
    have := Lib.bitLen_le x (Lib.bitLen x - 1) (by omega) hlt
    omega
  · refine Nat.lt_of_not_le fun hle => ?_
    have e := Lib.bitLen_shift (Lib.bitLen x) x hle h
    have hq : x / 2 ^ Lib.bitLen x ≠ 0 := by
      have := Nat.div_pos hle (Nat.pow_pos (by decide))
      omega
    have := one _ hq (Nat.lt_of_le_of_lt (Nat.div_le_self _ _) h)
    omega

theorem lz_any (y : Int) (h0 : 0 < y) (h1 : y ≤ 18446744073709551615) :
    ∃ s : Nat, s ≤ 63 ∧ 9223372036854775808 ≤ y * 2 ^ s ∧ y * 2 ^ s < 18446744073709551616 ∧
      ∀ w, Calls Try.prog 55 #[.int .u64 y] w fun e w' => e = .returned (.int .i64 s) ∧ w = w' := by
  obtain ⟨x, rfl⟩ := Int.eq_ofNat_of_zero_le (by omega : 0 ≤ y)
  obtain ⟨b1, b2, b3, b4⟩ := bitLen_bounds x (by omega) (by omega)
  refine ⟨64 - Lib.bitLen x, by omega, ?_, ?_, fun w => ?_⟩
  · have : 2 ^ (Lib.bitLen x - 1) * 2 ^ (64 - Lib.bitLen x) ≤ x * 2 ^ (64 - Lib.bitLen x) := Nat.mul_le_mul_right _ b3
    rw [← Nat.pow_add, show Lib.bitLen x - 1 + (64 - Lib.bitLen x) = 63 from by omega] at this
    have h2 : ((2 ^ 63 : Nat) : Int) ≤ ((x * 2 ^ (64 - Lib.bitLen x) : Nat) : Int) := Int.ofNat_le.2 this
    rw [show ((2 ^ 63 : Nat) : Int) = 9223372036854775808 from by decide, Int.natCast_mul, Int.natCast_pow] at h2
    exact h2
  · have : x * 2 ^ (64 - Lib.bitLen x) < 2 ^ Lib.bitLen x * 2 ^ (64 - Lib.bitLen x) := Nat.mul_lt_mul_of_pos_right b4 (Nat.pow_pos (by decide))
    rw [← Nat.pow_add, show Lib.bitLen x + (64 - Lib.bitLen x) = 64 from by omega] at this
    have h2 : ((x * 2 ^ (64 - Lib.bitLen x) : Nat) : Int) < ((2 ^ 64 : Nat) : Int) := Int.ofNat_lt.2 this
    rw [show ((2 ^ 64 : Nat) : Int) = 18446744073709551616 from by decide, Int.natCast_mul, Int.natCast_pow] at h2
    exact h2
  · refine (Try.bits_LeadingZeros64 x w (by omega) (by omega)).mono ?_
    rintro e w' ⟨rfl, rfl⟩
    rw [Int.toNat_natCast]
    exact ⟨ret1 (by omega), rfl⟩

set_option maxRecDepth 100000 in
theorem div64_low (lo y : Int) (w : World) (h2 : 0 ≤ lo) (h3 : lo ≤ 18446744073709551615) (h4 : 0 < y) (h5 : y ≤ 18446744073709551615) :
    Calls Try.prog 53 #[.int .u64 0, .int .u64 lo, .int .u64 y] w fun e w' => e = .returned (.tuple #[.int .u64 (lo / y), .int .u64 (lo % y)]) ∧ ∃ n, w' = w.drewN n := by
  have hy : (y == 0) = false := by simp; omega
  have d0 : 0 ≤ lo / y := Int.ediv_nonneg h2 (by omega)
  have d1 : lo / y ≤ 18446744073709551615 := Int.le_trans (Int.ediv_le_self _ h2) h3
  have m0 : 0 ≤ lo % y := Int.emod_nonneg _ (by omega)
  have m1 : lo % y < y := Int.emod_lt_of_pos _ h4
  go_enter Try.func53, Try.ntmps53
  go_wp2
  go_quiet (fail)
  go_wp2
  go_ret2
  exact ⟨rfl, _, rfl⟩

set_option maxRecDepth 100000 in
theorem div64_high (hi lo y : Int) (w : World) (h0 : 0 < hi) (h1 : hi < y) (h2 : 0 ≤ lo) (h3 : lo ≤ 18446744073709551615) (h5 : y ≤ 18446744073709551615) :
    Calls Try.prog 53 #[.int .u64 hi, .int .u64 lo, .int .u64 y] w fun e w' => e = .returned (.tuple #[.int .u64 ((hi * 18446744073709551616 + lo) / y), .int .u64 ((hi * 18446744073709551616 + lo) % y)]) ∧ ∃ n, w' = w.drewN n := by
  obtain ⟨s, s1, s2, s3, lz⟩ := lz_any y (by omega) h5
  obtain ⟨U, V, eU, eV, u0, u1, v0, v1, eX⟩ := shifted s1 h0 h1 h2 h3 s2 s3
  obtain ⟨Y, hY⟩ : ∃ Y, y * 2 ^ s = Y := ⟨_, rfl⟩
  rw [hY] at s2 s3 u1
  obtain ⟨D, hD⟩ : ∃ D, Y / 4294967296 = D := ⟨_, rfl⟩
  obtain ⟨N, hN⟩ : ∃ N, Y % 4294967296 = N := ⟨_, rfl⟩
  obtain ⟨A, hA⟩ : ∃ A, V / 4294967296 = A := ⟨_, rfl⟩
  obtain ⟨B, hB⟩ : ∃ B, V % 4294967296 = B := ⟨_, rfl⟩
  have eN : bits .and .u64 Y 4294967295 = N := by rw [← hN]; exact u64_mask Y (by omega) (by omega)
  have eB : bits .and .u64 V 4294967295 = B := by rw [← hB]; exact u64_mask V (by omega) (by omega)
  have eY : Y = D * 4294967296 + N := by omega
  have f1 : DigFit U A D N := ⟨u0, by omega, by omega, by omega, by omega, by omega, by omega, by omega⟩
  obtain ⟨i1, i2, ⟨i3, i4⟩, i5, i6⟩ := dig_start f1
  have dD0 : 2147483648 ≤ D := by omega
  have dD1 : D ≤ 4294967295 := by omega
  have dN0 : 0 ≤ N := by omega
  have dN1 : N ≤ 4294967295 := by omega
  have dA0 : 0 ≤ A := by omega
  have dA1 : A ≤ 4294967295 := by omega
  have dB0 : 0 ≤ B := by omega
  have dB1 : B ≤ 4294967295 := by omega
  have HX := Lib.hid eX
  have HY := Lib.hid eY
  have HA := Lib.hid hA
  have HB := Lib.hid hB
  have HN := Lib.hid hN
  have HYs := Lib.hid hY
  clear eX eY hB hN
  have hy : (y == 0) = false := by simp; omega
  have hh : (hi == 0) = false := by simp; omega
  go_enter Try.func53, Try.ntmps53
  go_wp2_with fail
  refine (lz _).mono ?_
  rintro e w' ⟨rfl, rfl⟩
  clear lz
  go_wp2_with fail
  go_loop [15, 16] (fun q r => ∃ Q R : Int, q = .int .u64 Q ∧ r = .int .u64 R ∧ DigInv U A D N Q R ∧ R < 4294967296) (fun q _ => (intOf q).toNat)
  case atStart => exact ⟨_, _, rfl, rfl, i1, i2⟩
  case round =>
    clear i1 i2 i3 i4 i5 i6
    obtain ⟨q, r, rfl, rfl, hd, hr⟩ := hrel
    have b1 := hd.1
    have b2 := hd.2.1
    have b3 := hd.2.2.1
    by_cases c1 : 4294967296 ≤ q
    · obtain ⟨n1, n2⟩ := dig_down f1 hd (.inl c1)
      by_cases c3 : 4294967296 ≤ r + D
      · obtain ⟨p, hp⟩ : ∃ p, q - 1 = p := ⟨_, rfl⟩
        rw [hp] at n1
        have ep := dig_break f1 n1 c3
        rw [← HY.out] at ep
        have eR := dig_rest (q := p) f1 (by rw [← HY.out]; exact ep)
        rw [← HY.out] at eR
        obtain ⟨S, hS⟩ : ∃ S, (U * 4294967296 + A) % Y = S := ⟨_, rfl⟩
        rw [hS] at eR
        have s0 : 0 ≤ S := by rw [← hS]; exact Int.emod_nonneg _ (by omega)
        have s1' : S < Y := by rw [← hS]; exact Int.emod_lt_of_pos _ (by omega)
        have HS := Lib.hid hS
        have EP1 := Lib.hid ep
        obtain ⟨T, _, _, _, _, hT, _, t0, t1⟩ := dig_true f1
        rw [← HY.out, ← ep] at hT
        have p0 : 0 ≤ p := by omega
        have p1 : p < 4294967296 := by omega
        clear ep hS hT t0 t1
        have f2 : DigFit S B D N := ⟨s0, by rw [← HY.out]; exact s1', dB0, by omega, dD0, by omega, dN0, by omega⟩
        obtain ⟨i1, i2, ⟨i3, i4⟩, i5, i6⟩ := dig_start f2
        go_wp2
        go_loop [18, 16] (fun q r => ∃ Q R : Int, q = .int .u64 Q ∧ r = .int .u64 R ∧ DigInv S B D N Q R ∧ R < 4294967296) (fun q _ => (intOf q).toNat)
        case atStart => exact ⟨_, _, rfl, rfl, i1, i2⟩
        case round =>
          clear i1 i2 i3 i4 i5 i6
          obtain ⟨q, r, rfl, rfl, hd, hr⟩ := hrel
          have b1 := hd.1
          have b2 := hd.2.1
          have b3 := hd.2.2.1
          by_cases c1 : 4294967296 ≤ q
          · obtain ⟨n1, n2⟩ := dig_down f2 hd (.inl c1)
            by_cases c3 : 4294967296 ≤ r + D
            · obtain ⟨z, hz⟩ : ∃ z, q - 1 = z := ⟨_, rfl⟩
              rw [hz] at n1
              have ep := dig_break f2 n1 c3
              rw [← HY.out] at ep
              have eR := dig_rest (q := z) f2 (by rw [← HY.out]; exact ep)
              rw [← HY.out] at eR
              obtain ⟨R0, hR0⟩ : ∃ R0, (S * 4294967296 + B) % Y = R0 := ⟨_, rfl⟩
              rw [hR0] at eR
              have HR0 := Lib.hid hR0
              have EP := Lib.hid ep
              obtain ⟨T, _, _, _, _, hT, _, t0, t1⟩ := dig_true f2
              rw [← HY.out, ← ep] at hT
              have z0 : 0 ≤ z := by omega
              have z1 : z < 4294967296 := by omega
              clear ep hR0 hT t0 t1
              go_wp2
              go_ret2
              obtain ⟨z1, z2⟩ := digits (q1 := p) (q0 := z) (by omega) HYs.out HX.out (by rw [HA.out]; exact EP1.out) (by rw [HA.out, HB.out, HS.out]; exact EP.out)
              rw [HA.out, HS.out, HB.out, HR0.out] at z2
              exact ⟨ret2u z1 z2, 0, rfl⟩
            · go_wp2
              go_round
              case rel => exact ⟨_, _, rfl, rfl, n1, by omega⟩
              case measure => simp [intOf]; omega
          · have sm := dig_small f2 hd (by omega)
            obtain ⟨sm0, sm1⟩ := sm
            by_cases c2 : 4294967296 * r + B < q * N
            · obtain ⟨n1, n2⟩ := dig_down f2 hd (.inr c2)
              by_cases c3 : 4294967296 ≤ r + D
              · obtain ⟨z, hz⟩ : ∃ z, q - 1 = z := ⟨_, rfl⟩
                rw [hz] at n1
                have ep := dig_break f2 n1 c3
                rw [← HY.out] at ep
                have eR := dig_rest (q := z) f2 (by rw [← HY.out]; exact ep)
                rw [← HY.out] at eR
                obtain ⟨R0, hR0⟩ : ∃ R0, (S * 4294967296 + B) % Y = R0 := ⟨_, rfl⟩
                rw [hR0] at eR
                have HR0 := Lib.hid hR0
                have EP := Lib.hid ep
                obtain ⟨T, _, _, _, _, hT, _, t0, t1⟩ := dig_true f2
                rw [← HY.out, ← ep] at hT
                have z0 : 0 ≤ z := by omega
                have z1 : z < 4294967296 := by omega
                clear ep hR0 hT t0 t1
                go_wp2
                go_ret2
                obtain ⟨z1, z2⟩ := digits (q1 := p) (q0 := z) (by omega) HYs.out HX.out (by rw [HA.out]; exact EP1.out) (by rw [HA.out, HB.out, HS.out]; exact EP.out)
                rw [HA.out, HS.out, HB.out, HR0.out] at z2
                exact ⟨ret2u z1 z2, 0, rfl⟩
              · go_wp2
                go_round
                case rel => exact ⟨_, _, rfl, rfl, n1, by omega⟩
                case measure => simp [intOf]; omega
            · have ep := dig_end f2 hd (by omega) (by omega)
              obtain ⟨z, rfl⟩ : ∃ z, z = q := ⟨_, rfl⟩
              rw [← HY.out] at ep
              have eR := dig_rest (q := z) f2 (by rw [← HY.out]; exact ep)
              rw [← HY.out] at eR
              obtain ⟨R0, hR0⟩ : ∃ R0, (S * 4294967296 + B) % Y = R0 := ⟨_, rfl⟩
              rw [hR0] at eR
              have HR0 := Lib.hid hR0
              have EP := Lib.hid ep
              obtain ⟨T, _, _, _, _, hT, _, t0, t1⟩ := dig_true f2
              rw [← HY.out, ← ep] at hT
              have z0 : 0 ≤ z := by omega
              have z1 : z < 4294967296 := by omega
              clear ep hR0 hT t0 t1
              go_wp2
              go_ret2
              obtain ⟨z1, z2⟩ := digits (q1 := p) (q0 := z) (by omega) HYs.out HX.out (by rw [HA.out]; exact EP1.out) (by rw [HA.out, HB.out, HS.out]; exact EP.out)
              rw [HA.out, HS.out, HB.out, HR0.out] at z2
              exact ⟨ret2u z1 z2, 0, rfl⟩
      · go_wp2
        go_round
        case rel => exact ⟨_, _, rfl, rfl, n1, by omega⟩
        case measure => simp [intOf]; omega
    · have sm := dig_small f1 hd (by omega)
      obtain ⟨sm0, sm1⟩ := sm
      by_cases c2 : 4294967296 * r + A < q * N
      · obtain ⟨n1, n2⟩ := dig_down f1 hd (.inr c2)
        by_cases c3 : 4294967296 ≤ r + D
        · obtain ⟨p, hp⟩ : ∃ p, q - 1 = p := ⟨_, rfl⟩
          rw [hp] at n1
          have ep := dig_break f1 n1 c3
          rw [← HY.out] at ep
          have eR := dig_rest (q := p) f1 (by rw [← HY.out]; exact ep)
          rw [← HY.out] at eR
          obtain ⟨S, hS⟩ : ∃ S, (U * 4294967296 + A) % Y = S := ⟨_, rfl⟩
          rw [hS] at eR
          have s0 : 0 ≤ S := by rw [← hS]; exact Int.emod_nonneg _ (by omega)
          have s1' : S < Y := by rw [← hS]; exact Int.emod_lt_of_pos _ (by omega)
          have HS := Lib.hid hS
          have EP1 := Lib.hid ep
          obtain ⟨T, _, _, _, _, hT, _, t0, t1⟩ := dig_true f1
          rw [← HY.out, ← ep] at hT
          have p0 : 0 ≤ p := by omega
          have p1 : p < 4294967296 := by omega
          clear ep hS hT t0 t1
          have f2 : DigFit S B D N := ⟨s0, by rw [← HY.out]; exact s1', dB0, by omega, dD0, by omega, dN0, by omega⟩
          obtain ⟨i1, i2, ⟨i3, i4⟩, i5, i6⟩ := dig_start f2
          go_wp2
          go_loop [18, 16] (fun q r => ∃ Q R : Int, q = .int .u64 Q ∧ r = .int .u64 R ∧ DigInv S B D N Q R ∧ R < 4294967296) (fun q _ => (intOf q).toNat)
          case atStart => exact ⟨_, _, rfl, rfl, i1, i2⟩
          case round =>
            clear i1 i2 i3 i4 i5 i6
            obtain ⟨q, r, rfl, rfl, hd, hr⟩ := hrel
            have b1 := hd.1
            have b2 := hd.2.1
            have b3 := hd.2.2.1
            by_cases c1 : 4294967296 ≤ q
            · obtain ⟨n1, n2⟩ := dig_down f2 hd (.inl c1)
              by_cases c3 : 4294967296 ≤ r + D
              · obtain ⟨z, hz⟩ : ∃ z, q - 1 = z := ⟨_, rfl⟩
                rw [hz] at n1
                have ep := dig_break f2 n1 c3
                rw [← HY.out] at ep
                have eR := dig_rest (q := z) f2 (by rw [← HY.out]; exact ep)
                rw [← HY.out] at eR
                obtain ⟨R0, hR0⟩ : ∃ R0, (S * 4294967296 + B) % Y = R0 := ⟨_, rfl⟩
                rw [hR0] at eR
                have HR0 := Lib.hid hR0
                have EP := Lib.hid ep
                obtain ⟨T, _, _, _, _, hT, _, t0, t1⟩ := dig_true f2
                rw [← HY.out, ← ep] at hT
                have z0 : 0 ≤ z := by omega
                have z1 : z < 4294967296 := by omega
                clear ep hR0 hT t0 t1
                go_wp2
                go_ret2
                obtain ⟨z1, z2⟩ := digits (q1 := p) (q0 := z) (by omega) HYs.out HX.out (by rw [HA.out]; exact EP1.out) (by rw [HA.out, HB.out, HS.out]; exact EP.out)
                rw [HA.out, HS.out, HB.out, HR0.out] at z2
                exact ⟨ret2u z1 z2, 0, rfl⟩
              · go_wp2
                go_round
                case rel => exact ⟨_, _, rfl, rfl, n1, by omega⟩
                case measure => simp [intOf]; omega
            · have sm := dig_small f2 hd (by omega)
              obtain ⟨sm0, sm1⟩ := sm
              by_cases c2 : 4294967296 * r + B < q * N
              · obtain ⟨n1, n2⟩ := dig_down f2 hd (.inr c2)
                by_cases c3 : 4294967296 ≤ r + D
                · obtain ⟨z, hz⟩ : ∃ z, q - 1 = z := ⟨_, rfl⟩
                  rw [hz] at n1
                  have ep := dig_break f2 n1 c3
                  rw [← HY.out] at ep
                  have eR := dig_rest (q := z) f2 (by rw [← HY.out]; exact ep)
                  rw [← HY.out] at eR
                  obtain ⟨R0, hR0⟩ : ∃ R0, (S * 4294967296 + B) % Y = R0 := ⟨_, rfl⟩
                  rw [hR0] at eR
                  have HR0 := Lib.hid hR0
                  have EP := Lib.hid ep
                  obtain ⟨T, _, _, _, _, hT, _, t0, t1⟩ := dig_true f2
                  rw [← HY.out, ← ep] at hT
                  have z0 : 0 ≤ z := by omega
                  have z1 : z < 4294967296 := by omega
                  clear ep hR0 hT t0 t1
                  go_wp2
                  go_ret2
                  obtain ⟨z1, z2⟩ := digits (q1 := p) (q0 := z) (by omega) HYs.out HX.out (by rw [HA.out]; exact EP1.out) (by rw [HA.out, HB.out, HS.out]; exact EP.out)
                  rw [HA.out, HS.out, HB.out, HR0.out] at z2
                  exact ⟨ret2u z1 z2, 0, rfl⟩
                · go_wp2
                  go_round
                  case rel => exact ⟨_, _, rfl, rfl, n1, by omega⟩
                  case measure => simp [intOf]; omega
              · have ep := dig_end f2 hd (by omega) (by omega)
                obtain ⟨z, rfl⟩ : ∃ z, z = q := ⟨_, rfl⟩
                rw [← HY.out] at ep
                have eR := dig_rest (q := z) f2 (by rw [← HY.out]; exact ep)
                rw [← HY.out] at eR
                obtain ⟨R0, hR0⟩ : ∃ R0, (S * 4294967296 + B) % Y = R0 := ⟨_, rfl⟩
                rw [hR0] at eR
                have HR0 := Lib.hid hR0
                have EP := Lib.hid ep
                obtain ⟨T, _, _, _, _, hT, _, t0, t1⟩ := dig_true f2
                rw [← HY.out, ← ep] at hT
                have z0 : 0 ≤ z := by omega
                have z1 : z < 4294967296 := by omega
                clear ep hR0 hT t0 t1
                go_wp2
                go_ret2
                obtain ⟨z1, z2⟩ := digits (q1 := p) (q0 := z) (by omega) HYs.out HX.out (by rw [HA.out]; exact EP1.out) (by rw [HA.out, HB.out, HS.out]; exact EP.out)
                rw [HA.out, HS.out, HB.out, HR0.out] at z2
                exact ⟨ret2u z1 z2, 0, rfl⟩
        · go_wp2
          go_round
          case rel => exact ⟨_, _, rfl, rfl, n1, by omega⟩
          case measure => simp [intOf]; omega
      · have ep := dig_end f1 hd (by omega) (by omega)
        obtain ⟨p, rfl⟩ : ∃ p, p = q := ⟨_, rfl⟩
        rw [← HY.out] at ep
        have eR := dig_rest (q := p) f1 (by rw [← HY.out]; exact ep)
        rw [← HY.out] at eR
        obtain ⟨S, hS⟩ : ∃ S, (U * 4294967296 + A) % Y = S := ⟨_, rfl⟩
        rw [hS] at eR
        have s0 : 0 ≤ S := by rw [← hS]; exact Int.emod_nonneg _ (by omega)
        have s1' : S < Y := by rw [← hS]; exact Int.emod_lt_of_pos _ (by omega)
        have HS := Lib.hid hS
        have EP1 := Lib.hid ep
        obtain ⟨T, _, _, _, _, hT, _, t0, t1⟩ := dig_true f1
        rw [← HY.out, ← ep] at hT
        have p0 : 0 ≤ p := by omega
        have p1 : p < 4294967296 := by omega
        clear ep hS hT t0 t1
        have f2 : DigFit S B D N := ⟨s0, by rw [← HY.out]; exact s1', dB0, by omega, dD0, by omega, dN0, by omega⟩
        obtain ⟨i1, i2, ⟨i3, i4⟩, i5, i6⟩ := dig_start f2
        go_wp2
        go_loop [18, 16] (fun q r => ∃ Q R : Int, q = .int .u64 Q ∧ r = .int .u64 R ∧ DigInv S B D N Q R ∧ R < 4294967296) (fun q _ => (intOf q).toNat)
        case atStart => exact ⟨_, _, rfl, rfl, i1, i2⟩
        case round =>
          clear i1 i2 i3 i4 i5 i6
          obtain ⟨q, r, rfl, rfl, hd, hr⟩ := hrel
          have b1 := hd.1
          have b2 := hd.2.1
          have b3 := hd.2.2.1
          by_cases c1 : 4294967296 ≤ q
          · obtain ⟨n1, n2⟩ := dig_down f2 hd (.inl c1)
            by_cases c3 : 4294967296 ≤ r + D
            · obtain ⟨z, hz⟩ : ∃ z, q - 1 = z := ⟨_, rfl⟩
              rw [hz] at n1
              have ep := dig_break f2 n1 c3
              rw [← HY.out] at ep
              have eR := dig_rest (q := z) f2 (by rw [← HY.out]; exact ep)
              rw [← HY.out] at eR
              obtain ⟨R0, hR0⟩ : ∃ R0, (S * 4294967296 + B) % Y = R0 := ⟨_, rfl⟩
              rw [hR0] at eR
              have HR0 := Lib.hid hR0
              have EP := Lib.hid ep
              obtain ⟨T, _, _, _, _, hT, _, t0, t1⟩ := dig_true f2
              rw [← HY.out, ← ep] at hT
              have z0 : 0 ≤ z := by omega
              have z1 : z < 4294967296 := by omega
              clear ep hR0 hT t0 t1
              go_wp2
              go_ret2
              obtain ⟨z1, z2⟩ := digits (q1 := p) (q0 := z) (by omega) HYs.out HX.out (by rw [HA.out]; exact EP1.out) (by rw [HA.out, HB.out, HS.out]; exact EP.out)
              rw [HA.out, HS.out, HB.out, HR0.out] at z2
              exact ⟨ret2u z1 z2, 0, rfl⟩
            · go_wp2
              go_round
              case rel => exact ⟨_, _, rfl, rfl, n1, by omega⟩
              case measure => simp [intOf]; omega
          · have sm := dig_small f2 hd (by omega)
            obtain ⟨sm0, sm1⟩ := sm
            by_cases c2 : 4294967296 * r + B < q * N
            · obtain ⟨n1, n2⟩ := dig_down f2 hd (.inr c2)
              by_cases c3 : 4294967296 ≤ r + D
              · obtain ⟨z, hz⟩ : ∃ z, q - 1 = z := ⟨_, rfl⟩
                rw [hz] at n1
                have ep := dig_break f2 n1 c3
                rw [← HY.out] at ep
                have eR := dig_rest (q := z) f2 (by rw [← HY.out]; exact ep)
                rw [← HY.out] at eR
                obtain ⟨R0, hR0⟩ : ∃ R0, (S * 4294967296 + B) % Y = R0 := ⟨_, rfl⟩
                rw [hR0] at eR
                have HR0 := Lib.hid hR0
                have EP := Lib.hid ep
                obtain ⟨T, _, _, _, _, hT, _, t0, t1⟩ := dig_true f2
                rw [← HY.out, ← ep] at hT
                have z0 : 0 ≤ z := by omega
                have z1 : z < 4294967296 := by omega
                clear ep hR0 hT t0 t1
                go_wp2
                go_ret2
                obtain ⟨z1, z2⟩ := digits (q1 := p) (q0 := z) (by omega) HYs.out HX.out (by rw [HA.out]; exact EP1.out) (by rw [HA.out, HB.out, HS.out]; exact EP.out)
                rw [HA.out, HS.out, HB.out, HR0.out] at z2
                exact ⟨ret2u z1 z2, 0, rfl⟩
              · go_wp2
                go_round
                case rel => exact ⟨_, _, rfl, rfl, n1, by omega⟩
                case measure => simp [intOf]; omega
            · have ep := dig_end f2 hd (by omega) (by omega)
              obtain ⟨z, rfl⟩ : ∃ z, z = q := ⟨_, rfl⟩
              rw [← HY.out] at ep
              have eR := dig_rest (q := z) f2 (by rw [← HY.out]; exact ep)
              rw [← HY.out] at eR
              obtain ⟨R0, hR0⟩ : ∃ R0, (S * 4294967296 + B) % Y = R0 := ⟨_, rfl⟩
              rw [hR0] at eR
              have HR0 := Lib.hid hR0
              have EP := Lib.hid ep
              obtain ⟨T, _, _, _, _, hT, _, t0, t1⟩ := dig_true f2
              rw [← HY.out, ← ep] at hT
              have z0 : 0 ≤ z := by omega
              have z1 : z < 4294967296 := by omega
              clear ep hR0 hT t0 t1
              go_wp2
              go_ret2
              obtain ⟨z1, z2⟩ := digits (q1 := p) (q0 := z) (by omega) HYs.out HX.out (by rw [HA.out]; exact EP1.out) (by rw [HA.out, HB.out, HS.out]; exact EP.out)
              rw [HA.out, HS.out, HB.out, HR0.out] at z2
              exact ⟨ret2u z1 z2, 0, rfl⟩
end Go.Proofs.Ytjcpfkibaohjjaa
