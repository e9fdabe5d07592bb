/- The walk of FixedReturns. -/
import Derived.Test.YtkcllhcinbcgiaaFixL
namespace Go.Proofs.Ytkcllhcinbcgiaa
open Go.RowKit Fx

theorem Fx.flo_pos {x c : Int} (h : 0 < c) : flo x c = x / c := if_pos h

/-- A length that is scaled and scaled back. -/
theorem Fx.returns {n p : Int} (n0 : -1152921504606846976 ≤ n) (n1 : n ≤ 1152921504606846976) (p0 : -500000 ≤ p) (p1 : p ≤ 500000) :
    ∃ S U : Int, flo (n * (1000000000 + p)) 1000000000 = S ∧ (rOk p && qok (n * (1000000000 + p)) 1000000000) = true ∧ -9223372036854775808 ≤ S ∧ S ≤ 9223372036854775807 ∧
      flo (S * 1000000000) (1000000000 + p) = U ∧ (rOk p && qok (S * 1000000000) (1000000000 + p)) = true ∧ -9223372036854775808 ≤ U ∧ U ≤ n ∧ n - 2 ≤ U ∧ (0 ≤ n → 0 ≤ p → n ≤ S) ∧ (0 ≤ n → p ≤ 0 → S ≤ n) := by
  have hD : 0 < 1000000000 + p := by omega
  have hr : rOk p = true := rOk_iff.2 ⟨p0, p1⟩
  obtain ⟨D, eD⟩ : ∃ D, 1000000000 + p = D := ⟨_, rfl⟩
  rw [eD] at hD ⊢
  have e := Int.emod_add_mul_ediv (n * D) 1000000000
  have e0 := Int.emod_nonneg (n * D) (b := 1000000000) (by decide)
  have e1 := Int.emod_lt_of_pos (n * D) (b := 1000000000) (by decide)
  -- n * D lies between n * 999500000 and n * 1000500000, whatever n's sign
  have bnd : -1153497965359150399488 * 1000000 ≤ n * D ∧ n * D ≤ 1153497965359150399488 * 1000000 := by
    by_cases hn : 0 ≤ n
    · have a1 := Int.mul_le_mul n1 (show D ≤ 1000500000 by omega) (by omega) (by decide)
      have a2 := Int.mul_nonneg hn (show 0 ≤ D by omega)
      omega
    · have a1 := Int.mul_le_mul (show -n ≤ 1152921504606846976 by omega) (show D ≤ 1000500000 by omega) (by omega) (by decide)
      have a2 := Int.mul_nonneg (show 0 ≤ -n by omega) (show 0 ≤ D by omega)
      rw [Int.neg_mul] at a1 a2
      omega
  generalize hS : n * D / 1000000000 = S at *
  have f := Int.emod_add_mul_ediv (S * 1000000000) D
  have f0 := Int.emod_nonneg (S * 1000000000) (b := D) (by omega)
  have f1 := Int.emod_lt_of_pos (S * 1000000000) hD
  generalize hU : S * 1000000000 / D = U at *
  rw [Int.mul_comm D U] at f
  have u1 : U ≤ n := by
    have : U * D ≤ n * D := by omega
    exact Int.le_of_mul_le_mul_right this hD
  have u2 : n - 2 ≤ U := by
    have : (n - 3) * D < U * D := by rw [Int.sub_mul]; omega
    have := Int.lt_of_mul_lt_mul_right this (by omega)
    omega
  refine ⟨S, U, by rw [flo_pos (by decide)]; exact hS, by rw [hr, qok_okI' (by decide), flo_pos (by decide), hS, okI_yes (by omega) (by omega)]; rfl, by omega, by omega, by rw [flo_pos hD]; exact hU, by rw [hr, qok_okI' (by omega), flo_pos hD, hU, okI_yes (by omega) (by omega)]; rfl, by omega, u1, u2, fun hn hp => ?_, fun hn hp => ?_⟩
  · have : n * 1000000000 ≤ n * D := Int.mul_le_mul_of_nonneg_left (by omega) hn
    omega
  · have : n * D ≤ n * 1000000000 := Int.mul_le_mul_of_nonneg_left (by omega) hn
    omega

theorem scale_yes (n p : Int) (w : World) (h0 : -9223372036854775808 ≤ n) (h1 : n ≤ 9223372036854775807) (h2 : -9223372036854775808 ≤ p) (h3 : p ≤ 9223372036854775807) (hq : (rOk p && qok (n * (1000000000 + p)) 1000000000) = true) :
    Calls Try.prog 32 #[.int .i64 n, .int .i64 p] w fun e w' => e = .returned (.tuple #[.int .i64 (flo (n * (1000000000 + p)) 1000000000), .bool true]) ∧ ∃ k, w' = w.drewN k :=
  (scale_any n p w h0 h1 h2 h3).mono fun _ _ h => by rw [hq] at h; exact h
theorem unscale_yes (n p : Int) (w : World) (h0 : -9223372036854775808 ≤ n) (h1 : n ≤ 9223372036854775807) (h2 : -9223372036854775808 ≤ p) (h3 : p ≤ 9223372036854775807) (hq : (rOk p && qok (n * 1000000000) (1000000000 + p)) = true) :
    Calls Try.prog 34 #[.int .i64 n, .int .i64 p] w fun e w' => e = .returned (.tuple #[.int .i64 (flo (n * 1000000000) (1000000000 + p)), .bool true]) ∧ ∃ k, w' = w.drewN k :=
  (unscale_any n p w h0 h1 h2 h3).mono fun _ _ h => by rw [hq] at h; exact h
theorem scale_no (n p : Int) (w : World) (h0 : -9223372036854775808 ≤ n) (h1 : n ≤ 9223372036854775807) (h2 : -9223372036854775808 ≤ p) (h3 : p ≤ 9223372036854775807) (hq : rOk p = false) :
    Calls Try.prog 32 #[.int .i64 n, .int .i64 p] w fun e w' => e = .returned (.tuple #[.int .i64 0, .bool false]) ∧ ∃ k, w' = w.drewN k :=
  (scale_any n p w h0 h1 h2 h3).mono fun _ _ h => by rw [hq] at h; exact h
theorem unscale_no (n p : Int) (w : World) (h0 : -9223372036854775808 ≤ n) (h1 : n ≤ 9223372036854775807) (h2 : -9223372036854775808 ≤ p) (h3 : p ≤ 9223372036854775807) (hq : rOk p = false) :
    Calls Try.prog 34 #[.int .i64 n, .int .i64 p] w fun e w' => e = .returned (.tuple #[.int .i64 0, .bool false]) ∧ ∃ k, w' = w.drewN k :=
  (unscale_any n p w h0 h1 h2 h3).mono fun _ _ h => by rw [hq] at h; exact h

set_option maxRecDepth 100000 in
theorem fixedReturns_walk (a b : Int) (w : World) (h0 : -9223372036854775808 ≤ a) (h1 : a ≤ 9223372036854775807) (h2 : -9223372036854775808 ≤ b) (h3 : b ≤ 9223372036854775807) :
    Calls Try.prog 9 #[.int .i64 a, .int .i64 b] w fun e w' => e = .returned (.bool true) ∧ ∃ n, w' = w.drewN n := by
  by_cases c1 : a < -1152921504606846976
  · go_enter Try.func9, Try.ntmps9
    go_wp2_with fail
    refine (scale_no 1 500001 _ (by decide) (by decide) (by decide) (by decide) (by decide)).mono ?_
    rintro e w' ⟨rfl, n2, rfl⟩
    go_wp2_with fail
    refine (unscale_no 1 (-500001) _ (by decide) (by decide) (by decide) (by decide) (by decide)).mono ?_
    rintro e w' ⟨rfl, n3, rfl⟩
    go_wp2_with fail
    refine (awake1_any _).mono ?_
    rintro e w' ⟨rfl, n1, rfl⟩
    go_wp2_with fail
    go_ret
    exact ⟨rfl, _, rfl⟩
  · by_cases c2 : 1152921504606846976 < a
    · go_enter Try.func9, Try.ntmps9
      go_wp2_with fail
      refine (scale_no 1 500001 _ (by decide) (by decide) (by decide) (by decide) (by decide)).mono ?_
      rintro e w' ⟨rfl, n2, rfl⟩
      go_wp2_with fail
      refine (unscale_no 1 (-500001) _ (by decide) (by decide) (by decide) (by decide) (by decide)).mono ?_
      rintro e w' ⟨rfl, n3, rfl⟩
      go_wp2_with fail
      refine (awake1_any _).mono ?_
      rintro e w' ⟨rfl, n1, rfl⟩
      go_wp2_with fail
      go_ret
      exact ⟨rfl, _, rfl⟩
    · by_cases c3 : b < -500000
      · go_enter Try.func9, Try.ntmps9
        go_wp2_with fail
        refine (scale_no 1 500001 _ (by decide) (by decide) (by decide) (by decide) (by decide)).mono ?_
        rintro e w' ⟨rfl, n2, rfl⟩
        go_wp2_with fail
        refine (unscale_no 1 (-500001) _ (by decide) (by decide) (by decide) (by decide) (by decide)).mono ?_
        rintro e w' ⟨rfl, n3, rfl⟩
        go_wp2_with fail
        refine (awake1_any _).mono ?_
        rintro e w' ⟨rfl, n1, rfl⟩
        go_wp2_with fail
        go_ret
        exact ⟨rfl, _, rfl⟩
      · by_cases c4 : 500000 < b
        · go_enter Try.func9, Try.ntmps9
          go_wp2_with fail
          refine (scale_no 1 500001 _ (by decide) (by decide) (by decide) (by decide) (by decide)).mono ?_
          rintro e w' ⟨rfl, n2, rfl⟩
          go_wp2_with fail
          refine (unscale_no 1 (-500001) _ (by decide) (by decide) (by decide) (by decide) (by decide)).mono ?_
          rintro e w' ⟨rfl, n3, rfl⟩
          go_wp2_with fail
          refine (awake1_any _).mono ?_
          rintro e w' ⟨rfl, n1, rfl⟩
          go_wp2_with fail
          go_ret
          exact ⟨rfl, _, rfl⟩
        · obtain ⟨S, U, e1, e2, s0, s1, e3, e4, u0, u1, u2, g1, g2⟩ := returns (n := a) (p := b) (by omega) (by omega) (by omega) (by omega)
          have HS := Lib.hid e1
          have HU := Lib.hid e3
          have HQ1 := Lib.hid e2
          have HQ2 := Lib.hid e4
          clear e1 e2 e3 e4
          have d1 : decide (a < U) = false := by simp; omega
          have d2 : decide (U < a - 2) = false := by simp; omega
          have d3 : ¬ a < U := by omega
          have d4 : ¬ U < a - 2 := by omega
          by_cases k1 : a < 0
          · clear g1 g2
            go_enter Try.func9, Try.ntmps9
            go_wp2_with fail
            refine (scale_yes a b _ h0 h1 h2 h3 HQ1.out).mono ?_
            rintro e w' ⟨rfl, n4, rfl⟩
            rw [HS.out]
            go_wp2_with fail
            refine (unscale_yes S b _ s0 s1 h2 h3 HQ2.out).mono ?_
            rintro e w' ⟨rfl, n5, rfl⟩
            rw [HU.out]
            go_wp2_with fail
            all_goals
              refine (awake1_any _).mono ?_
              rintro e w' ⟨rfl, n1, rfl⟩
              go_wp2_with fail
              go_ret
              exact ⟨rfl, _, rfl⟩
          · by_cases k2 : b < 0
            · have g3 := g2 (by omega) (by omega)
              have k3 : ¬ 0 < b := by omega
              clear g1 g2
              go_enter Try.func9, Try.ntmps9
              go_wp2_with fail
              refine (scale_yes a b _ h0 h1 h2 h3 HQ1.out).mono ?_
              rintro e w' ⟨rfl, n4, rfl⟩
              rw [HS.out]
              go_wp2_with fail
              refine (unscale_yes S b _ s0 s1 h2 h3 HQ2.out).mono ?_
              rintro e w' ⟨rfl, n5, rfl⟩
              rw [HU.out]
              go_wp2_with fail
              all_goals
                refine (awake1_any _).mono ?_
                rintro e w' ⟨rfl, n1, rfl⟩
                go_wp2_with fail
                go_ret
                exact ⟨rfl, _, rfl⟩
            · have g4 := g1 (by omega) (by omega)
              by_cases k3 : 0 < b
              · clear g1 g2
                go_enter Try.func9, Try.ntmps9
                go_wp2_with fail
                refine (scale_yes a b _ h0 h1 h2 h3 HQ1.out).mono ?_
                rintro e w' ⟨rfl, n4, rfl⟩
                rw [HS.out]
                go_wp2_with fail
                refine (unscale_yes S b _ s0 s1 h2 h3 HQ2.out).mono ?_
                rintro e w' ⟨rfl, n5, rfl⟩
                rw [HU.out]
                go_wp2_with fail
                all_goals
                  refine (awake1_any _).mono ?_
                  rintro e w' ⟨rfl, n1, rfl⟩
                  go_wp2_with fail
                  go_ret
                  exact ⟨rfl, _, rfl⟩
              · have g3 := g2 (by omega) (by omega)
                clear g1 g2
                go_enter Try.func9, Try.ntmps9
                go_wp2_with fail
                refine (scale_yes a b _ h0 h1 h2 h3 HQ1.out).mono ?_
                rintro e w' ⟨rfl, n4, rfl⟩
                rw [HS.out]
                go_wp2_with fail
                refine (unscale_yes S b _ s0 s1 h2 h3 HQ2.out).mono ?_
                rintro e w' ⟨rfl, n5, rfl⟩
                rw [HU.out]
                go_wp2_with fail
                all_goals
                  refine (awake1_any _).mono ?_
                  rintro e w' ⟨rfl, n1, rfl⟩
                  go_wp2_with fail
                  go_ret
                  exact ⟨rfl, _, rfl⟩

end Go.Proofs.Ytkcllhcinbcgiaa
