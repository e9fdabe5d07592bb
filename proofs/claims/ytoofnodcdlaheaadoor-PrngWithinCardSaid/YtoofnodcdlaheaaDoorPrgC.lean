/- Contracts of layer 8: numbers in a range. -/
import Derived.Test.YtoofnodcdlaheaaDoorPrgB
namespace Go.Proofs.YtoofnodcdlaheaaDoor
open Go.RowKit Pr

theorem Pr.rng_bel (s k n : Int) (h : ¬ n < 1) : rngV s k 0 (n - 1) = belV s k n ∧ rngK k 0 (n - 1) = belK k n := by
  unfold rngV rngK belV belK
  rw [if_neg (show ¬ n - 1 < 0 by omega), if_neg (show ¬ n - 1 < 0 by omega), if_neg h, if_neg h]
  exact ⟨by rw [show n - 1 - 0 + 1 = n by omega]; omega, rfl⟩
theorem prange_nil (lo hi : Int) (w : World) :
    Calls Tryd.prog 20 #[.pointer none, .int .i64 lo, .int .i64 hi] w fun e w' => e = .returned (.int .i64 0) ∧ w' = w := by
  go_enter Tryd.func20, Tryd.ntmps20
  go_wp2
  go_ret
  exact ⟨rfl, rfl⟩
theorem pbelow_nil (n : Int) (w : World) (n0 : -9223372036854775808 ≤ n) (n1 : n ≤ 9223372036854775807) :
    Calls Tryd.prog 18 #[.pointer none, .int .i64 n] w fun e w' => e = .returned (.int .i64 0) ∧ w' = w := by
  by_cases c : n < 1
  · go_enter Tryd.func18, Tryd.ntmps18
    go_wp2_with fail
    go_ret
    exact ⟨rfl, rfl⟩
  · go_enter Tryd.func18, Tryd.ntmps18
    go_wp2_with fail
    refine (prange_nil 0 _ _).mono ?_
    rintro e w1 ⟨rfl, rfl⟩
    go_wp2_with fail
    go_ret
    exact ⟨rfl, rfl⟩
theorem pbelow_any (g : Nat) (s k n : Int) (w : World) (ht : RT w) (hs : SB 53 w g s k) (n0 : -9223372036854775808 ≤ n) (n1 : n ≤ 9223372036854775807) :
    Calls Tryd.prog 18 #[.pointer (some ⟨g, 0, none⟩), .int .i64 n] w fun e w' => e = .returned (.int .i64 (belV s k n)) ∧ SB 53 w' g s (belK k n) ∧ w.grownBy w' (some g) := by
  have HS := Lib.hid hs
  have HT := Lib.hid ht
  clear hs ht
  by_cases c : n < 1
  · rw [show belV s k n = 0 from if_pos c, show belK k n = k from if_pos c]
    go_enter Tryd.func18, Tryd.ntmps18
    go_wp2_with fail
    go_ret
    exact ⟨rfl, HS.out, grown_refl _ _⟩
  · have HE := Lib.hid (rng_bel s k n c)
    go_enter Tryd.func18, Tryd.ntmps18
    go_wp2_with fail
    refine (prange_any g s k 0 (n - 1) _ HT.out HS.out (by omega) (by omega) (by omega) (by omega)).mono ?_
    rintro e w1 ⟨rfl, hs1, hg1⟩
    have HS1 := Lib.hid hs1
    have HG1 := Lib.hid hg1
    clear hs1 hg1
    go_wp2_with fail
    go_ret
    exact ⟨ret1 HE.out.1, by rw [← HE.out.2]; exact HS1.out, HG1.out⟩
theorem rrange_nil (lo hi : Int) (w : World) :
    Calls Tryd.prog 21 #[.pointer none, .int .i64 lo, .int .i64 hi] w fun e w' => e = .returned (.int .i64 0) ∧ w' = w := by
  go_enter Tryd.func21, Tryd.ntmps21
  go_wp2
  go_ret
  exact ⟨rfl, rfl⟩
theorem rrange_any (g : Nat) (s k lo hi : Int) (w : World) (hs : SB 59 w g s k) (l0 : -9223372036854775808 ≤ lo) (l1 : lo ≤ 9223372036854775807) (h0 : -9223372036854775808 ≤ hi) (h1 : hi ≤ 9223372036854775807) :
    Calls Tryd.prog 21 #[.pointer (some ⟨g, 0, none⟩), .int .i64 lo, .int .i64 hi] w fun e w' => e = .returned (.int .i64 (rngV s k lo hi)) ∧ SB 59 w' g s (rngK k lo hi) ∧ w.grownBy w' (some g) := by
  have hm := mix_in s k
  have HM := Lib.hid hm
  have HS := Lib.hid hs
  clear hs
  by_cases c : hi < lo
  · rw [show rngV s k lo hi = lo from if_pos c, show rngK k lo hi = k from if_pos c]
    go_enter Tryd.func21, Tryd.ntmps21
    go_wp2_with fail
    go_ret
    exact ⟨rfl, HS.out, grown_refl _ _⟩
  · have HV := Lib.hid (show rngV s k lo hi = lo + mix s k % (hi - lo + 1) from if_neg c)
    have HK := Lib.hid (show rngK k lo hi = nx k from if_neg c)
    by_cases f : hi - lo + 1 = 18446744073709551616
    · have b0 : -9223372036854775808 ≤ lo + mix s k := by omega
      have b1 : lo + mix s k ≤ 9223372036854775807 := by omega
      have HE := Lib.hid (show lo + mix s k = lo + mix s k % (hi - lo + 1) by rw [f, Int.emod_eq_of_lt hm.1 hm.2])
      have hc : (IntKind.u64.wrap (IntKind.u64.wrap (IntKind.u64.wrap hi - IntKind.u64.wrap lo) + 1) == 0) = true := by rw [cnt_w, f]; decide
      have hc' : (IntKind.u64.wrap (IntKind.u64.wrap (IntKind.u64.wrap hi - IntKind.u64.wrap lo) + 1) != 0) = false := by rw [cnt_w, f]; decide
      clear f hm
      go_enter Tryd.func21, Tryd.ntmps21
      go_wp2_with fail
      refine (rnext_any g s k _ HS.out).mono ?_
      rintro e w1 ⟨rfl, hs1, hg1⟩
      have HS1 := Lib.hid hs1
      have HG1 := Lib.hid hg1
      clear hs1 hg1
      go_wp2_with fail
      go_ret
      exact ⟨ret1 (by rw [HV.out, ← HE.out]; exact (IntWalk.i64_left _).symm.trans (u64_i64' b0 b1)), by rw [HK.out]; exact HS1.out, HG1.out⟩
    · have c1 : 0 < hi - lo + 1 := by omega
      have e0 := Int.emod_nonneg (mix s k) (show hi - lo + 1 ≠ 0 by omega)
      have e1 := Int.emod_lt_of_pos (mix s k) c1
      have b0 : -9223372036854775808 ≤ lo + mix s k % (hi - lo + 1) := by omega
      have b1 : lo + mix s k % (hi - lo + 1) ≤ 9223372036854775807 := by omega
      have HC := Lib.hid (show IntKind.u64.wrap (IntKind.u64.wrap (IntKind.u64.wrap hi - IntKind.u64.wrap lo) + 1) = hi - lo + 1 by rw [cnt_w]; omega)
      have hc : (IntKind.u64.wrap (IntKind.u64.wrap (IntKind.u64.wrap hi - IntKind.u64.wrap lo) + 1) == 0) = false := by rw [HC.out]; simp; omega
      have hc' : (IntKind.u64.wrap (IntKind.u64.wrap (IntKind.u64.wrap hi - IntKind.u64.wrap lo) + 1) != 0) = true := by rw [HC.out]; simp; omega
      have hz : ¬ IntKind.u64.wrap (IntKind.u64.wrap (IntKind.u64.wrap hi - IntKind.u64.wrap lo) + 1) = 0 := by rw [HC.out]; omega
      have hcm : (mix s k).tmod (hi - lo + 1) = mix s k % (hi - lo + 1) := Int.tmod_eq_emod_of_nonneg hm.1
      have HCM := Lib.hid hcm
      clear f e0 e1 hm hcm
      go_enter Tryd.func21, Tryd.ntmps21
      go_wp2_with fail
      refine (rnext_any g s k _ HS.out).mono ?_
      rintro e w1 ⟨rfl, hs1, hg1⟩
      have HS1 := Lib.hid hs1
      have HG1 := Lib.hid hg1
      clear hs1 hg1
      go_wp2_with fail
      go_ret
      exact ⟨ret1 (by rw [HV.out, HC.out, HCM.out]; exact (IntWalk.i64_left _).symm.trans (u64_i64' b0 b1)), by rw [HK.out]; exact HS1.out, HG1.out⟩
theorem rbelow_nil (n : Int) (w : World) :
    Calls Tryd.prog 19 #[.pointer none, .int .i64 n] w fun e w' => e = .returned (.int .i64 0) ∧ w' = w := by
  go_enter Tryd.func19, Tryd.ntmps19
  go_wp2
  go_ret
  exact ⟨rfl, rfl⟩
theorem rbelow_any (g : Nat) (s k n : Int) (w : World) (hs : SB 59 w g s k) (n1 : n ≤ 9223372036854775807) :
    Calls Tryd.prog 19 #[.pointer (some ⟨g, 0, none⟩), .int .i64 n] w fun e w' => e = .returned (.int .i64 (belV s k n)) ∧ SB 59 w' g s (belK k n) ∧ w.grownBy w' (some g) := by
  have hm := mix_in s k
  have HS := Lib.hid hs
  clear hs
  by_cases c : n < 1
  · rw [show belV s k n = 0 from if_pos c, show belK k n = k from if_pos c]
    go_enter Tryd.func19, Tryd.ntmps19
    go_wp2_with fail
    go_ret
    exact ⟨rfl, HS.out, grown_refl _ _⟩
  · have HV := Lib.hid (show belV s k n = mix s k % n from if_neg c)
    have HK := Lib.hid (show belK k n = nx k from if_neg c)
    have e0 := Int.emod_nonneg (mix s k) (show n ≠ 0 by omega)
    have e1 := Int.emod_lt_of_pos (mix s k) (show 0 < n by omega)
    have hc : (n == 0) = false := by simp; omega
    go_enter Tryd.func19, Tryd.ntmps19
    go_wp2_with fail
    refine (rnext_any g s k _ HS.out).mono ?_
    rintro e w1 ⟨rfl, hs1, hg1⟩
    have HS1 := Lib.hid hs1
    have HG1 := Lib.hid hg1
    clear hs1 hg1
    go_wp2_with fail
    go_ret
    exact ⟨ret1 (by rw [HV.out]), by rw [HK.out]; exact HS1.out, HG1.out⟩
end Go.Proofs.YtoofnodcdlaheaaDoor
