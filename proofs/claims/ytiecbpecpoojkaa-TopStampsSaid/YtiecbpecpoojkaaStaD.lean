/- Contracts of layer 3: the short form, Time. -/
import Derived.Test.YtiecbpecpoojkaaStaC
namespace Go.Proofs.Ytiecbpecpoojkaa
open Go.RowKit Fx St

theorem time_arg (s p : Int) (w : World) (h : p < -8000000000000000000 ∨ 8000000000000000000 < p) :
    Calls Try.prog 7 #[.int .u64 s, .int .i64 p] w fun e w' => e = .returned (.tuple #[.int .i64 0, .int .i64 2]) ∧ ∃ n, w' = w.drewN n := by
  have HD : Hid (decide (-8000000000000000000 ≤ p ∧ p ≤ 8000000000000000000) = false) := Lib.hid (decide_eq_false (by omega))
  clear h
  go_enter Try.func7, Try.ntmps7
  go_wp2_with fail
  refine (isTime_any p _).mono ?_
  rintro e w' ⟨rfl, rfl⟩
  rw [HD.out]
  go_wp2_with fail
  go_ret2
  exact ⟨rfl, 0, rfl⟩

theorem time_ok (s p : Int) (w : World) (h0 : -8000000000000000000 ≤ p) (h1 : p ≤ 8000000000000000000) :
    Calls Try.prog 7 #[.int .u64 s, .int .i64 p] w fun e w' => e = .returned (.tuple #[.int .i64 (timV s p), .int .i64 (timE s p)]) ∧ ∃ n, w' = w.drewN n := by
  have HD : Hid (decide (-8000000000000000000 ≤ p ∧ p ≤ 8000000000000000000) = true) := Lib.hid (decide_eq_true ⟨h0, h1⟩)
  obtain ⟨d, hd⟩ : ∃ d, dif s (ofI p) = d := ⟨_, rfl⟩
  have d0 : -9223372036854775808 ≤ d := by rw [← hd]; exact dif_lo _ _
  have d1 : d ≤ 9223372036854775807 := by rw [← hd]; exact dif_hi _ _
  obtain ⟨u, hu⟩ : ∃ u, p % 1000000000 * 4294967296 / 1000000000 = u := ⟨_, rfl⟩
  obtain ⟨q, hq⟩ : ∃ q, p / 1000000000 = q := ⟨_, rfl⟩
  have u0 : 0 ≤ u := by omega
  have u1 : u < 4294967296 := by omega
  have q0 : -8000000000 ≤ q := by omega
  have q1 : q ≤ 8000000000 := by omega
  have ht : tim s p = (q + d / 4294967296) * 1000000000 + ((u + d % 4294967296) * 1000000000 + 4294967295) / 4294967296 := by
    unfold tim; rw [hd, uni_split, hu, hq, ← cei_split2]; congr 1; omega
  have hE : timE s p = if tim s p < -8000000000000000000 ∨ 8000000000000000000 < tim s p then 3 else 0 := if_neg (by omega)
  obtain ⟨t, hT⟩ : ∃ t, tim s p = t := ⟨_, rfl⟩
  have hm := i64_mask32 d
  have Hd := Lib.hid hd
  have Hu := Lib.hid hu
  have Hq := Lib.hid hq
  clear hd hu hq
  by_cases hj : (q + d / 4294967296) * 1000000000 < -9223372036854775808 ∨ 9223372036854775807 < (q + d / 4294967296) * 1000000000 ∨ 9223372036854775807 < t
  · have HE : Hid (timE s p = 3) := Lib.hid (hE.trans (if_pos (by omega)))
    have HV : Hid (timV s p = 0) := Lib.hid (by unfold timV; rw [HE.out]; rfl)
    have HJ := Lib.hid hj
    have HT := Lib.hid (hT.symm.trans ht)
    clear hE ht hT hj
    go_enter Try.func7, Try.ntmps7
    go_wp2_with fail
    refine (isTime_any p _).mono ?_
    rintro e w' ⟨rfl, rfl⟩
    rw [HD.out]
    go_wp2_with fail
    refine (split_any p _ (by omega) (by omega)).mono ?_
    rintro e w' ⟨rfl, rfl⟩
    rw [Hu.out, Hq.out]
    go_wp2_with fail
    refine (of_any p _ (by omega) (by omega)).mono ?_
    rintro e w' ⟨rfl, rfl⟩
    go_wp2_with fail
    refine (diff_any s (ofI p) _).mono ?_
    rintro e w' ⟨rfl, rfl⟩
    rw [Hd.out]
    go_wp2_with fail
    refine (join_no (q + d / 4294967296) (u + d % 4294967296) _ (by omega) (by omega) (by omega) (by omega) (by rw [← HT.out]; exact HJ.out)).mono ?_
    rintro e w' ⟨rfl, n, rfl⟩
    go_wp2_with fail
    go_ret2
    exact ⟨ret22 HV.out.symm HE.out.symm, n, rfl⟩
  · by_cases hi : t < -8000000000000000000 ∨ 8000000000000000000 < t
    · have HE : Hid (timE s p = 3) := Lib.hid (hE.trans (if_pos (by omega)))
      have HV : Hid (timV s p = 0) := Lib.hid (by unfold timV; rw [HE.out]; rfl)
      have HI : Hid (decide (-8000000000000000000 ≤ t ∧ t ≤ 8000000000000000000) = false) := Lib.hid (decide_eq_false (by omega))
      have HT := Lib.hid (hT.symm.trans ht)
      have j0 : -9223372036854775808 ≤ (q + d / 4294967296) * 1000000000 := by omega
      have j1 : (q + d / 4294967296) * 1000000000 ≤ 9223372036854775807 := by omega
      have j2 : t ≤ 9223372036854775807 := by omega
      clear hE ht hT hj hi
      go_enter Try.func7, Try.ntmps7
      go_wp2_with fail
      refine (isTime_any p _).mono ?_
      rintro e w' ⟨rfl, rfl⟩
      rw [HD.out]
      go_wp2_with fail
      refine (split_any p _ (by omega) (by omega)).mono ?_
      rintro e w' ⟨rfl, rfl⟩
      rw [Hu.out, Hq.out]
      go_wp2_with fail
      refine (of_any p _ (by omega) (by omega)).mono ?_
      rintro e w' ⟨rfl, rfl⟩
      go_wp2_with fail
      refine (diff_any s (ofI p) _).mono ?_
      rintro e w' ⟨rfl, rfl⟩
      rw [Hd.out]
      go_wp2_with fail
      refine (join_yes (q + d / 4294967296) (u + d % 4294967296) t _ (by omega) (by omega) (by omega) (by omega) j0 j1 HT.out j2).mono ?_
      rintro e w' ⟨rfl, n, rfl⟩
      go_wp2_with fail
      refine (isTime_any t _).mono ?_
      rintro e w' ⟨rfl, rfl⟩
      rw [HI.out]
      go_wp2_with fail
      go_ret2
      exact ⟨ret22 HV.out.symm HE.out.symm, n, rfl⟩
    · have HE : Hid (timE s p = 0) := Lib.hid (hE.trans (if_neg (by omega)))
      have HV : Hid (timV s p = t) := Lib.hid (by unfold timV; rw [HE.out]; exact hT)
      have HI : Hid (decide (-8000000000000000000 ≤ t ∧ t ≤ 8000000000000000000) = true) := Lib.hid (decide_eq_true (by omega))
      have HT := Lib.hid (hT.symm.trans ht)
      have j0 : -9223372036854775808 ≤ (q + d / 4294967296) * 1000000000 := by omega
      have j1 : (q + d / 4294967296) * 1000000000 ≤ 9223372036854775807 := by omega
      have j2 : t ≤ 9223372036854775807 := by omega
      clear hE ht hT hj hi
      go_enter Try.func7, Try.ntmps7
      go_wp2_with fail
      refine (isTime_any p _).mono ?_
      rintro e w' ⟨rfl, rfl⟩
      rw [HD.out]
      go_wp2_with fail
      refine (split_any p _ (by omega) (by omega)).mono ?_
      rintro e w' ⟨rfl, rfl⟩
      rw [Hu.out, Hq.out]
      go_wp2_with fail
      refine (of_any p _ (by omega) (by omega)).mono ?_
      rintro e w' ⟨rfl, rfl⟩
      go_wp2_with fail
      refine (diff_any s (ofI p) _).mono ?_
      rintro e w' ⟨rfl, rfl⟩
      rw [Hd.out]
      go_wp2_with fail
      refine (join_yes (q + d / 4294967296) (u + d % 4294967296) t _ (by omega) (by omega) (by omega) (by omega) j0 j1 HT.out j2).mono ?_
      rintro e w' ⟨rfl, n, rfl⟩
      go_wp2_with fail
      refine (isTime_any t _).mono ?_
      rintro e w' ⟨rfl, rfl⟩
      rw [HI.out]
      go_wp2_with fail
      go_ret2
      exact ⟨ret22 HV.out.symm HE.out.symm, n, rfl⟩

theorem time_any (s p : Int) (w : World) :
    Calls Try.prog 7 #[.int .u64 s, .int .i64 p] w fun e w' => e = .returned (.tuple #[.int .i64 (timV s p), .int .i64 (timE s p)]) ∧ ∃ n, w' = w.drewN n := by
  by_cases h : p < -8000000000000000000 ∨ 8000000000000000000 < p
  · have hE : timE s p = 2 := if_pos h
    have hV : timV s p = 0 := by unfold timV; rw [hE]; rfl
    rw [hE, hV]
    exact time_arg s p w h
  · exact time_ok s p w (by omega) (by omega)
end Go.Proofs.Ytiecbpecpoojkaa
