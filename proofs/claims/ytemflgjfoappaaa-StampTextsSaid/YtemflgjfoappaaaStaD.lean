/- Contracts of layer 3: the short form, Time. -/
import Derived.Test.YtemflgjfoappaaaStaC
namespace Go.Proofs.Ytemflgjfoappaaa
open Go.RowKit Fx St

theorem short_yes (t : Int) (w : World) (h0 : 0 ≤ t) (h1 : t ≤ 9223372036854775807) (h2 : sho t ≤ 4294967295) :
    Calls Try.prog 27 #[.int .i64 t] w fun e w' => e = .returned (.tuple #[.int .u32 (sho t), .int .i64 0]) ∧ ∃ n, w' = w.drewN n := by
  obtain ⟨v, hv⟩ : ∃ v, sho t = v := ⟨_, rfl⟩
  have hd : -t * 65536 / 1000000000 = -v := by rw [← hv]; unfold sho; omega
  have v0 : 0 ≤ v := by rw [← hv]; unfold sho; omega
  rw [hv] at h2 ⊢
  have HV := Lib.hid hv
  have HD : Hid (flo (-t * 65536) 1000000000 = -v) := Lib.hid (by rw [flo_pos (by decide), hd])
  have HQ := Lib.hid (qok_pos (x := -t * 65536) (c := 1000000000) (by decide) (by omega) (by omega))
  clear hd hv
  go_enter Try.func27, Try.ntmps27
  go_wp2_with fail
  refine (muldiv_yes (d := -v) (-t) 65536 1000000000 _ (by omega) (by omega) (by decide) (by decide) (by decide) (by decide) HQ.out HD.out).mono ?_
  rintro e w' ⟨rfl, n, rfl⟩
  go_wp2_with fail
  go_ret2
  exact ⟨ret22 (by omega) rfl, n, rfl⟩
theorem short_no (t : Int) (w : World) (h0 : -9223372036854775808 ≤ t) (h1 : t ≤ 9223372036854775807) (h2 : t < 0 ∨ 4294967295 < sho t) :
    Calls Try.prog 27 #[.int .i64 t] w fun e w' => e = .returned (.tuple #[.int .u32 0, .int .i64 3]) ∧ ∃ n, w' = w.drewN n := by
  by_cases ht : t < 0
  · clear h2
    go_enter Try.func27, Try.ntmps27
    go_wp2_with fail
    go_ret2
    exact ⟨rfl, 0, rfl⟩
  · obtain ⟨v, hv⟩ : ∃ v, sho t = v := ⟨_, rfl⟩
    have hd : -t * 65536 / 1000000000 = -v := by rw [← hv]; unfold sho; omega
    have v0 : v ≤ 604462909807315 := by rw [← hv]; unfold sho; omega
    have v1 : 4294967295 < v := by rw [← hv]; omega
    have HD : Hid (flo (-t * 65536) 1000000000 = -v) := Lib.hid (by rw [flo_pos (by decide), hd])
    have HQ := Lib.hid (qok_pos (x := -t * 65536) (c := 1000000000) (by decide) (by omega) (by omega))
    clear hd hv h2
    go_enter Try.func27, Try.ntmps27
    go_wp2_with fail
    refine (muldiv_yes (d := -v) (-t) 65536 1000000000 _ (by omega) (by omega) (by decide) (by decide) (by decide) (by decide) HQ.out HD.out).mono ?_
    rintro e w' ⟨rfl, n, rfl⟩
    go_wp2_with fail
    go_ret2
    exact ⟨rfl, n, rfl⟩

theorem rshort_yes (t : Int) (w : World) (h0 : 0 ≤ t) (h1 : t ≤ 9223372036854775807) (h2 : sho t ≤ 4294967295) :
    Calls Try.prog 28 #[.int .i64 t] w fun e w' => e = .returned (.tuple #[.int .u32 (sho t), .int .i64 0]) ∧ w = w' := by
  obtain ⟨r, hr⟩ : ∃ r, t % 1000000000 = r := ⟨_, rfl⟩
  obtain ⟨q, hq⟩ : ∃ q, t / 1000000000 = q := ⟨_, rfl⟩
  have hv : sho t = q * 65536 + (r * 65536 + 999999999) / 1000000000 := by unfold sho; omega
  obtain ⟨v, hv'⟩ : ∃ v, q * 65536 + (r * 65536 + 999999999) / 1000000000 = v := ⟨_, rfl⟩
  rw [hv, hv'] at h2
  have r0 : 0 ≤ r := by omega
  have r1 : r < 1000000000 := by omega
  have q0 : 0 ≤ q := by omega
  have q1 : q ≤ 9223372036 := by omega
  have v0 : 0 ≤ v := by omega
  have v1 : ¬ 4294967295 < q * 65536 + (r * 65536 + 999999999) / 1000000000 := by omega
  have Hr := Lib.hid hr
  have Hq := Lib.hid hq
  have Hv := Lib.hid (hv.trans hv')
  have Hv' := Lib.hid hv'
  clear hr hq hv hv'
  go_enter Try.func28, Try.ntmps28
  go_wp2_with fail
  refine (rsplit_any t _ (by omega) (by omega)).mono ?_
  rintro e w' ⟨rfl, rfl⟩
  rw [Hr.out, Hq.out]
  go_wp2_with fail
  go_ret2
  exact ⟨ret22 (by rw [Hv.out]; have := Hv'.out; omega) rfl, rfl⟩
theorem rshort_no (t : Int) (w : World) (h0 : -9223372036854775808 ≤ t) (h1 : t ≤ 9223372036854775807) (h2 : t < 0 ∨ 4294967295 < sho t) :
    Calls Try.prog 28 #[.int .i64 t] w fun e w' => e = .returned (.tuple #[.int .u32 0, .int .i64 3]) ∧ w = w' := by
  by_cases ht : t < 0
  · clear h2
    go_enter Try.func28, Try.ntmps28
    go_wp2_with fail
    go_ret2
    exact ⟨rfl, rfl⟩
  · obtain ⟨r, hr⟩ : ∃ r, t % 1000000000 = r := ⟨_, rfl⟩
    obtain ⟨q, hq⟩ : ∃ q, t / 1000000000 = q := ⟨_, rfl⟩
    have hv : sho t = q * 65536 + (r * 65536 + 999999999) / 1000000000 := by unfold sho; omega
    have r0 : 0 ≤ r := by omega
    have r1 : r < 1000000000 := by omega
    have q0 : 0 ≤ q := by omega
    have q1 : q ≤ 9223372036 := by omega
    have v1 : 4294967295 < q * 65536 + (r * 65536 + 999999999) / 1000000000 := by omega
    have Hr := Lib.hid hr
    have Hq := Lib.hid hq
    clear hr hq hv h2
    go_enter Try.func28, Try.ntmps28
    go_wp2_with fail
    refine (rsplit_any t _ (by omega) (by omega)).mono ?_
    rintro e w' ⟨rfl, rfl⟩
    rw [Hr.out, Hq.out]
    go_wp2_with fail
    go_ret2
    exact ⟨rfl, rfl⟩

theorem long_any (s : Int) (w : World) (h0 : 0 ≤ s) (h1 : s ≤ 4294967295) :
    Calls Try.prog 29 #[.int .u32 s] w fun e w' => e = .returned (.int .i64 (lon s)) ∧ w = w' := by
  have HC : Hid (ceiI (s * 1000000000) 65536 = lon s) := Lib.hid (by rw [ceiI_pos _ _ (by decide)]; rfl)
  have HQ := Lib.hid (qok_pos (x := s * 1000000000) (c := 65536) (by decide) (by omega) (by omega))
  go_enter Try.func29, Try.ntmps29
  go_wp2_with fail
  refine (ceil_yes (s * 1000000000) 65536 _ (by omega) (by omega) (by decide) (by decide) HQ.out).mono ?_
  rintro e w' ⟨rfl, rfl⟩
  rw [HC.out]
  go_wp2_with fail
  go_ret
  exact ⟨rfl, rfl⟩
theorem rlong_any (s : Int) (w : World) (h0 : 0 ≤ s) (h1 : s ≤ 4294967295) :
    Calls Try.prog 30 #[.int .u32 s] w fun e w' => e = .returned (.int .i64 (lon s)) ∧ w = w' := by
  go_enter Try.func30, Try.ntmps30
  go_wp2_with fail
  go_ret
  exact ⟨rfl, rfl⟩

theorem time_arg (s p : Int) (w : World) (h : p < -8000000000000000000 ∨ 8000000000000000000 < p) :
    Calls Try.prog 17 #[.int .u64 s, .int .i64 p] w fun e w' => e = .returned (.tuple #[.int .i64 0, .int .i64 2]) ∧ ∃ n, w' = w.drewN n := by
  have HD : Hid (decide (-8000000000000000000 ≤ p ∧ p ≤ 8000000000000000000) = false) := Lib.hid (decide_eq_false (by omega))
  clear h
  go_enter Try.func17, Try.ntmps17
  go_wp2_with fail
  refine (isTime_any p _).mono ?_
  rintro e w' ⟨rfl, rfl⟩
  rw [HD.out]
  go_wp2_with fail
  go_ret2
  exact ⟨rfl, 0, rfl⟩

theorem time_ok (s p : Int) (w : World) (h0 : -8000000000000000000 ≤ p) (h1 : p ≤ 8000000000000000000) :
    Calls Try.prog 17 #[.int .u64 s, .int .i64 p] w fun e w' => e = .returned (.tuple #[.int .i64 (timV s p), .int .i64 (timE s p)]) ∧ ∃ n, w' = w.drewN n := by
  have HD : Hid (decide (-8000000000000000000 ≤ p ∧ p ≤ 8000000000000000000) = true) := Lib.hid (decide_eq_true ⟨h0, h1⟩)
  obtain ⟨d, hd⟩ : ∃ d, dif s (ofI p) = d := ⟨_, rfl⟩
  have d0 : -9223372036854775808 ≤ d := by rw [← hd]; exact dif_lo _ _
  have d1 : d ≤ 9223372036854775807 := by rw [← hd]; exact dif_hi _ _
  obtain ⟨u, hu⟩ : ∃ u, p % 1000000000 * 4294967296 / 1000000000 = u := ⟨_, rfl⟩
  obtain ⟨q, hq⟩ : ∃ q, p / 1000000000 = q := ⟨_, rfl⟩
  have u0 : 0 ≤ u := by omega
  have u1 : u < 4294967296 := by omega
  have q0 : -8000000000 ≤ q := by omega
  have q1 : q ≤ 8000000000 := by omega
  have ht : tim s p = (q + d / 4294967296) * 1000000000 + ((u + d % 4294967296) * 1000000000 + 4294967295) / 4294967296 := by
    unfold tim; rw [hd, uni_split, hu, hq, ← cei_split2]; congr 1; omega
  have hE : timE s p = if tim s p < -8000000000000000000 ∨ 8000000000000000000 < tim s p then 3 else 0 := if_neg (by omega)
  obtain ⟨t, hT⟩ : ∃ t, tim s p = t := ⟨_, rfl⟩
  have hm := i64_mask32 d
  have Hd := Lib.hid hd
  have Hu := Lib.hid hu
  have Hq := Lib.hid hq
  clear hd hu hq
  by_cases hj : (q + d / 4294967296) * 1000000000 < -9223372036854775808 ∨ 9223372036854775807 < (q + d / 4294967296) * 1000000000 ∨ 9223372036854775807 < t
  · have HE : Hid (timE s p = 3) := Lib.hid (hE.trans (if_pos (by omega)))
    have HV : Hid (timV s p = 0) := Lib.hid (by unfold timV; rw [HE.out]; rfl)
    have HJ := Lib.hid hj
    have HT := Lib.hid (hT.symm.trans ht)
    clear hE ht hT hj
    go_enter Try.func17, Try.ntmps17
    go_wp2_with fail
    refine (isTime_any p _).mono ?_
    rintro e w' ⟨rfl, rfl⟩
    rw [HD.out]
    go_wp2_with fail
    refine (split_any p _ (by omega) (by omega)).mono ?_
    rintro e w' ⟨rfl, rfl⟩
    rw [Hu.out, Hq.out]
    go_wp2_with fail
    refine (of_any p _ (by omega) (by omega)).mono ?_
    rintro e w' ⟨rfl, rfl⟩
    go_wp2_with fail
    refine (diff_any s (ofI p) _).mono ?_
    rintro e w' ⟨rfl, rfl⟩
    rw [Hd.out]
    go_wp2_with fail
    refine (join_no (q + d / 4294967296) (u + d % 4294967296) _ (by omega) (by omega) (by omega) (by omega) (by rw [← HT.out]; exact HJ.out)).mono ?_
    rintro e w' ⟨rfl, n, rfl⟩
    go_wp2_with fail
    go_ret2
    exact ⟨ret22 HV.out.symm HE.out.symm, n, rfl⟩
  · by_cases hi : t < -8000000000000000000 ∨ 8000000000000000000 < t
    · have HE : Hid (timE s p = 3) := Lib.hid (hE.trans (if_pos (by omega)))
      have HV : Hid (timV s p = 0) := Lib.hid (by unfold timV; rw [HE.out]; rfl)
      have HI : Hid (decide (-8000000000000000000 ≤ t ∧ t ≤ 8000000000000000000) = false) := Lib.hid (decide_eq_false (by omega))
      have HT := Lib.hid (hT.symm.trans ht)
      have j0 : -9223372036854775808 ≤ (q + d / 4294967296) * 1000000000 := by omega
      have j1 : (q + d / 4294967296) * 1000000000 ≤ 9223372036854775807 := by omega
      have j2 : t ≤ 9223372036854775807 := by omega
      clear hE ht hT hj hi
      go_enter Try.func17, Try.ntmps17
      go_wp2_with fail
      refine (isTime_any p _).mono ?_
      rintro e w' ⟨rfl, rfl⟩
      rw [HD.out]
      go_wp2_with fail
      refine (split_any p _ (by omega) (by omega)).mono ?_
      rintro e w' ⟨rfl, rfl⟩
      rw [Hu.out, Hq.out]
      go_wp2_with fail
      refine (of_any p _ (by omega) (by omega)).mono ?_
      rintro e w' ⟨rfl, rfl⟩
      go_wp2_with fail
      refine (diff_any s (ofI p) _).mono ?_
      rintro e w' ⟨rfl, rfl⟩
      rw [Hd.out]
      go_wp2_with fail
      refine (join_yes (q + d / 4294967296) (u + d % 4294967296) t _ (by omega) (by omega) (by omega) (by omega) j0 j1 HT.out j2).mono ?_
      rintro e w' ⟨rfl, n, rfl⟩
      go_wp2_with fail
      refine (isTime_any t _).mono ?_
      rintro e w' ⟨rfl, rfl⟩
      rw [HI.out]
      go_wp2_with fail
      go_ret2
      exact ⟨ret22 HV.out.symm HE.out.symm, n, rfl⟩
    · have HE : Hid (timE s p = 0) := Lib.hid (hE.trans (if_neg (by omega)))
      have HV : Hid (timV s p = t) := Lib.hid (by unfold timV; rw [HE.out]; exact hT)
      have HI : Hid (decide (-8000000000000000000 ≤ t ∧ t ≤ 8000000000000000000) = true) := Lib.hid (decide_eq_true (by omega))
      have HT := Lib.hid (hT.symm.trans ht)
      have j0 : -9223372036854775808 ≤ (q + d / 4294967296) * 1000000000 := by omega
      have j1 : (q + d / 4294967296) * 1000000000 ≤ 9223372036854775807 := by omega
      have j2 : t ≤ 9223372036854775807 := by omega
      clear hE ht hT hj hi
      go_enter Try.func17, Try.ntmps17
      go_wp2_with fail
      refine (isTime_any p _).mono ?_
      rintro e w' ⟨rfl, rfl⟩
      rw [HD.out]
      go_wp2_with fail
      refine (split_any p _ (by omega) (by omega)).mono ?_
      rintro e w' ⟨rfl, rfl⟩
      rw [Hu.out, Hq.out]
      go_wp2_with fail
      refine (of_any p _ (by omega) (by omega)).mono ?_
      rintro e w' ⟨rfl, rfl⟩
      go_wp2_with fail
      refine (diff_any s (ofI p) _).mono ?_
      rintro e w' ⟨rfl, rfl⟩
      rw [Hd.out]
      go_wp2_with fail
      refine (join_yes (q + d / 4294967296) (u + d % 4294967296) t _ (by omega) (by omega) (by omega) (by omega) j0 j1 HT.out j2).mono ?_
      rintro e w' ⟨rfl, n, rfl⟩
      go_wp2_with fail
      refine (isTime_any t _).mono ?_
      rintro e w' ⟨rfl, rfl⟩
      rw [HI.out]
      go_wp2_with fail
      go_ret2
      exact ⟨ret22 HV.out.symm HE.out.symm, n, rfl⟩

theorem time_any (s p : Int) (w : World) :
    Calls Try.prog 17 #[.int .u64 s, .int .i64 p] w fun e w' => e = .returned (.tuple #[.int .i64 (timV s p), .int .i64 (timE s p)]) ∧ ∃ n, w' = w.drewN n := by
  by_cases h : p < -8000000000000000000 ∨ 8000000000000000000 < p
  · have hE : timE s p = 2 := if_pos h
    have hV : timV s p = 0 := by unfold timV; rw [hE]; rfl
    rw [hE, hV]
    exact time_arg s p w h
  · exact time_ok s p w (by omega) (by omega)
end Go.Proofs.Ytemflgjfoappaaa
