/- Contracts of layer 3: the specification's Time. -/
import Derived.Test.YtemflgjfoappaaaStaD
namespace Go.Proofs.Ytemflgjfoappaaa
open Go.RowKit Fx St

theorem rtime_arg (s p : Int) (w : World) (h : p < -8000000000000000000 ∨ 8000000000000000000 < p) :
    Calls Try.prog 18 #[.int .u64 s, .int .i64 p] w fun e w' => e = .returned (.tuple #[.int .i64 0, .int .i64 2]) ∧ w = w' := by
  rcases h with h | h
  · go_enter Try.func18, Try.ntmps18
    go_wp2_with fail
    all_goals (go_ret2; exact ⟨rfl, rfl⟩)
  · have h' : ¬ p < -8000000000000000000 := by omega
    go_enter Try.func18, Try.ntmps18
    go_wp2_with fail
    all_goals (go_ret2; exact ⟨rfl, rfl⟩)

set_option maxHeartbeats 1000000 in
theorem rtime_ok (s p : Int) (w : World) (h0 : -8000000000000000000 ≤ p) (h1 : p ≤ 8000000000000000000) :
    Calls Try.prog 18 #[.int .u64 s, .int .i64 p] w fun e w' => e = .returned (.tuple #[.int .i64 (timV s p), .int .i64 (timE s p)]) ∧ w = w' := by
  have n0 : ¬ p < -8000000000000000000 := by omega
  have n1 : ¬ 8000000000000000000 < p := by omega
  obtain ⟨d, hd⟩ : ∃ d, dif s (ofI p) = d := ⟨_, rfl⟩
  have d0 : -9223372036854775808 ≤ d := by rw [← hd]; exact dif_lo _ _
  have d1 : d ≤ 9223372036854775807 := by rw [← hd]; exact dif_hi _ _
  obtain ⟨r, hr⟩ : ∃ r, p % 1000000000 = r := ⟨_, rfl⟩
  obtain ⟨q, hq⟩ : ∃ q, p / 1000000000 = q := ⟨_, rfl⟩
  have r0 : 0 ≤ r := by omega
  have r1 : r < 1000000000 := by omega
  have q0 : -8000000000 ≤ q := by omega
  have q1 : q ≤ 8000000000 := by omega
  obtain ⟨f, hf⟩ : ∃ f, r * 4294967296 / 1000000000 + d % 4294967296 = f := ⟨_, rfl⟩
  obtain ⟨g, hg⟩ : ∃ g, d / 4294967296 = g := ⟨_, rfl⟩
  have f0 : 0 ≤ f := by omega
  have f1 : f ≤ 8589934590 := by omega
  have g0 : -2147483648 ≤ g := by omega
  have g1 : g ≤ 2147483647 := by omega
  obtain ⟨h, hh⟩ : ∃ h, q + g + f / 4294967296 = h := ⟨_, rfl⟩
  obtain ⟨l, hl⟩ : ∃ l, f % 4294967296 = l := ⟨_, rfl⟩
  obtain ⟨c, hc⟩ : ∃ c, (l * 1000000000 + 4294967295) / 4294967296 = c := ⟨_, rfl⟩
  have l0 : 0 ≤ l := by omega
  have l1 : l ≤ 4294967295 := by omega
  have c0 : 0 ≤ c := by omega
  have c1 : c ≤ 1000000000 := by omega
  have b0 : -10147483650 ≤ h := by omega
  have b1 : h ≤ 10147483650 := by omega
  have ht : tim s p = h * 1000000000 + c := by
    unfold tim; rw [hd, uni_split, hr, hq, ← hc, ← cei_split2]; congr 1; omega
  have hE : timE s p = if tim s p < -8000000000000000000 ∨ 8000000000000000000 < tim s p then 3 else 0 := if_neg (by omega)
  have hm := i64_mask32 d
  have hm' := i64_mask32 f
  have Hd := Lib.hid hd
  have Hr := Lib.hid hr
  have Hq := Lib.hid hq
  have HC := Lib.hid hc
  clear hd hr hq hc
  by_cases k1 : 8000000000 < h
  · have HE : Hid (timE s p = 3) := Lib.hid (hE.trans (if_pos (by omega)))
    have HV : Hid (timV s p = 0) := Lib.hid (by unfold timV; rw [HE.out]; rfl)
    clear hE ht
    go_enter Try.func18, Try.ntmps18
    go_wp2_with fail
    refine (rsplit_any p _ (by omega) (by omega)).mono ?_
    rintro e w' ⟨rfl, rfl⟩
    rw [Hr.out, Hq.out]
    go_wp2_with fail
    refine (rof_any p _ (by omega) (by omega)).mono ?_
    rintro e w' ⟨rfl, rfl⟩
    go_wp2_with fail
    refine (rdiff_any s (ofI p) _).mono ?_
    rintro e w' ⟨rfl, rfl⟩
    rw [Hd.out]
    go_wp2_with fail
    all_goals (go_ret2; exact ⟨ret22 HV.out.symm HE.out.symm, rfl⟩)
  · by_cases k2 : h < -8000000001
    · have HE : Hid (timE s p = 3) := Lib.hid (hE.trans (if_pos (by omega)))
      have HV : Hid (timV s p = 0) := Lib.hid (by unfold timV; rw [HE.out]; rfl)
      clear hE ht
      go_enter Try.func18, Try.ntmps18
      go_wp2_with fail
      refine (rsplit_any p _ (by omega) (by omega)).mono ?_
      rintro e w' ⟨rfl, rfl⟩
      rw [Hr.out, Hq.out]
      go_wp2_with fail
      refine (rof_any p _ (by omega) (by omega)).mono ?_
      rintro e w' ⟨rfl, rfl⟩
      go_wp2_with fail
      refine (rdiff_any s (ofI p) _).mono ?_
      rintro e w' ⟨rfl, rfl⟩
      rw [Hd.out]
      go_wp2_with fail
      all_goals (go_ret2; exact ⟨ret22 HV.out.symm HE.out.symm, rfl⟩)
    · have e1 : decide (8000000000 < h) = false := decide_eq_false k1
      have e2 : decide (h < -8000000001) = false := decide_eq_false k2
      obtain ⟨t, hT⟩ : ∃ t, h * 1000000000 + c = t := ⟨_, rfl⟩
      by_cases k3 : t < -8000000000000000000
      · have HE : Hid (timE s p = 3) := Lib.hid (hE.trans (if_pos (by omega)))
        have HV : Hid (timV s p = 0) := Lib.hid (by unfold timV; rw [HE.out]; rfl)
        clear hE ht
        go_enter Try.func18, Try.ntmps18
        go_wp2_with fail
        refine (rsplit_any p _ (by omega) (by omega)).mono ?_
        rintro e w' ⟨rfl, rfl⟩
        rw [Hr.out, Hq.out]
        go_wp2_with fail
        refine (rof_any p _ (by omega) (by omega)).mono ?_
        rintro e w' ⟨rfl, rfl⟩
        go_wp2_with fail
        refine (rdiff_any s (ofI p) _).mono ?_
        rintro e w' ⟨rfl, rfl⟩
        rw [Hd.out]
        go_wp2_with fail
        refine (above_any l _ (by omega) (by omega)).mono ?_
        rintro e w' ⟨rfl, rfl⟩
        rw [HC.out]
        go_wp2_with fail
        all_goals (go_ret2; exact ⟨ret22 HV.out.symm HE.out.symm, rfl⟩)
      · by_cases k4 : 8000000000000000000 < t
        · have HE : Hid (timE s p = 3) := Lib.hid (hE.trans (if_pos (by omega)))
          have HV : Hid (timV s p = 0) := Lib.hid (by unfold timV; rw [HE.out]; rfl)
          clear hE ht
          go_enter Try.func18, Try.ntmps18
          go_wp2_with fail
          refine (rsplit_any p _ (by omega) (by omega)).mono ?_
          rintro e w' ⟨rfl, rfl⟩
          rw [Hr.out, Hq.out]
          go_wp2_with fail
          refine (rof_any p _ (by omega) (by omega)).mono ?_
          rintro e w' ⟨rfl, rfl⟩
          go_wp2_with fail
          refine (rdiff_any s (ofI p) _).mono ?_
          rintro e w' ⟨rfl, rfl⟩
          rw [Hd.out]
          go_wp2_with fail
          refine (above_any l _ (by omega) (by omega)).mono ?_
          rintro e w' ⟨rfl, rfl⟩
          rw [HC.out]
          go_wp2_with fail
          all_goals (go_ret2; exact ⟨ret22 HV.out.symm HE.out.symm, rfl⟩)
        · have HE : Hid (timE s p = 0) := Lib.hid (hE.trans (if_neg (by omega)))
          have HV : Hid (timV s p = t) := Lib.hid (by unfold timV; rw [HE.out]; exact ht.trans hT)
          have e3 : decide (t < -8000000000000000000) = false := decide_eq_false k3
          have e4 : decide (8000000000000000000 < t) = false := decide_eq_false k4
          clear hE ht
          go_enter Try.func18, Try.ntmps18
          go_wp2_with fail
          refine (rsplit_any p _ (by omega) (by omega)).mono ?_
          rintro e w' ⟨rfl, rfl⟩
          rw [Hr.out, Hq.out]
          go_wp2_with fail
          refine (rof_any p _ (by omega) (by omega)).mono ?_
          rintro e w' ⟨rfl, rfl⟩
          go_wp2_with fail
          refine (rdiff_any s (ofI p) _).mono ?_
          rintro e w' ⟨rfl, rfl⟩
          rw [Hd.out]
          go_wp2_with fail
          refine (above_any l _ (by omega) (by omega)).mono ?_
          rintro e w' ⟨rfl, rfl⟩
          rw [HC.out]
          go_wp2_with fail
          all_goals (go_ret2; exact ⟨ret22 HV.out.symm HE.out.symm, rfl⟩)

theorem rtime_any (s p : Int) (w : World) :
    Calls Try.prog 18 #[.int .u64 s, .int .i64 p] w fun e w' => e = .returned (.tuple #[.int .i64 (timV s p), .int .i64 (timE s p)]) ∧ w = w' := by
  by_cases h : p < -8000000000000000000 ∨ 8000000000000000000 < p
  · have hE : timE s p = 2 := if_pos h
    have hV : timV s p = 0 := by unfold timV; rw [hE]; rfl
    rw [hE, hV]
    exact rtime_arg s p w h
  · exact rtime_ok s p w (by omega) (by omega)
end Go.Proofs.Ytemflgjfoappaaa
