/- The walk of PtimeSums. -/
import Derived.Test.YtemflgjfoappaabDoorPtmF
namespace Go.Proofs.YtemflgjfoappaabDoor
open Go.RowKit Fx Pt Wi

theorem ptimeSums_walk (a b : Int) (w : World) (a0 : -9223372036854775808 ≤ a) (a1 : a ≤ 9223372036854775807) (b0 : -9223372036854775808 ≤ b) (b1 : b ≤ 9223372036854775807) :
    Calls Tryd.prog 5 #[.int .i64 a, .int .i64 b] w fun e w' => e = .returned (.bool true) ∧ Below w.heap.size w w' := by
  have qa : -140737488355328 ≤ a / 65536 ∧ a / 65536 ≤ 140737488355327 := by omega
  have qb : -140737488355328 ≤ b / 65536 ∧ b / 65536 ≤ 140737488355327 := by omega
  obtain ⟨A, hA⟩ : ∃ x, a / 65536 = x := ⟨_, rfl⟩
  obtain ⟨B, hB⟩ : ∃ x, b / 65536 = x := ⟨_, rfl⟩
  rw [hA] at qa
  rw [hB] at qb
  obtain ⟨qa0, qa1⟩ := qa
  obtain ⟨qb0, qb1⟩ := qb
  have HA := Lib.hid hA
  have HB := Lib.hid hB
  rcases hc : okI (a * 65536) with _ | _
  · have HC := Lib.hid hc
    clear hc
    rcases hs : okI (a + b) with _ | _
    · have HS := Lib.hid hs
      have hh := okI_iff'.1 hs
      clear hs hA hB
      by_cases hl : a + b < -9223372036854775808
      · have HZ : Hid (satV a b = -9223372036854775808) := Lib.hid (if_pos hl)
        clear hl hh
        go_enter Tryd.func5, Tryd.ntmps5
        go_wp2_with fail
        refine (addcorr_no a b _ a0 a1 b0 b1 HS.out).mono ?_
        rintro e w' ⟨rfl, rfl⟩
        rw [HZ.out]
        go_wp2_with fail
        refine (corr_no a _ a0 a1 HC.out).mono ?_
        rintro e w' ⟨rfl, k, rfl⟩
        go_wp2_with fail
        refine (awake4_any _).mono ?_
        rintro e w1 ⟨rfl, hw1⟩
        go_wp2_with fail
        go_ret
        exact ⟨rfl, (below_drewN (Below.refl _ _) _).trans hw1⟩
      · have HZ : Hid (satV a b = 9223372036854775807) := Lib.hid ((if_neg hl).trans (if_pos (by omega)))
        clear hl hh
        go_enter Tryd.func5, Tryd.ntmps5
        go_wp2_with fail
        refine (addcorr_no a b _ a0 a1 b0 b1 HS.out).mono ?_
        rintro e w' ⟨rfl, rfl⟩
        rw [HZ.out]
        go_wp2_with fail
        refine (corr_no a _ a0 a1 HC.out).mono ?_
        rintro e w' ⟨rfl, k, rfl⟩
        go_wp2_with fail
        refine (awake4_any _).mono ?_
        rintro e w1 ⟨rfl, hw1⟩
        go_wp2_with fail
        go_ret
        exact ⟨rfl, (below_drewN (Below.refl _ _) _).trans hw1⟩
    · have HS := Lib.hid hs
      obtain ⟨zb0, zb1⟩ := okI_iff.1 hs
      obtain ⟨z, hz⟩ : ∃ z, a + b = z := ⟨_, rfl⟩
      have hd : z / 65536 - A - B = 0 ∨ z / 65536 - A - B = 1 := by omega
      have qz : -140737488355328 ≤ z / 65536 ∧ z / 65536 ≤ 140737488355327 := by omega
      obtain ⟨Z, hZ⟩ : ∃ x, z / 65536 = x := ⟨_, rfl⟩
      rw [hZ] at hd qz
      rw [hz] at zb0 zb1
      obtain ⟨qz0, qz1⟩ := qz
      have HZ := Lib.hid hz
      have HZZ := Lib.hid hZ
      clear hs hA hB hz hZ
      rcases hd with hd | hd
      · go_enter Tryd.func5, Tryd.ntmps5
        go_wp2_with fail
        refine (addcorr_yes a b _ a0 a1 b0 b1 HS.out).mono ?_
        rintro e w' ⟨rfl, rfl⟩
        rw [HZ.out]
        go_wp2_with fail
        refine (pnanos_any z _ zb0 zb1).mono ?_
        rintro e w' ⟨rfl, rfl⟩
        rw [HZZ.out]
        go_wp2_with fail
        refine (pnanos_any a _ a0 a1).mono ?_
        rintro e w' ⟨rfl, rfl⟩
        rw [HA.out]
        go_wp2_with fail
        refine (pnanos_any b _ b0 b1).mono ?_
        rintro e w' ⟨rfl, rfl⟩
        rw [HB.out]
        go_wp2_with fail
        refine (corr_no a _ a0 a1 HC.out).mono ?_
        rintro e w' ⟨rfl, k, rfl⟩
        go_wp2_with fail
        refine (awake4_any _).mono ?_
        rintro e w1 ⟨rfl, hw1⟩
        go_wp2_with fail
        go_ret
        exact ⟨rfl, (below_drewN (Below.refl _ _) _).trans hw1⟩
      · go_enter Tryd.func5, Tryd.ntmps5
        go_wp2_with fail
        refine (addcorr_yes a b _ a0 a1 b0 b1 HS.out).mono ?_
        rintro e w' ⟨rfl, rfl⟩
        rw [HZ.out]
        go_wp2_with fail
        refine (pnanos_any z _ zb0 zb1).mono ?_
        rintro e w' ⟨rfl, rfl⟩
        rw [HZZ.out]
        go_wp2_with fail
        refine (pnanos_any a _ a0 a1).mono ?_
        rintro e w' ⟨rfl, rfl⟩
        rw [HA.out]
        go_wp2_with fail
        refine (pnanos_any b _ b0 b1).mono ?_
        rintro e w' ⟨rfl, rfl⟩
        rw [HB.out]
        go_wp2_with fail
        refine (corr_no a _ a0 a1 HC.out).mono ?_
        rintro e w' ⟨rfl, k, rfl⟩
        go_wp2_with fail
        refine (awake4_any _).mono ?_
        rintro e w1 ⟨rfl, hw1⟩
        go_wp2_with fail
        go_ret
        exact ⟨rfl, (below_drewN (Below.refl _ _) _).trans hw1⟩
  · have HC := Lib.hid hc
    obtain ⟨yb0, yb1⟩ := okI_iff.1 hc
    obtain ⟨y, hy⟩ : ∃ y, a * 65536 = y := ⟨_, rfl⟩
    have hya : y / 65536 = a := by omega
    rw [hy] at yb0 yb1
    have HYA := Lib.hid hya
    have HY := Lib.hid hy
    clear hy hya
    clear hc
    rcases hs : okI (a + b) with _ | _
    · have HS := Lib.hid hs
      have hh := okI_iff'.1 hs
      clear hs hA hB
      by_cases hl : a + b < -9223372036854775808
      · have HZ : Hid (satV a b = -9223372036854775808) := Lib.hid (if_pos hl)
        clear hl hh
        go_enter Tryd.func5, Tryd.ntmps5
        go_wp2_with fail
        refine (addcorr_no a b _ a0 a1 b0 b1 HS.out).mono ?_
        rintro e w' ⟨rfl, rfl⟩
        rw [HZ.out]
        go_wp2_with fail
        refine (corr_yes a _ a0 a1 HC.out).mono ?_
        rintro e w' ⟨rfl, k, rfl⟩
        rw [HY.out]
        go_wp2_with fail
        refine (pnanos_any y _ yb0 yb1).mono ?_
        rintro e w' ⟨rfl, rfl⟩
        rw [HYA.out]
        go_wp2_with fail
        refine (awake4_any _).mono ?_
        rintro e w1 ⟨rfl, hw1⟩
        go_wp2_with fail
        go_ret
        exact ⟨rfl, (below_drewN (Below.refl _ _) _).trans hw1⟩
      · have HZ : Hid (satV a b = 9223372036854775807) := Lib.hid ((if_neg hl).trans (if_pos (by omega)))
        clear hl hh
        go_enter Tryd.func5, Tryd.ntmps5
        go_wp2_with fail
        refine (addcorr_no a b _ a0 a1 b0 b1 HS.out).mono ?_
        rintro e w' ⟨rfl, rfl⟩
        rw [HZ.out]
        go_wp2_with fail
        refine (corr_yes a _ a0 a1 HC.out).mono ?_
        rintro e w' ⟨rfl, k, rfl⟩
        rw [HY.out]
        go_wp2_with fail
        refine (pnanos_any y _ yb0 yb1).mono ?_
        rintro e w' ⟨rfl, rfl⟩
        rw [HYA.out]
        go_wp2_with fail
        refine (awake4_any _).mono ?_
        rintro e w1 ⟨rfl, hw1⟩
        go_wp2_with fail
        go_ret
        exact ⟨rfl, (below_drewN (Below.refl _ _) _).trans hw1⟩
    · have HS := Lib.hid hs
      obtain ⟨zb0, zb1⟩ := okI_iff.1 hs
      obtain ⟨z, hz⟩ : ∃ z, a + b = z := ⟨_, rfl⟩
      have hd : z / 65536 - A - B = 0 ∨ z / 65536 - A - B = 1 := by omega
      have qz : -140737488355328 ≤ z / 65536 ∧ z / 65536 ≤ 140737488355327 := by omega
      obtain ⟨Z, hZ⟩ : ∃ x, z / 65536 = x := ⟨_, rfl⟩
      rw [hZ] at hd qz
      rw [hz] at zb0 zb1
      obtain ⟨qz0, qz1⟩ := qz
      have HZ := Lib.hid hz
      have HZZ := Lib.hid hZ
      clear hs hA hB hz hZ
      rcases hd with hd | hd
      · go_enter Tryd.func5, Tryd.ntmps5
        go_wp2_with fail
        refine (addcorr_yes a b _ a0 a1 b0 b1 HS.out).mono ?_
        rintro e w' ⟨rfl, rfl⟩
        rw [HZ.out]
        go_wp2_with fail
        refine (pnanos_any z _ zb0 zb1).mono ?_
        rintro e w' ⟨rfl, rfl⟩
        rw [HZZ.out]
        go_wp2_with fail
        refine (pnanos_any a _ a0 a1).mono ?_
        rintro e w' ⟨rfl, rfl⟩
        rw [HA.out]
        go_wp2_with fail
        refine (pnanos_any b _ b0 b1).mono ?_
        rintro e w' ⟨rfl, rfl⟩
        rw [HB.out]
        go_wp2_with fail
        refine (corr_yes a _ a0 a1 HC.out).mono ?_
        rintro e w' ⟨rfl, k, rfl⟩
        rw [HY.out]
        go_wp2_with fail
        refine (pnanos_any y _ yb0 yb1).mono ?_
        rintro e w' ⟨rfl, rfl⟩
        rw [HYA.out]
        go_wp2_with fail
        refine (awake4_any _).mono ?_
        rintro e w1 ⟨rfl, hw1⟩
        go_wp2_with fail
        go_ret
        exact ⟨rfl, (below_drewN (Below.refl _ _) _).trans hw1⟩
      · go_enter Tryd.func5, Tryd.ntmps5
        go_wp2_with fail
        refine (addcorr_yes a b _ a0 a1 b0 b1 HS.out).mono ?_
        rintro e w' ⟨rfl, rfl⟩
        rw [HZ.out]
        go_wp2_with fail
        refine (pnanos_any z _ zb0 zb1).mono ?_
        rintro e w' ⟨rfl, rfl⟩
        rw [HZZ.out]
        go_wp2_with fail
        refine (pnanos_any a _ a0 a1).mono ?_
        rintro e w' ⟨rfl, rfl⟩
        rw [HA.out]
        go_wp2_with fail
        refine (pnanos_any b _ b0 b1).mono ?_
        rintro e w' ⟨rfl, rfl⟩
        rw [HB.out]
        go_wp2_with fail
        refine (corr_yes a _ a0 a1 HC.out).mono ?_
        rintro e w' ⟨rfl, k, rfl⟩
        rw [HY.out]
        go_wp2_with fail
        refine (pnanos_any y _ yb0 yb1).mono ?_
        rintro e w' ⟨rfl, rfl⟩
        rw [HYA.out]
        go_wp2_with fail
        refine (awake4_any _).mono ?_
        rintro e w1 ⟨rfl, hw1⟩
        go_wp2_with fail
        go_ret
        exact ⟨rfl, (below_drewN (Below.refl _ _) _).trans hw1⟩
end Go.Proofs.YtemflgjfoappaabDoor
