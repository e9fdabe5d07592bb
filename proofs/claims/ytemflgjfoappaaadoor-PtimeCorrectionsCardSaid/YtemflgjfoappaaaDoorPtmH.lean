/- The walk of PtimeCorrections. -/
import Derived.Test.YtemflgjfoappaaaDoorPtmF
namespace Go.Proofs.YtemflgjfoappaaaDoor
open Go.RowKit Fx Pt Wi

theorem ptimeCorrections_walk (a b : Int) (w : World) (a0 : -9223372036854775808 ≤ a) (a1 : a ≤ 9223372036854775807) (b0 : -9223372036854775808 ≤ b) (b1 : b ≤ 9223372036854775807) :
    Calls Tryd.prog 4 #[.int .i64 a, .int .i64 b] w fun e w' => e = .returned (.bool true) ∧ Below w.heap.size w w' := by
  rcases hc : okI (a * 65536) with _ | _
  · have HC := Lib.hid hc
    clear hc
    rcases hs : okI (a + b) with _ | _
    · have HS := Lib.hid hs
      obtain ⟨z, hz⟩ : ∃ z, satV a b = z := ⟨_, rfl⟩
      have HZ := Lib.hid hz
      clear hz
      clear hs
      go_enter Tryd.func4, Tryd.ntmps4
      go_wp2_with fail
      refine (corr_no a _ a0 a1 HC.out).mono ?_
      rintro e w' ⟨rfl, k, rfl⟩
      go_wp2_with fail
      refine (rcorr_no a _ a0 a1 HC.out).mono ?_
      rintro e w' ⟨rfl, rfl⟩
      go_wp2_with fail
      refine (addcorr_no a b _ a0 a1 b0 b1 HS.out).mono ?_
      rintro e w' ⟨rfl, rfl⟩
      rw [HZ.out]
      go_wp2_with fail
      refine (raddcorr_no a b _ a0 a1 b0 b1 HS.out).mono ?_
      rintro e w' ⟨rfl, rfl⟩
      rw [HZ.out]
      go_wp2_with fail
      refine (pnanos_any a _ a0 a1).mono ?_
      rintro e w' ⟨rfl, rfl⟩
      go_wp2_with fail
      refine (prnanos_any a _ a0 a1).mono ?_
      rintro e w' ⟨rfl, rfl⟩
      go_wp2_with fail
      refine (awake4_any _).mono ?_
      rintro e w1 ⟨rfl, hw1⟩
      go_wp2_with fail
      go_ret
      exact ⟨rfl, (below_drewN (Below.refl _ _) _).trans hw1⟩
    · have HS := Lib.hid hs
      obtain ⟨z, hz⟩ : ∃ z, a + b = z := ⟨_, rfl⟩
      have HZ := Lib.hid hz
      clear hz
      clear hs
      go_enter Tryd.func4, Tryd.ntmps4
      go_wp2_with fail
      refine (corr_no a _ a0 a1 HC.out).mono ?_
      rintro e w' ⟨rfl, k, rfl⟩
      go_wp2_with fail
      refine (rcorr_no a _ a0 a1 HC.out).mono ?_
      rintro e w' ⟨rfl, rfl⟩
      go_wp2_with fail
      refine (addcorr_yes a b _ a0 a1 b0 b1 HS.out).mono ?_
      rintro e w' ⟨rfl, rfl⟩
      rw [HZ.out]
      go_wp2_with fail
      refine (raddcorr_yes a b _ a0 a1 b0 b1 HS.out).mono ?_
      rintro e w' ⟨rfl, rfl⟩
      rw [HZ.out]
      go_wp2_with fail
      refine (pnanos_any a _ a0 a1).mono ?_
      rintro e w' ⟨rfl, rfl⟩
      go_wp2_with fail
      refine (prnanos_any a _ a0 a1).mono ?_
      rintro e w' ⟨rfl, rfl⟩
      go_wp2_with fail
      refine (awake4_any _).mono ?_
      rintro e w1 ⟨rfl, hw1⟩
      go_wp2_with fail
      go_ret
      exact ⟨rfl, (below_drewN (Below.refl _ _) _).trans hw1⟩
  · have HC := Lib.hid hc
    obtain ⟨y, hy⟩ : ∃ y, a * 65536 = y := ⟨_, rfl⟩
    have HY := Lib.hid hy
    clear hy
    clear hc
    rcases hs : okI (a + b) with _ | _
    · have HS := Lib.hid hs
      obtain ⟨z, hz⟩ : ∃ z, satV a b = z := ⟨_, rfl⟩
      have HZ := Lib.hid hz
      clear hz
      clear hs
      go_enter Tryd.func4, Tryd.ntmps4
      go_wp2_with fail
      refine (corr_yes a _ a0 a1 HC.out).mono ?_
      rintro e w' ⟨rfl, k, rfl⟩
      rw [HY.out]
      go_wp2_with fail
      refine (rcorr_yes a _ a0 a1 HC.out).mono ?_
      rintro e w' ⟨rfl, rfl⟩
      rw [HY.out]
      go_wp2_with fail
      refine (addcorr_no a b _ a0 a1 b0 b1 HS.out).mono ?_
      rintro e w' ⟨rfl, rfl⟩
      rw [HZ.out]
      go_wp2_with fail
      refine (raddcorr_no a b _ a0 a1 b0 b1 HS.out).mono ?_
      rintro e w' ⟨rfl, rfl⟩
      rw [HZ.out]
      go_wp2_with fail
      refine (pnanos_any a _ a0 a1).mono ?_
      rintro e w' ⟨rfl, rfl⟩
      go_wp2_with fail
      refine (prnanos_any a _ a0 a1).mono ?_
      rintro e w' ⟨rfl, rfl⟩
      go_wp2_with fail
      refine (awake4_any _).mono ?_
      rintro e w1 ⟨rfl, hw1⟩
      go_wp2_with fail
      go_ret
      exact ⟨rfl, (below_drewN (Below.refl _ _) _).trans hw1⟩
    · have HS := Lib.hid hs
      obtain ⟨z, hz⟩ : ∃ z, a + b = z := ⟨_, rfl⟩
      have HZ := Lib.hid hz
      clear hz
      clear hs
      go_enter Tryd.func4, Tryd.ntmps4
      go_wp2_with fail
      refine (corr_yes a _ a0 a1 HC.out).mono ?_
      rintro e w' ⟨rfl, k, rfl⟩
      rw [HY.out]
      go_wp2_with fail
      refine (rcorr_yes a _ a0 a1 HC.out).mono ?_
      rintro e w' ⟨rfl, rfl⟩
      rw [HY.out]
      go_wp2_with fail
      refine (addcorr_yes a b _ a0 a1 b0 b1 HS.out).mono ?_
      rintro e w' ⟨rfl, rfl⟩
      rw [HZ.out]
      go_wp2_with fail
      refine (raddcorr_yes a b _ a0 a1 b0 b1 HS.out).mono ?_
      rintro e w' ⟨rfl, rfl⟩
      rw [HZ.out]
      go_wp2_with fail
      refine (pnanos_any a _ a0 a1).mono ?_
      rintro e w' ⟨rfl, rfl⟩
      go_wp2_with fail
      refine (prnanos_any a _ a0 a1).mono ?_
      rintro e w' ⟨rfl, rfl⟩
      go_wp2_with fail
      refine (awake4_any _).mono ?_
      rintro e w1 ⟨rfl, hw1⟩
      go_wp2_with fail
      go_ret
      exact ⟨rfl, (below_drewN (Below.refl _ _) _).trans hw1⟩
end Go.Proofs.YtemflgjfoappaaaDoor
