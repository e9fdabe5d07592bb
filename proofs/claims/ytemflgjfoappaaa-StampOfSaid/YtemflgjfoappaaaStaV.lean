/- The chapter's examples of layer 3. -/
import Derived.Test.YtemflgjfoappaaaStaQ
import Derived.WalkSmall
namespace Go.Proofs.Ytemflgjfoappaaa
open Go.RowKit Fx St

theorem St.ex_txt : strOfNums (txL 6442450944) = ⟨#[48, 48, 48, 48, 48, 48, 48, 49, 46, 56, 48, 48, 48, 48, 48, 48, 48]⟩ := by decide +kernel
theorem St.ex_bys : bys ⟨#[48, 48, 48, 48, 48, 48, 48, 49, 46, 56, 48, 48, 48, 48, 48, 48, 48]⟩ = txL 6442450944 := by decide +kernel

set_option maxRecDepth 100000 in
theorem awake3_any (w : World) :
    Calls Try.prog 16 #[] w fun e w' => e = .returned (.bool true) ∧ Below w.heap.size w w' := by
  have hp : Hid (pV (bys ⟨#[48, 48, 48, 48, 48, 48, 48, 49, 46, 56, 48, 48, 48, 48, 48, 48, 48]⟩) = 6442450944 ∧ pE (bys ⟨#[48, 48, 48, 48, 48, 48, 48, 49, 46, 56, 48, 48, 48, 48, 48, 48, 48]⟩) = 0) := Lib.hid (by
    rw [ex_bys]; exact pV_txL (by decide) (by decide))
  go_enter Try.func16, Try.ntmps16
  go_wp2_with fail
  refine (time_any 6442450944 0 _).mono ?_
  rintro e w' ⟨rfl, n1, rfl⟩
  rw [show timV 6442450944 0 = 1500000000 from by decide, show timE 6442450944 0 = 0 from by decide]
  go_wp2_with fail
  refine (time_any 6442450944 4294967296000000000 _).mono ?_
  rintro e w' ⟨rfl, n2, rfl⟩
  rw [show timV 6442450944 4294967296000000000 = 4294967297500000000 from by decide, show timE 6442450944 4294967296000000000 = 0 from by decide]
  go_wp2_with fail
  refine (of_any 1500000000 _ (by decide) (by decide)).mono ?_
  rintro e w' ⟨rfl, rfl⟩
  rw [show ofI 1500000000 = 6442450944 from by decide]
  go_wp2_with fail
  refine (of_any (-1) _ (by decide) (by decide)).mono ?_
  rintro e w' ⟨rfl, rfl⟩
  rw [show ofI (-1) = 18446744073709551611 from by decide]
  go_wp2_with fail
  refine (era_any (-1) _ (by decide) (by decide)).mono ?_
  rintro e w' ⟨rfl, rfl⟩
  rw [show era (-1) = -1 from by decide]
  go_wp2_with fail
  refine (era_any 4294967296000000000 _ (by decide) (by decide)).mono ?_
  rintro e w' ⟨rfl, rfl⟩
  rw [show era 4294967296000000000 = 1 from by decide]
  go_wp2_with fail
  refine (units_yes 1500000000 _ (by decide) (by decide)).mono ?_
  rintro e w' ⟨rfl, n3, rfl⟩
  rw [show uni 1500000000 = 6442450944 from by decide]
  go_wp2_with fail
  refine (short_yes 1000000000 _ (by decide) (by decide) (by decide)).mono ?_
  rintro e w' ⟨rfl, n4, rfl⟩
  rw [show sho 1000000000 = 65536 from by decide]
  go_wp2_with fail
  refine (parse_any _ _ (by decide)).mono ?_
  rintro e w' ⟨rfl, rfl⟩
  rw [hp.out.1, hp.out.2]
  go_wp2_with fail
  refine (nanos_any 1 _ (by decide) (by decide)).mono ?_
  rintro e w' ⟨rfl, n5, rfl⟩
  rw [show cei 1 = 1 from by decide]
  go_wp2_with fail
  refine (nanos_any (-1) _ (by decide) (by decide)).mono ?_
  rintro e w' ⟨rfl, n6, rfl⟩
  rw [show cei (-1) = 0 from by decide]
  go_wp2_with fail
  refine (long_any 1 _ (by decide) (by decide)).mono ?_
  rintro e w' ⟨rfl, rfl⟩
  rw [show lon 1 = 15259 from by decide]
  go_wp2_with fail
  refine (diff_any 1 2 _).mono ?_
  rintro e w' ⟨rfl, rfl⟩
  rw [show dif 1 2 = -1 from by decide]
  go_wp2_with fail
  refine (text_any 6442450944 _ (by decide) (by decide)).mono ?_
  rintro e w1 ⟨rfl, hw1⟩
  rw [ex_txt]
  go_wp2_with fail
  go_ret
  exact ⟨rfl, (below_drewN (Below.refl _ _) _).trans hw1⟩
end Go.Proofs.Ytemflgjfoappaaa
