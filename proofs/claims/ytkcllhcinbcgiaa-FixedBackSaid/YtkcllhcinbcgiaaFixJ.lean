/- The chapter's examples of layer 1. -/
import Derived.Test.YtkcllhcinbcgiaaFixI
namespace Go.Proofs.Ytkcllhcinbcgiaa
open Go.RowKit Fx

set_option maxRecDepth 100000 in
theorem awake1_any (w : World) :
    Calls Try.prog 23 #[] w fun e w' => e = .returned (.bool true) ∧ ∃ n, w' = w.drewN n := by
  go_enter Try.func23, Try.ntmps23
  go_wp2_with fail
  refine (floor_any (-7) 2 _ (by decide) (by decide) (by decide) (by decide)).mono ?_
  rintro e w' ⟨rfl, rfl⟩
  rw [show qok (-7) 2 = true from by decide, show flo (-7) 2 = -4 from by decide, sel_true]
  go_wp2_with fail
  refine (ceil_any (-7) 2 _ (by decide) (by decide) (by decide) (by decide)).mono ?_
  rintro e w' ⟨rfl, rfl⟩
  rw [show qok (-7) 2 = true from by decide, show ceiI (-7) 2 = -3 from by decide, sel_true]
  go_wp2_with fail
  refine (near_any (-7) 2 _ (by decide) (by decide) (by decide) (by decide)).mono ?_
  rintro e w' ⟨rfl, rfl⟩
  rw [show qok (-7) 2 = true from by decide, show nearI (-7) 2 = -4 from by decide, sel_true]
  go_wp2_with fail
  refine (near_any 5 2 _ (by decide) (by decide) (by decide) (by decide)).mono ?_
  rintro e w' ⟨rfl, rfl⟩
  rw [show qok 5 2 = true from by decide, show nearI 5 2 = 2 from by decide, sel_true]
  go_wp2_with fail
  refine (floor_any (-9223372036854775808) (-1) _ (by decide) (by decide) (by decide) (by decide)).mono ?_
  rintro e w' ⟨rfl, rfl⟩
  rw [show qok (-9223372036854775808) (-1) = false from by decide, sel_false]
  go_wp2_with fail
  refine (muldiv_any 9000000000000000000 3 9 _ (by decide) (by decide) (by decide) (by decide) (by decide) (by decide)).mono ?_
  rintro e w' ⟨rfl, n1, rfl⟩
  rw [show qok (9000000000000000000 * 3) 9 = true from by decide, show flo (9000000000000000000 * 3) 9 = 3000000000000000000 from by decide, sel_true]
  go_wp2_with fail
  refine (sqrt_any 99 9 _ (by decide) (by decide) ⟨by decide, by decide, by decide⟩).mono ?_
  rintro e w' ⟨rfl, rfl⟩
  go_wp2_with fail
  refine (scale_any (-1) 1 _ (by decide) (by decide) (by decide) (by decide)).mono ?_
  rintro e w' ⟨rfl, n2, rfl⟩
  rw [show (rOk 1 && qok (-1 * (1000000000 + 1)) 1000000000) = true from by decide, show flo (-1 * (1000000000 + 1)) 1000000000 = -2 from by decide, sel_true]
  go_wp2_with fail
  refine (unscale_any 1000500000 500000 _ (by decide) (by decide) (by decide) (by decide)).mono ?_
  rintro e w' ⟨rfl, n3, rfl⟩
  rw [show (rOk 500000 && qok (1000500000 * 1000000000) (1000000000 + 500000)) = true from by decide, show flo (1000500000 * 1000000000) (1000000000 + 500000) = 1000000000 from by decide, sel_true]
  go_wp2_with fail
  refine (clamp_any 5 7 3 _).mono ?_
  rintro e w' ⟨rfl, rfl⟩
  rw [show clampI 5 7 3 = 7 from by decide]
  go_wp2_with fail
  go_ret
  exact ⟨rfl, _, rfl⟩
end Go.Proofs.Ytkcllhcinbcgiaa
