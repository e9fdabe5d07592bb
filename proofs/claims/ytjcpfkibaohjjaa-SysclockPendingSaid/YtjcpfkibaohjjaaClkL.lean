/- Laws of layer 10: the chapter's examples. -/
import Derived.Test.YtjcpfkibaohjjaaClkK
namespace Go.Proofs.Ytjcpfkibaohjjaa
open Go.RowKit Fx Ck

theorem Ck.ok_iff (x : St) : Ok x ↔ ((-4503599627370496 ≤ x.r ∧ x.r ≤ 4503599627370496) ∧ (-4503599627370496 ≤ x.t ∧ x.t ≤ 4503599627370496) ∧ (-4503599627370496 ≤ x.l ∧ x.l ≤ 4503599627370496) ∧
  (-500000 ≤ x.p ∧ x.p ≤ 500000) ∧ (0 ≤ x.q ∧ x.q ≤ 500000) ∧ (x.l = 0 ∨ 0 < x.q) ∧ (0 ≤ x.s ∧ x.s ≤ 9223372036854775807)) := Iff.rfl
instance (x : St) : Decidable (Ok x) := decidable_of_iff _ (ok_iff x).symm
set_option maxRecDepth 100000 in
set_option maxHeartbeats 1000000 in
theorem awake10_any (w : World) :
    Calls Try.prog 16 #[] w fun e w' => e = .returned (.bool true) ∧ Below w.heap.size w w' := by
  have BB := Lib.hid (Below.refl w.heap.size w)
  go_enter Try.func16, Try.ntmps16
  go_wp2_with fail
  refine (new_yes 1000 5000 _ (by decide)).mono ?_
  rintro e w1 ⟨a, rfl, hge1, hkb, hb⟩
  have lw1 : w.heap.size ≤ a := Nat.le_trans BB.out.size hge1
  have Xa1 := Lib.hid hkb
  have B1 := Lib.hid (BB.out.trans (hb.mono BB.out.size))
  clear hb hkb BB
  go_wp2_with fail
  refine (new_yes 0 0 _ (by decide)).mono ?_
  rintro e w2 ⟨c, rfl, hge2, hkb, hb⟩
  have Xa2 := Lib.hid (Xa1.out.below hb Xa1.out.lt)
  have nea2 : a < c := Nat.lt_of_lt_of_le Xa1.out.lt hge2
  have lw2 : w.heap.size ≤ c := Nat.le_trans B1.out.size hge2
  have Xc2 := Lib.hid hkb
  have B2 := Lib.hid (B1.out.trans (hb.mono B1.out.size))
  clear hb hkb Xa1 B1
  go_wp2_with fail
  refine (of_no ⟨0, 0, 0, 1, 0, 0⟩ _ (by decide) (by decide)).mono ?_
  rintro e w3 ⟨rfl, hb⟩
  have Xa3 := Lib.hid (Xa2.out.below hb Xa2.out.lt)
  have Xc3 := Lib.hid (Xc2.out.below hb Xc2.out.lt)
  have B3 := Lib.hid (B2.out.trans (hb.mono B2.out.size))
  have hz3 := hb.size
  clear hb Xa2 Xc2 B2
  go_wp2_with fail
  refine (now_any a ⟨1000, 5000, 0, 0, 0, 0⟩ 1500 _ (by decide) Xa3.out).mono ?_
  rintro e w4 ⟨rfl, hb⟩
  have Xa4 := Lib.hid (Xa3.out.below hb Xa3.out.lt)
  have Xc4 := Lib.hid (Xc3.out.below hb Xc3.out.lt)
  have B4 := Lib.hid (B3.out.trans (hb.mono B3.out.size))
  have hz4 := hb.size
  clear hb Xa3 Xc3 B3
  rw [show (mvS ⟨1000, 5000, 0, 0, 0, 0⟩ 1500).t = 5500 from by kernel_rfl, show mvE ⟨1000, 5000, 0, 0, 0, 0⟩ 1500 = 0 from by kernel_rfl]
  go_wp2_with fail
  refine (freq_any a ⟨1000, 5000, 0, 0, 0, 0⟩ 2000 1000 _ (by decide) Xa4.out).mono ?_
  rintro e w5 ⟨rfl, hkb, hg⟩
  rw [show frS ⟨1000, 5000, 0, 0, 0, 0⟩ 2000 1000 = ⟨2000, 6000, 1000, 0, 0, 0⟩ from by kernel_rfl] at hkb
  have Xa5 := Lib.hid hkb
  have Xc5 := Lib.hid (Xc4.out.grown hg (by omega))
  have B5 := Lib.hid (below_of_grown' B4.out hg (by omega) B4.out.size)
  clear hkb hg Xa4 Xc4 B4
  rw [show frE ⟨1000, 5000, 0, 0, 0, 0⟩ 2000 1000 = 0 from by kernel_rfl]
  go_wp2_with fail
  refine (slew_any c ⟨0, 0, 0, 0, 0, 0⟩ 0 10 1000 _ (by decide) Xc5.out).mono ?_
  rintro e w6 ⟨rfl, hkb, hg⟩
  rw [show slS ⟨0, 0, 0, 0, 0, 0⟩ 0 10 1000 = ⟨0, 0, 0, 10, 1000, 0⟩ from by kernel_rfl] at hkb
  have Xc6 := Lib.hid hkb
  have Xa6 := Lib.hid (Xa5.out.grown hg (by omega))
  have B6 := Lib.hid (below_of_grown' B5.out hg (by omega) B5.out.size)
  clear hkb hg Xc5 Xa5 B5
  rw [show slE ⟨0, 0, 0, 0, 0, 0⟩ 0 10 1000 = 0 from by kernel_rfl]
  go_wp2_with fail
  refine (now_any a ⟨2000, 6000, 1000, 0, 0, 0⟩ 1002000 _ (by decide) Xa6.out).mono ?_
  rintro e w7 ⟨rfl, hb⟩
  have Xa7 := Lib.hid (Xa6.out.below hb Xa6.out.lt)
  have Xc7 := Lib.hid (Xc6.out.below hb Xc6.out.lt)
  have B7 := Lib.hid (B6.out.trans (hb.mono B6.out.size))
  have hz7 := hb.size
  clear hb Xa6 Xc6 B6
  rw [show (mvS ⟨2000, 6000, 1000, 0, 0, 0⟩ 1002000).t = 1006001 from by kernel_rfl, show mvE ⟨2000, 6000, 1000, 0, 0, 0⟩ 1002000 = 0 from by kernel_rfl]
  go_wp2_with fail
  refine (now_any c ⟨0, 0, 0, 10, 1000, 0⟩ 4500000 _ (by decide) Xc7.out).mono ?_
  rintro e w8 ⟨rfl, hb⟩
  have Xa8 := Lib.hid (Xa7.out.below hb Xa7.out.lt)
  have Xc8 := Lib.hid (Xc7.out.below hb Xc7.out.lt)
  have B8 := Lib.hid (B7.out.trans (hb.mono B7.out.size))
  have hz8 := hb.size
  clear hb Xa7 Xc7 B7
  rw [show (mvS ⟨0, 0, 0, 10, 1000, 0⟩ 4500000).t = 4500004 from by kernel_rfl, show mvE ⟨0, 0, 0, 10, 1000, 0⟩ 4500000 = 0 from by kernel_rfl]
  go_wp2_with fail
  refine (now_any c ⟨0, 0, 0, 10, 1000, 0⟩ 20000000 _ (by decide) Xc8.out).mono ?_
  rintro e w9 ⟨rfl, hb⟩
  have Xa9 := Lib.hid (Xa8.out.below hb Xa8.out.lt)
  have Xc9 := Lib.hid (Xc8.out.below hb Xc8.out.lt)
  have B9 := Lib.hid (B8.out.trans (hb.mono B8.out.size))
  have hz9 := hb.size
  clear hb Xa8 Xc8 B8
  rw [show (mvS ⟨0, 0, 0, 10, 1000, 0⟩ 20000000).t = 20000010 from by kernel_rfl, show mvE ⟨0, 0, 0, 10, 1000, 0⟩ 20000000 = 0 from by kernel_rfl]
  go_wp2_with fail
  refine (pend_any c ⟨0, 0, 0, 10, 1000, 0⟩ 4500000 _ (by decide) Xc9.out).mono ?_
  rintro e w10 ⟨rfl, hb⟩
  have Xa10 := Lib.hid (Xa9.out.below hb Xa9.out.lt)
  have Xc10 := Lib.hid (Xc9.out.below hb Xc9.out.lt)
  have B10 := Lib.hid (B9.out.trans (hb.mono B9.out.size))
  have hz10 := hb.size
  clear hb Xa9 Xc9 B9
  rw [show (mvS ⟨0, 0, 0, 10, 1000, 0⟩ 4500000).l = 6 from by kernel_rfl]
  go_wp2_with fail
  refine (step_any c ⟨0, 0, 0, 10, 1000, 0⟩ 20000000 (-100) _ (by decide) Xc10.out).mono ?_
  rintro e w11 ⟨rfl, hkb, hg⟩
  rw [show spS ⟨0, 0, 0, 10, 1000, 0⟩ 20000000 (-100) = ⟨20000000, 19999910, 0, 0, 0, 1⟩ from by kernel_rfl] at hkb
  have Xc11 := Lib.hid hkb
  have Xa11 := Lib.hid (Xa10.out.grown hg (by omega))
  have B11 := Lib.hid (below_of_grown' B10.out hg (by omega) B10.out.size)
  clear hkb hg Xc10 Xa10 B10
  rw [show spE ⟨0, 0, 0, 10, 1000, 0⟩ 20000000 (-100) = 0 from by kernel_rfl]
  go_wp2_with fail
  refine (now_any c ⟨20000000, 19999910, 0, 0, 0, 1⟩ 19999999 _ (by decide) Xc11.out).mono ?_
  rintro e w12 ⟨rfl, hb⟩
  have Xa12 := Lib.hid (Xa11.out.below hb Xa11.out.lt)
  have Xc12 := Lib.hid (Xc11.out.below hb Xc11.out.lt)
  have B12 := Lib.hid (B11.out.trans (hb.mono B11.out.size))
  have hz12 := hb.size
  clear hb Xa11 Xc11 B11
  rw [show (mvS ⟨20000000, 19999910, 0, 0, 0, 1⟩ 19999999).t = 0 from by kernel_rfl, show mvE ⟨20000000, 19999910, 0, 0, 0, 1⟩ 19999999 = 12 from by kernel_rfl]
  go_wp2_with fail
  refine (state_any c ⟨20000000, 19999910, 0, 0, 0, 1⟩ _ Xc12.out).mono ?_
  rintro e w13 ⟨rfl, hb⟩
  have Xa13 := Lib.hid (Xa12.out.below hb Xa12.out.lt)
  have Xc13 := Lib.hid (Xc12.out.below hb Xc12.out.lt)
  have B13 := Lib.hid (B12.out.trans (hb.mono B12.out.size))
  have hz13 := hb.size
  clear hb Xa12 Xc12 B12
  go_wp2_with fail
  refine (freq_any c ⟨20000000, 19999910, 0, 0, 0, 1⟩ 20000000 500001 _ (by decide) Xc13.out).mono ?_
  rintro e w14 ⟨rfl, hkb, hg⟩
  rw [show frS ⟨20000000, 19999910, 0, 0, 0, 1⟩ 20000000 500001 = ⟨20000000, 19999910, 0, 0, 0, 1⟩ from by kernel_rfl] at hkb
  have Xc14 := Lib.hid hkb
  have Xa14 := Lib.hid (Xa13.out.grown hg (by omega))
  have B14 := Lib.hid (below_of_grown' B13.out hg (by omega) B13.out.size)
  clear hkb hg Xc13 Xa13 B13
  rw [show frE ⟨20000000, 19999910, 0, 0, 0, 1⟩ 20000000 500001 = 3 from by kernel_rfl]
  go_wp2_with fail
  go_ret
  exact ⟨rfl, B14.out⟩
end Go.Proofs.Ytjcpfkibaohjjaa
