/- Laws of layer 10: valid states. -/
import Derived.Test.YtjcpfkibaohjjaaClkP
namespace Go.Proofs.Ytjcpfkibaohjjaa
open Go.RowKit Fx Ck

set_option maxRecDepth 100000 in
set_option maxHeartbeats 1000000 in
theorem states_yes (x : St) (w : World) (hs : x.s ≤ 9223372036854775807) (hx : Ok x) (h2 : Ok ⟨x.r, x.t, 0, 0, 0, 0⟩) :
    Calls Try.prog 3 #[.agg #[.int .i64 x.r, .int .i64 x.t, .int .i64 x.p, .int .i64 x.l, .int .i64 x.q, .int .i64 x.s]] w fun e w' => e = .returned (.bool true) ∧ Below w.heap.size w w' := by
  have BB := Lib.hid (Below.refl w.heap.size w)
  have HS := Lib.hid hs
  have HOK := Lib.hid hx
  have HO2 := Lib.hid h2
  clear hs hx h2
  have Ns1 : Hid (KB 23 (w.alloc (.cells #[.int .i64 x.r, .int .i64 x.t, .int .i64 x.p, .int .i64 x.l, .int .i64 x.q, .int .i64 x.s] 23)) w.heap.size ⟨x.r, x.t, x.p, x.l, x.q, x.s⟩) := Lib.hid (kb_new _ w x.r x.t x.p x.l x.q x.s)
  have E1 := Lib.hid (BB.out.alloc BB.out.size (.cells #[.int .i64 x.r, .int .i64 x.t, .int .i64 x.p, .int .i64 x.l, .int .i64 x.q, .int .i64 x.s] 23))
  have hs1 := BB.out.size
  obtain ⟨S1, hS1⟩ : ∃ W, w.alloc (.cells #[.int .i64 x.r, .int .i64 x.t, .int .i64 x.p, .int .i64 x.l, .int .i64 x.q, .int .i64 x.s] 23) = W := ⟨_, rfl⟩
  have hsz1 : S1.heap.size = w.heap.size + 1 := by rw [← hS1]; simp
  have HSZ1 := Lib.hid hsz1
  have hle1 : w.heap.size < S1.heap.size := by omega
  clear hsz1
  rw [hS1] at Ns1 E1
  clear BB
  obtain ⟨c2_0, c2_1, c2_2, c2_3, c2_4, c2_5⟩ := Ns1.out.cells
  go_enter Try.func3, Try.ntmps3
  go_wp2_with fail
  go_region_held3 (fun w' => w'.cell? ⟨w.heap.size, 0, none⟩ = some (.int .i64 x.r) ∧ w'.cell? ⟨w.heap.size, 1, none⟩ = some (.int .i64 x.t) ∧ w'.cell? ⟨w.heap.size, 2, none⟩ = some (.int .i64 x.p) ∧ w'.cell? ⟨w.heap.size, 3, none⟩ = some (.int .i64 x.l) ∧ w'.cell? ⟨w.heap.size, 4, none⟩ = some (.int .i64 x.q) ∧ w'.cell? ⟨w.heap.size, 5, none⟩ = some (.int .i64 x.s)) (go_keep)
      (first
        | (go_at_call 11; refine (of_yes x _ HOK.out).mono ?_; rintro e w3 ⟨a, rfl, hge3, hkb, hb⟩; have hb : Below S1.heap.size S1 w3 := ⟨hb.os, hb.tape, hb.output, hb.size, hb.block⟩; have hge3 : S1.heap.size ≤ a := hge3; have Xs3 := Lib.hid (Ns1.out.below hb Ns1.out.lt); have nes3 : w.heap.size < a := Nat.lt_of_lt_of_le Ns1.out.lt hge3; obtain ⟨cs3_0, cs3_1, cs3_2, cs3_3, cs3_4, cs3_5⟩ := Xs3.out.cells; have lw3 : w.heap.size ≤ a := Nat.le_trans E1.out.size hge3; have Xa3 := Lib.hid hkb; have B3 := Lib.hid (E1.out.trans (hb.mono E1.out.size)); clear hb hkb Ns1 E1)
        | (go_at_call 12; refine (rof_yes x _ HOK.out).mono ?_; rintro e w4 ⟨b, rfl, hge4, hkb, hb⟩; have Xs4 := Lib.hid (Xs3.out.below hb Xs3.out.lt); have nes4 : w.heap.size < b := Nat.lt_of_lt_of_le Xs3.out.lt hge4; obtain ⟨cs4_0, cs4_1, cs4_2, cs4_3, cs4_4, cs4_5⟩ := Xs4.out.cells; have Xa4 := Lib.hid (Xa3.out.below hb Xa3.out.lt); have nea4 : a < b := Nat.lt_of_lt_of_le Xa3.out.lt hge4; have lw4 : w.heap.size ≤ b := Nat.le_trans B3.out.size hge4; have Xb4 := Lib.hid hkb; have B4 := Lib.hid (B3.out.trans (hb.mono B3.out.size)); clear hb hkb Xs3 Xa3 B3))
  clear hS1 c2_0 c2_1 c2_2 c2_3 c2_4 c2_5
  go_wp2_with fail
  go_region_held3 (fun w' => w'.cell? ⟨w.heap.size, 0, none⟩ = some (.int .i64 x.r) ∧ w'.cell? ⟨w.heap.size, 1, none⟩ = some (.int .i64 x.t) ∧ w'.cell? ⟨w.heap.size, 2, none⟩ = some (.int .i64 x.p) ∧ w'.cell? ⟨w.heap.size, 3, none⟩ = some (.int .i64 x.l) ∧ w'.cell? ⟨w.heap.size, 4, none⟩ = some (.int .i64 x.q) ∧ w'.cell? ⟨w.heap.size, 5, none⟩ = some (.int .i64 x.s)) (go_keep)
      (first
        | (go_at_call 13; refine (state_any a x _ ?_).mono ?_; exact Xa4.out; rintro e w5 ⟨rfl, hb⟩; have hb : Below w4.heap.size w4 w5 := ⟨hb.os, hb.tape, hb.output, hb.size, hb.block⟩; have Xs5 := Lib.hid (Xs4.out.below hb Xs4.out.lt); obtain ⟨cs5_0, cs5_1, cs5_2, cs5_3, cs5_4, cs5_5⟩ := Xs5.out.cells; have Xa5 := Lib.hid (Xa4.out.below hb Xa4.out.lt); have Xb5 := Lib.hid (Xb4.out.below hb Xb4.out.lt); have B5 := Lib.hid (B4.out.trans (hb.mono B4.out.size)); have hz5 := hb.size; clear hb Xs4 Xa4 Xb4 B4))
  clear cs3_0 cs3_1 cs3_2 cs3_3 cs3_4 cs3_5 cs4_0 cs4_1 cs4_2 cs4_3 cs4_4 cs4_5
  go_wp2_with fail
  go_region_held3 (fun w' => w'.cell? ⟨w.heap.size, 0, none⟩ = some (.int .i64 x.r) ∧ w'.cell? ⟨w.heap.size, 1, none⟩ = some (.int .i64 x.t) ∧ w'.cell? ⟨w.heap.size, 2, none⟩ = some (.int .i64 x.p) ∧ w'.cell? ⟨w.heap.size, 3, none⟩ = some (.int .i64 x.l) ∧ w'.cell? ⟨w.heap.size, 4, none⟩ = some (.int .i64 x.q) ∧ w'.cell? ⟨w.heap.size, 5, none⟩ = some (.int .i64 x.s)) (go_keep)
      (first
        | (go_at_call 14; refine (new_yes x.r x.t _ HO2.out).mono ?_; rintro e w6 ⟨c, rfl, hge6, hkb, hb⟩; have hb : Below w5.heap.size w5 w6 := ⟨hb.os, hb.tape, hb.output, hb.size, hb.block⟩; have hge6 : w5.heap.size ≤ c := hge6; have Xs6 := Lib.hid (Xs5.out.below hb Xs5.out.lt); have nes6 : w.heap.size < c := Nat.lt_of_lt_of_le Xs5.out.lt hge6; obtain ⟨cs6_0, cs6_1, cs6_2, cs6_3, cs6_4, cs6_5⟩ := Xs6.out.cells; have Xa6 := Lib.hid (Xa5.out.below hb Xa5.out.lt); have nea6 : a < c := Nat.lt_of_lt_of_le Xa5.out.lt hge6; have Xb6 := Lib.hid (Xb5.out.below hb Xb5.out.lt); have neb6 : b < c := Nat.lt_of_lt_of_le Xb5.out.lt hge6; have lw6 : w.heap.size ≤ c := Nat.le_trans B5.out.size hge6; have Xc6 := Lib.hid hkb; have B6 := Lib.hid (B5.out.trans (hb.mono B5.out.size)); clear hb hkb Xs5 Xa5 Xb5 B5)
        | (go_at_call 15; refine (rnew_yes x.r x.t _ HO2.out).mono ?_; rintro e w7 ⟨d, rfl, hge7, hkb, hb⟩; have Xs7 := Lib.hid (Xs6.out.below hb Xs6.out.lt); have nes7 : w.heap.size < d := Nat.lt_of_lt_of_le Xs6.out.lt hge7; obtain ⟨cs7_0, cs7_1, cs7_2, cs7_3, cs7_4, cs7_5⟩ := Xs7.out.cells; have Xa7 := Lib.hid (Xa6.out.below hb Xa6.out.lt); have nea7 : a < d := Nat.lt_of_lt_of_le Xa6.out.lt hge7; have Xb7 := Lib.hid (Xb6.out.below hb Xb6.out.lt); have neb7 : b < d := Nat.lt_of_lt_of_le Xb6.out.lt hge7; have Xc7 := Lib.hid (Xc6.out.below hb Xc6.out.lt); have nec7 : c < d := Nat.lt_of_lt_of_le Xc6.out.lt hge7; have lw7 : w.heap.size ≤ d := Nat.le_trans B6.out.size hge7; have Xd7 := Lib.hid hkb; have B7 := Lib.hid (B6.out.trans (hb.mono B6.out.size)); clear hb hkb Xs6 Xa6 Xb6 Xc6 B6))
  clear cs5_0 cs5_1 cs5_2 cs5_3 cs5_4 cs5_5
  go_wp2_with fail
  go_region_held3 (fun w' => w'.cell? ⟨w.heap.size, 0, none⟩ = some (.int .i64 x.r) ∧ w'.cell? ⟨w.heap.size, 1, none⟩ = some (.int .i64 x.t) ∧ w'.cell? ⟨w.heap.size, 2, none⟩ = some (.int .i64 x.p) ∧ w'.cell? ⟨w.heap.size, 3, none⟩ = some (.int .i64 x.l) ∧ w'.cell? ⟨w.heap.size, 4, none⟩ = some (.int .i64 x.q) ∧ w'.cell? ⟨w.heap.size, 5, none⟩ = some (.int .i64 x.s)) (go_keep)
      (first
        | (go_at_call 13; refine (state_any c ⟨x.r, x.t, 0, 0, 0, 0⟩ _ ?_).mono ?_; exact Xc7.out; rintro e w8 ⟨rfl, hb⟩; have hb : Below w7.heap.size w7 w8 := ⟨hb.os, hb.tape, hb.output, hb.size, hb.block⟩; have Xs8 := Lib.hid (Xs7.out.below hb Xs7.out.lt); obtain ⟨cs8_0, cs8_1, cs8_2, cs8_3, cs8_4, cs8_5⟩ := Xs8.out.cells; have Xa8 := Lib.hid (Xa7.out.below hb Xa7.out.lt); have Xb8 := Lib.hid (Xb7.out.below hb Xb7.out.lt); have Xc8 := Lib.hid (Xc7.out.below hb Xc7.out.lt); have Xd8 := Lib.hid (Xd7.out.below hb Xd7.out.lt); have B8 := Lib.hid (B7.out.trans (hb.mono B7.out.size)); have hz8 := hb.size; clear hb Xs7 Xa7 Xb7 Xc7 Xd7 B7))
  clear cs6_0 cs6_1 cs6_2 cs6_3 cs6_4 cs6_5 cs7_0 cs7_1 cs7_2 cs7_3 cs7_4 cs7_5
  go_wp2_with fail
  refine (awake10_any _).mono ?_
  rintro e w9 ⟨rfl, hb⟩
  have Xs9 := Lib.hid (Xs8.out.below hb Xs8.out.lt)
  have Xa9 := Lib.hid (Xa8.out.below hb Xa8.out.lt)
  have Xb9 := Lib.hid (Xb8.out.below hb Xb8.out.lt)
  have Xc9 := Lib.hid (Xc8.out.below hb Xc8.out.lt)
  have Xd9 := Lib.hid (Xd8.out.below hb Xd8.out.lt)
  have B9 := Lib.hid (B8.out.trans (hb.mono B8.out.size))
  have hz9 := hb.size
  clear hb Xs8 Xa8 Xb8 Xc8 Xd8 B8
  go_wp2_with fail
  go_ret
  exact ⟨rfl, B9.out⟩
set_option maxRecDepth 100000 in
set_option maxHeartbeats 1000000 in
theorem states_mid (x : St) (w : World) (hs : x.s ≤ 9223372036854775807) (hn : ¬ Ok x) (h2 : Ok ⟨x.r, x.t, 0, 0, 0, 0⟩) :
    Calls Try.prog 3 #[.agg #[.int .i64 x.r, .int .i64 x.t, .int .i64 x.p, .int .i64 x.l, .int .i64 x.q, .int .i64 x.s]] w fun e w' => e = .returned (.bool true) ∧ Below w.heap.size w w' := by
  have BB := Lib.hid (Below.refl w.heap.size w)
  have HS := Lib.hid hs
  have HN := Lib.hid hn
  have HO2 := Lib.hid h2
  clear hs hn h2
  have Ns1 : Hid (KB 23 (w.alloc (.cells #[.int .i64 x.r, .int .i64 x.t, .int .i64 x.p, .int .i64 x.l, .int .i64 x.q, .int .i64 x.s] 23)) w.heap.size ⟨x.r, x.t, x.p, x.l, x.q, x.s⟩) := Lib.hid (kb_new _ w x.r x.t x.p x.l x.q x.s)
  have E1 := Lib.hid (BB.out.alloc BB.out.size (.cells #[.int .i64 x.r, .int .i64 x.t, .int .i64 x.p, .int .i64 x.l, .int .i64 x.q, .int .i64 x.s] 23))
  have hs1 := BB.out.size
  obtain ⟨S1, hS1⟩ : ∃ W, w.alloc (.cells #[.int .i64 x.r, .int .i64 x.t, .int .i64 x.p, .int .i64 x.l, .int .i64 x.q, .int .i64 x.s] 23) = W := ⟨_, rfl⟩
  have hsz1 : S1.heap.size = w.heap.size + 1 := by rw [← hS1]; simp
  have HSZ1 := Lib.hid hsz1
  have hle1 : w.heap.size < S1.heap.size := by omega
  clear hsz1
  rw [hS1] at Ns1 E1
  clear BB
  obtain ⟨c2_0, c2_1, c2_2, c2_3, c2_4, c2_5⟩ := Ns1.out.cells
  go_enter Try.func3, Try.ntmps3
  go_wp2_with fail
  go_region_held3 (fun w' => w'.cell? ⟨w.heap.size, 0, none⟩ = some (.int .i64 x.r) ∧ w'.cell? ⟨w.heap.size, 1, none⟩ = some (.int .i64 x.t) ∧ w'.cell? ⟨w.heap.size, 2, none⟩ = some (.int .i64 x.p) ∧ w'.cell? ⟨w.heap.size, 3, none⟩ = some (.int .i64 x.l) ∧ w'.cell? ⟨w.heap.size, 4, none⟩ = some (.int .i64 x.q) ∧ w'.cell? ⟨w.heap.size, 5, none⟩ = some (.int .i64 x.s)) (go_keep)
      (first
        | (go_at_call 11; refine (of_no x _ HS.out HN.out).mono ?_; rintro e w3 ⟨rfl, hb⟩; have hb : Below S1.heap.size S1 w3 := ⟨hb.os, hb.tape, hb.output, hb.size, hb.block⟩; have Xs3 := Lib.hid (Ns1.out.below hb Ns1.out.lt); obtain ⟨cs3_0, cs3_1, cs3_2, cs3_3, cs3_4, cs3_5⟩ := Xs3.out.cells; have B3 := Lib.hid (E1.out.trans (hb.mono E1.out.size)); have hz3 := hb.size; clear hb Ns1 E1)
        | (go_at_call 12; refine (rof_no x _ HS.out HN.out).mono ?_; rintro e w4 ⟨rfl, hb⟩; have Xs4 := Lib.hid (Xs3.out.below hb Xs3.out.lt); obtain ⟨cs4_0, cs4_1, cs4_2, cs4_3, cs4_4, cs4_5⟩ := Xs4.out.cells; have B4 := Lib.hid (B3.out.trans (hb.mono B3.out.size)); have hz4 := hb.size; clear hb Xs3 B3))
  clear hS1 c2_0 c2_1 c2_2 c2_3 c2_4 c2_5
  go_wp2_with fail
  go_quiet (fail)
  clear cs3_0 cs3_1 cs3_2 cs3_3 cs3_4 cs3_5 cs4_0 cs4_1 cs4_2 cs4_3 cs4_4 cs4_5
  have Qs5 := Lib.hid (Xs4.out.drewN nq)
  have QB5 := Lib.hid (blwn B4.out nq)
  have hqs5 : w4.heap.size ≤ (w4.drewN nq).heap.size := Nat.le_refl _
  obtain ⟨Q5, hQ⟩ : ∃ W, w4.drewN nq = W := ⟨_, rfl⟩
  rw [hQ] at Qs5 QB5 hqs5 ⊢
  clear hQ Xs4 B4
  obtain ⟨c6_0, c6_1, c6_2, c6_3, c6_4, c6_5⟩ := Qs5.out.cells
  go_wp2_with fail
  go_region_held3 (fun w' => w'.cell? ⟨w.heap.size, 0, none⟩ = some (.int .i64 x.r) ∧ w'.cell? ⟨w.heap.size, 1, none⟩ = some (.int .i64 x.t) ∧ w'.cell? ⟨w.heap.size, 2, none⟩ = some (.int .i64 x.p) ∧ w'.cell? ⟨w.heap.size, 3, none⟩ = some (.int .i64 x.l) ∧ w'.cell? ⟨w.heap.size, 4, none⟩ = some (.int .i64 x.q) ∧ w'.cell? ⟨w.heap.size, 5, none⟩ = some (.int .i64 x.s)) (go_keep)
      (first
        | (go_at_call 14; refine (new_yes x.r x.t _ HO2.out).mono ?_; rintro e w7 ⟨c, rfl, hge7, hkb, hb⟩; have hb : Below Q5.heap.size Q5 w7 := ⟨hb.os, hb.tape, hb.output, hb.size, hb.block⟩; have hge7 : Q5.heap.size ≤ c := hge7; have Xs7 := Lib.hid (Qs5.out.below hb Qs5.out.lt); have nes7 : w.heap.size < c := Nat.lt_of_lt_of_le Qs5.out.lt hge7; obtain ⟨cs7_0, cs7_1, cs7_2, cs7_3, cs7_4, cs7_5⟩ := Xs7.out.cells; have lw7 : w.heap.size ≤ c := Nat.le_trans QB5.out.size hge7; have Xc7 := Lib.hid hkb; have B7 := Lib.hid (QB5.out.trans (hb.mono QB5.out.size)); clear hb hkb Qs5 QB5)
        | (go_at_call 15; refine (rnew_yes x.r x.t _ HO2.out).mono ?_; rintro e w8 ⟨d, rfl, hge8, hkb, hb⟩; have Xs8 := Lib.hid (Xs7.out.below hb Xs7.out.lt); have nes8 : w.heap.size < d := Nat.lt_of_lt_of_le Xs7.out.lt hge8; obtain ⟨cs8_0, cs8_1, cs8_2, cs8_3, cs8_4, cs8_5⟩ := Xs8.out.cells; have Xc8 := Lib.hid (Xc7.out.below hb Xc7.out.lt); have nec8 : c < d := Nat.lt_of_lt_of_le Xc7.out.lt hge8; have lw8 : w.heap.size ≤ d := Nat.le_trans B7.out.size hge8; have Xd8 := Lib.hid hkb; have B8 := Lib.hid (B7.out.trans (hb.mono B7.out.size)); clear hb hkb Xs7 Xc7 B7))
  clear c6_0 c6_1 c6_2 c6_3 c6_4 c6_5
  go_wp2_with fail
  go_region_held3 (fun w' => w'.cell? ⟨w.heap.size, 0, none⟩ = some (.int .i64 x.r) ∧ w'.cell? ⟨w.heap.size, 1, none⟩ = some (.int .i64 x.t) ∧ w'.cell? ⟨w.heap.size, 2, none⟩ = some (.int .i64 x.p) ∧ w'.cell? ⟨w.heap.size, 3, none⟩ = some (.int .i64 x.l) ∧ w'.cell? ⟨w.heap.size, 4, none⟩ = some (.int .i64 x.q) ∧ w'.cell? ⟨w.heap.size, 5, none⟩ = some (.int .i64 x.s)) (go_keep)
      (first
        | (go_at_call 13; refine (state_any c ⟨x.r, x.t, 0, 0, 0, 0⟩ _ ?_).mono ?_; exact Xc8.out; rintro e w9 ⟨rfl, hb⟩; have hb : Below w8.heap.size w8 w9 := ⟨hb.os, hb.tape, hb.output, hb.size, hb.block⟩; have Xs9 := Lib.hid (Xs8.out.below hb Xs8.out.lt); obtain ⟨cs9_0, cs9_1, cs9_2, cs9_3, cs9_4, cs9_5⟩ := Xs9.out.cells; have Xc9 := Lib.hid (Xc8.out.below hb Xc8.out.lt); have Xd9 := Lib.hid (Xd8.out.below hb Xd8.out.lt); have B9 := Lib.hid (B8.out.trans (hb.mono B8.out.size)); have hz9 := hb.size; clear hb Xs8 Xc8 Xd8 B8))
  clear cs7_0 cs7_1 cs7_2 cs7_3 cs7_4 cs7_5 cs8_0 cs8_1 cs8_2 cs8_3 cs8_4 cs8_5
  go_wp2_with fail
  refine (awake10_any _).mono ?_
  rintro e w10 ⟨rfl, hb⟩
  have Xs10 := Lib.hid (Xs9.out.below hb Xs9.out.lt)
  have Xc10 := Lib.hid (Xc9.out.below hb Xc9.out.lt)
  have Xd10 := Lib.hid (Xd9.out.below hb Xd9.out.lt)
  have B10 := Lib.hid (B9.out.trans (hb.mono B9.out.size))
  have hz10 := hb.size
  clear hb Xs9 Xc9 Xd9 B9
  go_wp2_with fail
  go_ret
  exact ⟨rfl, B10.out⟩
set_option maxRecDepth 100000 in
set_option maxHeartbeats 1000000 in
theorem states_no (x : St) (w : World) (hs : x.s ≤ 9223372036854775807) (hn : ¬ Ok x) (n2 : ¬ Ok ⟨x.r, x.t, 0, 0, 0, 0⟩) :
    Calls Try.prog 3 #[.agg #[.int .i64 x.r, .int .i64 x.t, .int .i64 x.p, .int .i64 x.l, .int .i64 x.q, .int .i64 x.s]] w fun e w' => e = .returned (.bool true) ∧ Below w.heap.size w w' := by
  have BB := Lib.hid (Below.refl w.heap.size w)
  have HS := Lib.hid hs
  have HN := Lib.hid hn
  have HN2 := Lib.hid n2
  clear hs hn n2
  have Ns1 : Hid (KB 23 (w.alloc (.cells #[.int .i64 x.r, .int .i64 x.t, .int .i64 x.p, .int .i64 x.l, .int .i64 x.q, .int .i64 x.s] 23)) w.heap.size ⟨x.r, x.t, x.p, x.l, x.q, x.s⟩) := Lib.hid (kb_new _ w x.r x.t x.p x.l x.q x.s)
  have E1 := Lib.hid (BB.out.alloc BB.out.size (.cells #[.int .i64 x.r, .int .i64 x.t, .int .i64 x.p, .int .i64 x.l, .int .i64 x.q, .int .i64 x.s] 23))
  have hs1 := BB.out.size
  obtain ⟨S1, hS1⟩ : ∃ W, w.alloc (.cells #[.int .i64 x.r, .int .i64 x.t, .int .i64 x.p, .int .i64 x.l, .int .i64 x.q, .int .i64 x.s] 23) = W := ⟨_, rfl⟩
  have hsz1 : S1.heap.size = w.heap.size + 1 := by rw [← hS1]; simp
  have HSZ1 := Lib.hid hsz1
  have hle1 : w.heap.size < S1.heap.size := by omega
  clear hsz1
  rw [hS1] at Ns1 E1
  clear BB
  obtain ⟨c2_0, c2_1, c2_2, c2_3, c2_4, c2_5⟩ := Ns1.out.cells
  go_enter Try.func3, Try.ntmps3
  go_wp2_with fail
  go_region_held3 (fun w' => w'.cell? ⟨w.heap.size, 0, none⟩ = some (.int .i64 x.r) ∧ w'.cell? ⟨w.heap.size, 1, none⟩ = some (.int .i64 x.t) ∧ w'.cell? ⟨w.heap.size, 2, none⟩ = some (.int .i64 x.p) ∧ w'.cell? ⟨w.heap.size, 3, none⟩ = some (.int .i64 x.l) ∧ w'.cell? ⟨w.heap.size, 4, none⟩ = some (.int .i64 x.q) ∧ w'.cell? ⟨w.heap.size, 5, none⟩ = some (.int .i64 x.s)) (go_keep)
      (first
        | (go_at_call 11; refine (of_no x _ HS.out HN.out).mono ?_; rintro e w3 ⟨rfl, hb⟩; have hb : Below S1.heap.size S1 w3 := ⟨hb.os, hb.tape, hb.output, hb.size, hb.block⟩; have Xs3 := Lib.hid (Ns1.out.below hb Ns1.out.lt); obtain ⟨cs3_0, cs3_1, cs3_2, cs3_3, cs3_4, cs3_5⟩ := Xs3.out.cells; have B3 := Lib.hid (E1.out.trans (hb.mono E1.out.size)); have hz3 := hb.size; clear hb Ns1 E1)
        | (go_at_call 12; refine (rof_no x _ HS.out HN.out).mono ?_; rintro e w4 ⟨rfl, hb⟩; have Xs4 := Lib.hid (Xs3.out.below hb Xs3.out.lt); obtain ⟨cs4_0, cs4_1, cs4_2, cs4_3, cs4_4, cs4_5⟩ := Xs4.out.cells; have B4 := Lib.hid (B3.out.trans (hb.mono B3.out.size)); have hz4 := hb.size; clear hb Xs3 B3))
  clear hS1 c2_0 c2_1 c2_2 c2_3 c2_4 c2_5
  go_wp2_with fail
  go_quiet (fail)
  clear cs3_0 cs3_1 cs3_2 cs3_3 cs3_4 cs3_5 cs4_0 cs4_1 cs4_2 cs4_3 cs4_4 cs4_5
  have Qs5 := Lib.hid (Xs4.out.drewN nq)
  have QB5 := Lib.hid (blwn B4.out nq)
  have hqs5 : w4.heap.size ≤ (w4.drewN nq).heap.size := Nat.le_refl _
  obtain ⟨Q5, hQ⟩ : ∃ W, w4.drewN nq = W := ⟨_, rfl⟩
  rw [hQ] at Qs5 QB5 hqs5 ⊢
  clear hQ Xs4 B4
  obtain ⟨c6_0, c6_1, c6_2, c6_3, c6_4, c6_5⟩ := Qs5.out.cells
  go_wp2_with fail
  go_region_held3 (fun w' => w'.cell? ⟨w.heap.size, 0, none⟩ = some (.int .i64 x.r) ∧ w'.cell? ⟨w.heap.size, 1, none⟩ = some (.int .i64 x.t) ∧ w'.cell? ⟨w.heap.size, 2, none⟩ = some (.int .i64 x.p) ∧ w'.cell? ⟨w.heap.size, 3, none⟩ = some (.int .i64 x.l) ∧ w'.cell? ⟨w.heap.size, 4, none⟩ = some (.int .i64 x.q) ∧ w'.cell? ⟨w.heap.size, 5, none⟩ = some (.int .i64 x.s)) (go_keep)
      (first
        | (go_at_call 14; refine (new_no x.r x.t _ HN2.out).mono ?_; rintro e w7 ⟨rfl, hb⟩; have hb : Below Q5.heap.size Q5 w7 := ⟨hb.os, hb.tape, hb.output, hb.size, hb.block⟩; have Xs7 := Lib.hid (Qs5.out.below hb Qs5.out.lt); obtain ⟨cs7_0, cs7_1, cs7_2, cs7_3, cs7_4, cs7_5⟩ := Xs7.out.cells; have B7 := Lib.hid (QB5.out.trans (hb.mono QB5.out.size)); have hz7 := hb.size; clear hb Qs5 QB5)
        | (go_at_call 15; refine (rnew_no x.r x.t _ HN2.out).mono ?_; rintro e w8 ⟨rfl, hb⟩; have Xs8 := Lib.hid (Xs7.out.below hb Xs7.out.lt); obtain ⟨cs8_0, cs8_1, cs8_2, cs8_3, cs8_4, cs8_5⟩ := Xs8.out.cells; have B8 := Lib.hid (B7.out.trans (hb.mono B7.out.size)); have hz8 := hb.size; clear hb Xs7 B7))
  clear c6_0 c6_1 c6_2 c6_3 c6_4 c6_5
  go_wp2_with fail
  go_quiet (fail)
  clear cs7_0 cs7_1 cs7_2 cs7_3 cs7_4 cs7_5 cs8_0 cs8_1 cs8_2 cs8_3 cs8_4 cs8_5
  have Qs9 := Lib.hid (Xs8.out.drewN nq)
  have QB9 := Lib.hid (blwn B8.out nq)
  have hqs9 : w8.heap.size ≤ (w8.drewN nq).heap.size := Nat.le_refl _
  obtain ⟨Q9, hQ⟩ : ∃ W, w8.drewN nq = W := ⟨_, rfl⟩
  rw [hQ] at Qs9 QB9 hqs9 ⊢
  clear hQ Xs8 B8
  obtain ⟨c10_0, c10_1, c10_2, c10_3, c10_4, c10_5⟩ := Qs9.out.cells
  go_wp2_with fail
  refine (awake10_any _).mono ?_
  rintro e w11 ⟨rfl, hb⟩
  have Xs11 := Lib.hid (Qs9.out.below hb Qs9.out.lt)
  have B11 := Lib.hid (QB9.out.trans (hb.mono QB9.out.size))
  have hz11 := hb.size
  clear hb Qs9 QB9
  go_wp2_with fail
  go_ret
  exact ⟨rfl, B11.out⟩
theorem states_law (x : St) (w : World) (hs : x.s ≤ 9223372036854775807) :
    Calls Try.prog 3 #[.agg #[.int .i64 x.r, .int .i64 x.t, .int .i64 x.p, .int .i64 x.l, .int .i64 x.q, .int .i64 x.s]] w fun e w' => e = .returned (.bool true) ∧ Below w.heap.size w w' := by
  by_cases h1 : Ok x
  · obtain ⟨hr, ht, h3⟩ := id h1
    exact states_yes x w hs h1 ⟨hr, ht, by show (-4503599627370496 : Int) ≤ 0 ∧ (0 : Int) ≤ 4503599627370496; decide, by show (-500000 : Int) ≤ 0 ∧ (0 : Int) ≤ 500000; decide, by show (0 : Int) ≤ 0 ∧ (0 : Int) ≤ 500000; decide, .inl rfl, by show (0 : Int) ≤ 0 ∧ (0 : Int) ≤ 9223372036854775807; decide⟩
  · by_cases h2 : Ok ⟨x.r, x.t, 0, 0, 0, 0⟩
    · exact states_mid x w hs h1 h2
    · exact states_no x w hs h1 h2
end Go.Proofs.Ytjcpfkibaohjjaa
