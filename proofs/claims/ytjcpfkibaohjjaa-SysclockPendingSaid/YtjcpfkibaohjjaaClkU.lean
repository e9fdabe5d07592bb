/- Laws of layer 10: any calls from any state on. -/
import Derived.Test.YtjcpfkibaohjjaaClkT
import Derived.LoopTactic
namespace Go.Proofs.Ytjcpfkibaohjjaa
open Go.RowKit Fx Ck

/-- Both clocks hold one valid state. -/
def Ck.Both10 (w : World) (D a b : Nat) (wr : World) : Prop := ∃ y, Ok y ∧ KB 51 wr a y ∧ KB 53 wr b y ∧ Below D w wr
set_option maxRecDepth 100000 in
set_option maxHeartbeats 2000000 in
theorem runs_no (x : St) (la : Option Addr) (n lc : Nat) (f : Nat → Qu) (w : World) (hs : x.s ≤ 9223372036854775807) (hn : ¬ Ok x) :
    Calls Try.prog 4 #[.agg #[.int .i64 x.r, .int .i64 x.t, .int .i64 x.p, .int .i64 x.l, .int .i64 x.q, .int .i64 x.s], .slice la n lc] w fun e w' => e = .returned (.bool true) ∧ Below w.heap.size w w' := by
  have BB := Lib.hid (Below.refl w.heap.size w)
  have HS := Lib.hid hs
  have HN := Lib.hid hn
  clear hs hn
  have Ns1 : Hid (KB 23 (w.alloc (.cells #[.int .i64 x.r, .int .i64 x.t, .int .i64 x.p, .int .i64 x.l, .int .i64 x.q, .int .i64 x.s] 23)) w.heap.size ⟨x.r, x.t, x.p, x.l, x.q, x.s⟩) := Lib.hid (kb_new _ w x.r x.t x.p x.l x.q x.s)
  have E1 := Lib.hid (BB.out.alloc BB.out.size (.cells #[.int .i64 x.r, .int .i64 x.t, .int .i64 x.p, .int .i64 x.l, .int .i64 x.q, .int .i64 x.s] 23))
  have hs1 := BB.out.size
  obtain ⟨S1, hS1⟩ : ∃ W, w.alloc (.cells #[.int .i64 x.r, .int .i64 x.t, .int .i64 x.p, .int .i64 x.l, .int .i64 x.q, .int .i64 x.s] 23) = W := ⟨_, rfl⟩
  have hsz1 : S1.heap.size = w.heap.size + 1 := by rw [← hS1]; simp
  have HSZ1 := Lib.hid hsz1
  have hle1 : w.heap.size < S1.heap.size := by omega
  clear hsz1
  rw [hS1] at Ns1 E1
  clear BB
  obtain ⟨c2_0, c2_1, c2_2, c2_3, c2_4, c2_5⟩ := Ns1.out.cells
  go_enter Try.func4, Try.ntmps4
  go_wp2_with fail
  go_region_held3 (fun w' => w'.cell? ⟨w.heap.size, 0, none⟩ = some (.int .i64 x.r) ∧ w'.cell? ⟨w.heap.size, 1, none⟩ = some (.int .i64 x.t) ∧ w'.cell? ⟨w.heap.size, 2, none⟩ = some (.int .i64 x.p) ∧ w'.cell? ⟨w.heap.size, 3, none⟩ = some (.int .i64 x.l) ∧ w'.cell? ⟨w.heap.size, 4, none⟩ = some (.int .i64 x.q) ∧ w'.cell? ⟨w.heap.size, 5, none⟩ = some (.int .i64 x.s)) (go_keep)
      (first
        | (go_at_call 11; refine (of_no x _ HS.out HN.out).mono ?_; rintro e w3 ⟨rfl, hb⟩; have hb : Below S1.heap.size S1 w3 := ⟨hb.os, hb.tape, hb.output, hb.size, hb.block⟩; have Xs3 := Lib.hid (Ns1.out.below hb Ns1.out.lt); obtain ⟨cs3_0, cs3_1, cs3_2, cs3_3, cs3_4, cs3_5⟩ := Xs3.out.cells; have B3 := Lib.hid (E1.out.trans (hb.mono E1.out.size)); have hz3 := hb.size; clear hb Ns1 E1)
        | (go_at_call 12; refine (rof_no x _ HS.out HN.out).mono ?_; rintro e w4 ⟨rfl, hb⟩; have Xs4 := Lib.hid (Xs3.out.below hb Xs3.out.lt); obtain ⟨cs4_0, cs4_1, cs4_2, cs4_3, cs4_4, cs4_5⟩ := Xs4.out.cells; have B4 := Lib.hid (B3.out.trans (hb.mono B3.out.size)); have hz4 := hb.size; clear hb Xs3 B3))
  clear hS1 c2_0 c2_1 c2_2 c2_3 c2_4 c2_5
  go_wp2_with fail
  refine (awake10_any _).mono ?_
  rintro e w5 ⟨rfl, hb⟩
  have Xs5 := Lib.hid (Xs4.out.below hb Xs4.out.lt)
  have B5 := Lib.hid (B4.out.trans (hb.mono B4.out.size))
  have hz5 := hb.size
  clear hb Xs4 B4
  go_wp2_with fail
  go_ret
  exact ⟨rfl, B5.out⟩
set_option maxRecDepth 100000 in
set_option maxHeartbeats 2000000 in
theorem runs_long (x : St) (la : Option Addr) (n lc : Nat) (f : Nat → Qu) (w : World) (hx : Ok x) (hl : 80 < n) (hm : n ≤ 9223372036854775807) :
    Calls Try.prog 4 #[.agg #[.int .i64 x.r, .int .i64 x.t, .int .i64 x.p, .int .i64 x.l, .int .i64 x.q, .int .i64 x.s], .slice la n lc] w fun e w' => e = .returned (.bool true) ∧ Below w.heap.size w w' := by
  have BB := Lib.hid (Below.refl w.heap.size w)
  have HOK := Lib.hid hx
  have d1 : decide ((80 : Int) < (n : Int)) = true := decide_eq_true (by omega)
  clear hx
  have Ns1 : Hid (KB 23 (w.alloc (.cells #[.int .i64 x.r, .int .i64 x.t, .int .i64 x.p, .int .i64 x.l, .int .i64 x.q, .int .i64 x.s] 23)) w.heap.size ⟨x.r, x.t, x.p, x.l, x.q, x.s⟩) := Lib.hid (kb_new _ w x.r x.t x.p x.l x.q x.s)
  have E1 := Lib.hid (BB.out.alloc BB.out.size (.cells #[.int .i64 x.r, .int .i64 x.t, .int .i64 x.p, .int .i64 x.l, .int .i64 x.q, .int .i64 x.s] 23))
  have hs1 := BB.out.size
  obtain ⟨S1, hS1⟩ : ∃ W, w.alloc (.cells #[.int .i64 x.r, .int .i64 x.t, .int .i64 x.p, .int .i64 x.l, .int .i64 x.q, .int .i64 x.s] 23) = W := ⟨_, rfl⟩
  have hsz1 : S1.heap.size = w.heap.size + 1 := by rw [← hS1]; simp
  have HSZ1 := Lib.hid hsz1
  have hle1 : w.heap.size < S1.heap.size := by omega
  clear hsz1
  rw [hS1] at Ns1 E1
  clear BB
  obtain ⟨c2_0, c2_1, c2_2, c2_3, c2_4, c2_5⟩ := Ns1.out.cells
  go_enter Try.func4, Try.ntmps4
  go_wp2_with fail
  go_region_held3 (fun w' => w'.cell? ⟨w.heap.size, 0, none⟩ = some (.int .i64 x.r) ∧ w'.cell? ⟨w.heap.size, 1, none⟩ = some (.int .i64 x.t) ∧ w'.cell? ⟨w.heap.size, 2, none⟩ = some (.int .i64 x.p) ∧ w'.cell? ⟨w.heap.size, 3, none⟩ = some (.int .i64 x.l) ∧ w'.cell? ⟨w.heap.size, 4, none⟩ = some (.int .i64 x.q) ∧ w'.cell? ⟨w.heap.size, 5, none⟩ = some (.int .i64 x.s)) (go_keep)
      (first
        | (go_at_call 11; refine (of_yes x _ HOK.out).mono ?_; rintro e w3 ⟨ca, rfl, hge3, hkb, hb⟩; have hb : Below S1.heap.size S1 w3 := ⟨hb.os, hb.tape, hb.output, hb.size, hb.block⟩; have hge3 : S1.heap.size ≤ ca := hge3; have Xs3 := Lib.hid (Ns1.out.below hb Ns1.out.lt); have nes3 : w.heap.size < ca := Nat.lt_of_lt_of_le Ns1.out.lt hge3; obtain ⟨cs3_0, cs3_1, cs3_2, cs3_3, cs3_4, cs3_5⟩ := Xs3.out.cells; have lw3 : w.heap.size ≤ ca := Nat.le_trans E1.out.size hge3; have Xca3 := Lib.hid hkb; have B3 := Lib.hid (E1.out.trans (hb.mono E1.out.size)); clear hb hkb Ns1 E1)
        | (go_at_call 12; refine (rof_yes x _ HOK.out).mono ?_; rintro e w4 ⟨cb, rfl, hge4, hkb, hb⟩; have Xs4 := Lib.hid (Xs3.out.below hb Xs3.out.lt); have nes4 : w.heap.size < cb := Nat.lt_of_lt_of_le Xs3.out.lt hge4; obtain ⟨cs4_0, cs4_1, cs4_2, cs4_3, cs4_4, cs4_5⟩ := Xs4.out.cells; have Xca4 := Lib.hid (Xca3.out.below hb Xca3.out.lt); have neca4 : ca < cb := Nat.lt_of_lt_of_le Xca3.out.lt hge4; have lw4 : w.heap.size ≤ cb := Nat.le_trans B3.out.size hge4; have Xcb4 := Lib.hid hkb; have B4 := Lib.hid (B3.out.trans (hb.mono B3.out.size)); clear hb hkb Xs3 Xca3 B3))
  clear hS1 c2_0 c2_1 c2_2 c2_3 c2_4 c2_5
  go_wp2_with fail
  clear cs3_0 cs3_1 cs3_2 cs3_3 cs3_4 cs3_5 cs4_0 cs4_1 cs4_2 cs4_3 cs4_4 cs4_5
  refine (awake10_any _).mono ?_
  rintro e w5 ⟨rfl, hb⟩
  have Xs5 := Lib.hid (Xs4.out.below hb Xs4.out.lt)
  have Xca5 := Lib.hid (Xca4.out.below hb Xca4.out.lt)
  have Xcb5 := Lib.hid (Xcb4.out.below hb Xcb4.out.lt)
  have B5 := Lib.hid (B4.out.trans (hb.mono B4.out.size))
  have hz5 := hb.size
  clear hb Xs4 Xca4 Xcb4 B4
  go_wp2_with fail
  go_ret
  exact ⟨rfl, B5.out⟩
set_option maxRecDepth 100000 in
set_option maxHeartbeats 2000000 in
theorem runs_ok (x : St) (la : Option Addr) (n lc : Nat) (f : Nat → Qu) (w : World) (hx : Ok x) (hl : n ≤ 80) (hr : Rd4 w w.heap.size la n f) :
    Calls Try.prog 4 #[.agg #[.int .i64 x.r, .int .i64 x.t, .int .i64 x.p, .int .i64 x.l, .int .i64 x.q, .int .i64 x.s], .slice la n lc] w fun e w' => e = .returned (.bool true) ∧ Below w.heap.size w w' := by
  have BB := Lib.hid (Below.refl w.heap.size w)
  have HOK := Lib.hid hx
  have HRd := Lib.hid hr
  have d1 : decide ((80 : Int) < (n : Int)) = false := decide_eq_false (by omega)
  clear hx hr
  have Ns1 : Hid (KB 23 (w.alloc (.cells #[.int .i64 x.r, .int .i64 x.t, .int .i64 x.p, .int .i64 x.l, .int .i64 x.q, .int .i64 x.s] 23)) w.heap.size ⟨x.r, x.t, x.p, x.l, x.q, x.s⟩) := Lib.hid (kb_new _ w x.r x.t x.p x.l x.q x.s)
  have E1 := Lib.hid (BB.out.alloc BB.out.size (.cells #[.int .i64 x.r, .int .i64 x.t, .int .i64 x.p, .int .i64 x.l, .int .i64 x.q, .int .i64 x.s] 23))
  have hs1 := BB.out.size
  obtain ⟨S1, hS1⟩ : ∃ W, w.alloc (.cells #[.int .i64 x.r, .int .i64 x.t, .int .i64 x.p, .int .i64 x.l, .int .i64 x.q, .int .i64 x.s] 23) = W := ⟨_, rfl⟩
  have hsz1 : S1.heap.size = w.heap.size + 1 := by rw [← hS1]; simp
  have HSZ1 := Lib.hid hsz1
  have hle1 : w.heap.size < S1.heap.size := by omega
  clear hsz1
  rw [hS1] at Ns1 E1
  clear BB
  obtain ⟨c2_0, c2_1, c2_2, c2_3, c2_4, c2_5⟩ := Ns1.out.cells
  go_enter Try.func4, Try.ntmps4
  go_wp2_with fail
  go_region_held3 (fun w' => w'.cell? ⟨w.heap.size, 0, none⟩ = some (.int .i64 x.r) ∧ w'.cell? ⟨w.heap.size, 1, none⟩ = some (.int .i64 x.t) ∧ w'.cell? ⟨w.heap.size, 2, none⟩ = some (.int .i64 x.p) ∧ w'.cell? ⟨w.heap.size, 3, none⟩ = some (.int .i64 x.l) ∧ w'.cell? ⟨w.heap.size, 4, none⟩ = some (.int .i64 x.q) ∧ w'.cell? ⟨w.heap.size, 5, none⟩ = some (.int .i64 x.s)) (go_keep)
      (first
        | (go_at_call 11; refine (of_yes x _ HOK.out).mono ?_; rintro e w3 ⟨ca, rfl, hge3, hkb, hb⟩; have hb : Below S1.heap.size S1 w3 := ⟨hb.os, hb.tape, hb.output, hb.size, hb.block⟩; have hge3 : S1.heap.size ≤ ca := hge3; have Xs3 := Lib.hid (Ns1.out.below hb Ns1.out.lt); have nes3 : w.heap.size < ca := Nat.lt_of_lt_of_le Ns1.out.lt hge3; obtain ⟨cs3_0, cs3_1, cs3_2, cs3_3, cs3_4, cs3_5⟩ := Xs3.out.cells; have lw3 : w.heap.size ≤ ca := Nat.le_trans E1.out.size hge3; have Xca3 := Lib.hid hkb; have B3 := Lib.hid (E1.out.trans (hb.mono E1.out.size)); clear hb hkb Ns1 E1)
        | (go_at_call 12; refine (rof_yes x _ HOK.out).mono ?_; rintro e w4 ⟨cb, rfl, hge4, hkb, hb⟩; have Xs4 := Lib.hid (Xs3.out.below hb Xs3.out.lt); have nes4 : w.heap.size < cb := Nat.lt_of_lt_of_le Xs3.out.lt hge4; obtain ⟨cs4_0, cs4_1, cs4_2, cs4_3, cs4_4, cs4_5⟩ := Xs4.out.cells; have Xca4 := Lib.hid (Xca3.out.below hb Xca3.out.lt); have neca4 : ca < cb := Nat.lt_of_lt_of_le Xca3.out.lt hge4; have lw4 : w.heap.size ≤ cb := Nat.le_trans B3.out.size hge4; have Xcb4 := Lib.hid hkb; have B4 := Lib.hid (B3.out.trans (hb.mono B3.out.size)); clear hb hkb Xs3 Xca3 B3))
  clear hS1 c2_0 c2_1 c2_2 c2_3 c2_4 c2_5
  go_wp2_with fail
  clear cs3_0 cs3_1 cs3_2 cs3_3 cs3_4 cs3_5 cs4_0 cs4_1 cs4_2 cs4_3 cs4_4 cs4_5
  have hca : w.heap.size ≤ ca := by omega
  have hcb : w.heap.size ≤ cb := by omega
  have hcc : ca < cb := by omega
  have HI : Hid (Both10 w w.heap.size ca cb w4) := Lib.hid ⟨x, HOK.out, Xca4.out, Xcb4.out, B4.out⟩
  clear Xca4 Xcb4 Xs4 B4
  go_loopw [7, 8, 9, 10, 11] (fun i _ _ _ _ wr => ∃ k : Nat, k ≤ n ∧ i = .int .i64 k ∧ Hid (Both10 w w.heap.size ca cb wr)) (fun i _ _ _ _ _ => n - (intOf i).toNat)
  case atStart => exact ⟨0, by omega, rfl, HI⟩
  case round =>
    clear HI
    obtain ⟨k, hk, rfl, HT⟩ := hrel
    by_cases hlt : k < n
    · obtain ⟨y, hyo, hya, hyb, hbel⟩ := HT.out
      obtain ⟨b, off, rfl, hbD, hcs⟩ := (HRd.out.below hbel) (by omega)
      obtain ⟨q0, q1, q2, q3⟩ := hcs k hlt
      obtain ⟨K, hK⟩ : ∃ K, (f k).k = K := ⟨_, rfl⟩
      obtain ⟨R, hR⟩ : ∃ R, (f k).r = R := ⟨_, rfl⟩
      obtain ⟨A, hA⟩ : ∃ A, (f k).a = A := ⟨_, rfl⟩
      obtain ⟨B, hB⟩ : ∃ B, (f k).b = B := ⟨_, rfl⟩
      rw [hK] at q0
      rw [hR] at q1
      rw [hA] at q2
      rw [hB] at q3
      have HYO := Lib.hid hyo
      have XA := Lib.hid hya
      have XB := Lib.hid hyb
      have BR := Lib.hid hbel
      have hsz := hbel.size
      clear hK hR hA hB hcs hyo hya hyb hbel HT
      go_wp2_with fail
      refine (call_any ca y K R A B wr HYO.out XA.out).mono ?_
      rintro e w1 ⟨rfl, hka, hg⟩
      have XA1 := Lib.hid hka
      have XB1 := Lib.hid (XB.out.grown hg (by omega))
      have B1 := Lib.hid (below_of_grown' BR.out hg hca BR.out.size)
      have e0 := ((B1.out.cell (p := ⟨b, off + k * 4, none⟩) hbD).trans (BR.out.cell (p := ⟨b, off + k * 4, none⟩) hbD).symm).trans q0
      have e1 := ((B1.out.cell (p := ⟨b, off + k * 4 + 1, none⟩) hbD).trans (BR.out.cell (p := ⟨b, off + k * 4 + 1, none⟩) hbD).symm).trans q1
      have e2 := ((B1.out.cell (p := ⟨b, off + k * 4 + 2, none⟩) hbD).trans (BR.out.cell (p := ⟨b, off + k * 4 + 2, none⟩) hbD).symm).trans q2
      have e3 := ((B1.out.cell (p := ⟨b, off + k * 4 + 3, none⟩) hbD).trans (BR.out.cell (p := ⟨b, off + k * 4 + 3, none⟩) hbD).symm).trans q3
      clear hka hg XA XB BR q0 q1 q2 q3
      obtain ⟨N1, hN1⟩ : ∃ N1, cN y K R = N1 := ⟨_, rfl⟩
      obtain ⟨M1, hM1⟩ : ∃ M1, cE y K R A B = M1 := ⟨_, rfl⟩
      have HN1 := Lib.hid hN1
      have HM1 := Lib.hid hM1
      rw [hN1, hM1]
      clear hN1 hM1
      go_wp2_with fail
      refine (spec_any cb y K R A B w1 HYO.out XB1.out).mono ?_
      rintro e w2 ⟨rfl, hkb, hg⟩
      rw [HN1.out, HM1.out]
      obtain ⟨z, hz⟩ : ∃ z, cS y K R A B = z := ⟨_, rfl⟩
      have HZO : Hid (Ok z) := Lib.hid (by rw [← hz]; exact cS_ok HYO.out)
      rw [hz] at hkb
      have XA1' := XA1.out
      rw [hz] at XA1'
      have XB2 := Lib.hid hkb
      have XA2 := Lib.hid (XA1'.grown hg (by omega))
      have B2 := Lib.hid (below_of_grown' B1.out hg hcb B1.out.size)
      clear hkb hg hz XA1 XA1' XB1 B1 e0 e1 e2 e3
      go_wp2_with fail
      refine (state_any ca z w2 XA2.out).mono ?_
      rintro e w3 ⟨rfl, hb⟩
      have XA3 := Lib.hid (XA2.out.below hb XA2.out.lt)
      have XB3 := Lib.hid (XB2.out.below hb XB2.out.lt)
      have B3 := Lib.hid (B2.out.trans (hb.mono B2.out.size))
      clear hb XA2 XB2 B2
      go_wp2_with fail
      refine (rstate_any cb z w3 XB3.out).mono ?_
      rintro e w4 ⟨rfl, hb⟩
      have XA4 := Lib.hid (XA3.out.below hb XA3.out.lt)
      have XB4 := Lib.hid (XB3.out.below hb XB3.out.lt)
      have B4 := Lib.hid (B3.out.trans (hb.mono B3.out.size))
      clear hb XA3 XB3 B3
      go_wp2_with fail
      go_roundw
      case rel => exact ⟨k + 1, by omega, by go_num, Lib.hid ⟨z, HZO.out, XA4.out, XB4.out, B4.out⟩⟩
      case measure => simp [intOf]; omega
    · obtain ⟨y, _, _, _, hbel⟩ := HT.out
      have BR := Lib.hid hbel
      clear hbel HT
      go_wp2_with fail
      refine (awake10_any wr).mono ?_
      rintro e w1 ⟨rfl, hb⟩
      have B1 := Lib.hid (BR.out.trans (hb.mono BR.out.size))
      clear hb
      go_wp2_with fail
      go_ret
      exact ⟨rfl, B1.out⟩
theorem runs_law (x : St) (la : Option Addr) (n lc : Nat) (f : Nat → Qu) (w : World) (hs : x.s ≤ 9223372036854775807) (hm : n ≤ 9223372036854775807) (hr : Rd4 w w.heap.size la n f) :
    Calls Try.prog 4 #[.agg #[.int .i64 x.r, .int .i64 x.t, .int .i64 x.p, .int .i64 x.l, .int .i64 x.q, .int .i64 x.s], .slice la n lc] w fun e w' => e = .returned (.bool true) ∧ Below w.heap.size w w' := by
  by_cases hx : Ok x
  · by_cases hl : n ≤ 80
    · exact runs_ok x la n lc f w hx hl hr
    · exact runs_long x la n lc f w hx (by omega) hm
  · exact runs_no x la n lc f w hs hx
end Go.Proofs.Ytjcpfkibaohjjaa
