/- Laws of layer 10: what is still to be slewed. -/
import Derived.Test.YtjcpfkibaohjjaaClkV
namespace Go.Proofs.Ytjcpfkibaohjjaa
open Go.RowKit Fx Ck

/-- What holds as readings go on: the clock has its first state, and what was left at the last reading. -/
def Ck.Pnd (w : World) (D c sb : Nat) (x : St) (left raw : Int) (wr : World) : Prop :=
  (x.r ≤ raw ∧ lft x raw = left) ∧ KB 51 wr c x ∧ KB 23 wr sb x ∧ Below D w wr
theorem Ck.mvS_l {x : St} {r : Int} (he : mvE x r = 0) : (mvS x r).l = lft x r := by
  have hs : mvS x r = mvG x r := if_pos he
  rw [hs]; rfl
theorem Ck.mvS_no {x : St} {r : Int} (he : ¬ mvE x r = 0) : (mvS x r).l = 0 := by
  have hs : mvS x r = zer := if_neg he
  rw [hs]; rfl
set_option maxRecDepth 100000 in
set_option maxHeartbeats 4000000 in
theorem pnd_no (x : St) (la : Option Addr) (n lc : Nat) (f : Nat → Int) (w : World) (hs : x.s ≤ 9223372036854775807) (hn : ¬ Ok x) :
    Calls Try.prog 8 #[.agg #[.int .i64 x.r, .int .i64 x.t, .int .i64 x.p, .int .i64 x.l, .int .i64 x.q, .int .i64 x.s], .slice la n lc] w fun e w' => e = .returned (.bool true) ∧ Below w.heap.size w w' := by
  have BB := Lib.hid (Below.refl w.heap.size w)
  have HS := Lib.hid hs
  have HN := Lib.hid hn
  clear hs hn
  have Ns1 : Hid (KB 23 (w.alloc (.cells #[.int .i64 x.r, .int .i64 x.t, .int .i64 x.p, .int .i64 x.l, .int .i64 x.q, .int .i64 x.s] 23)) w.heap.size ⟨x.r, x.t, x.p, x.l, x.q, x.s⟩) := Lib.hid (kb_new _ w x.r x.t x.p x.l x.q x.s)
  have E1 := Lib.hid (BB.out.alloc BB.out.size (.cells #[.int .i64 x.r, .int .i64 x.t, .int .i64 x.p, .int .i64 x.l, .int .i64 x.q, .int .i64 x.s] 23))
  have hs1 := BB.out.size
  obtain ⟨S1, hS1⟩ : ∃ W, w.alloc (.cells #[.int .i64 x.r, .int .i64 x.t, .int .i64 x.p, .int .i64 x.l, .int .i64 x.q, .int .i64 x.s] 23) = W := ⟨_, rfl⟩
  have hsz1 : S1.heap.size = w.heap.size + 1 := by rw [← hS1]; simp
  have HSZ1 := Lib.hid hsz1
  have hle1 : w.heap.size < S1.heap.size := by omega
  clear hsz1
  rw [hS1] at Ns1 E1
  clear BB
  obtain ⟨c2_0, c2_1, c2_2, c2_3, c2_4, c2_5⟩ := Ns1.out.cells
  go_enter Try.func8, Try.ntmps8
  go_wp2_with fail
  clear hS1 c2_0 c2_1 c2_2 c2_3 c2_4 c2_5
  refine (of_no x _ HS.out HN.out).mono ?_
  rintro e w3 ⟨rfl, hb⟩
  have Xs3 := Lib.hid (Ns1.out.below hb Ns1.out.lt)
  have B3 := Lib.hid (E1.out.trans (hb.mono E1.out.size))
  have hz3 := hb.size
  clear hb Ns1 E1
  go_wp2_with fail
  refine (awake10_any _).mono ?_
  rintro e w4 ⟨rfl, hb⟩
  have Xs4 := Lib.hid (Xs3.out.below hb Xs3.out.lt)
  have B4 := Lib.hid (B3.out.trans (hb.mono B3.out.size))
  have hz4 := hb.size
  clear hb Xs3 B3
  go_wp2_with fail
  go_ret
  exact ⟨rfl, B4.out⟩
set_option maxRecDepth 100000 in
set_option maxHeartbeats 4000000 in
theorem pnd_long (x : St) (la : Option Addr) (n lc : Nat) (f : Nat → Int) (w : World) (hx : Ok x) (hl : 50 < n) (hm : n ≤ 9223372036854775807) :
    Calls Try.prog 8 #[.agg #[.int .i64 x.r, .int .i64 x.t, .int .i64 x.p, .int .i64 x.l, .int .i64 x.q, .int .i64 x.s], .slice la n lc] w fun e w' => e = .returned (.bool true) ∧ Below w.heap.size w w' := by
  have BB := Lib.hid (Below.refl w.heap.size w)
  have HOK := Lib.hid hx
  have d1 : decide ((50 : Int) < (n : Int)) = true := decide_eq_true (by omega)
  clear hx
  have Ns1 : Hid (KB 23 (w.alloc (.cells #[.int .i64 x.r, .int .i64 x.t, .int .i64 x.p, .int .i64 x.l, .int .i64 x.q, .int .i64 x.s] 23)) w.heap.size ⟨x.r, x.t, x.p, x.l, x.q, x.s⟩) := Lib.hid (kb_new _ w x.r x.t x.p x.l x.q x.s)
  have E1 := Lib.hid (BB.out.alloc BB.out.size (.cells #[.int .i64 x.r, .int .i64 x.t, .int .i64 x.p, .int .i64 x.l, .int .i64 x.q, .int .i64 x.s] 23))
  have hs1 := BB.out.size
  obtain ⟨S1, hS1⟩ : ∃ W, w.alloc (.cells #[.int .i64 x.r, .int .i64 x.t, .int .i64 x.p, .int .i64 x.l, .int .i64 x.q, .int .i64 x.s] 23) = W := ⟨_, rfl⟩
  have hsz1 : S1.heap.size = w.heap.size + 1 := by rw [← hS1]; simp
  have HSZ1 := Lib.hid hsz1
  have hle1 : w.heap.size < S1.heap.size := by omega
  clear hsz1
  rw [hS1] at Ns1 E1
  clear BB
  obtain ⟨c2_0, c2_1, c2_2, c2_3, c2_4, c2_5⟩ := Ns1.out.cells
  go_enter Try.func8, Try.ntmps8
  go_wp2_with fail
  clear hS1 c2_0 c2_1 c2_2 c2_3 c2_4 c2_5
  refine (of_yes x _ HOK.out).mono ?_
  rintro e w3 ⟨c, rfl, hge3, hkb, hb⟩
  have Xs3 := Lib.hid (Ns1.out.below hb Ns1.out.lt)
  have nes3 : w.heap.size < c := Nat.lt_of_lt_of_le Ns1.out.lt hge3
  have lw3 : w.heap.size ≤ c := Nat.le_trans E1.out.size hge3
  have Xc3 := Lib.hid hkb
  have B3 := Lib.hid (E1.out.trans (hb.mono E1.out.size))
  clear hb hkb Ns1 E1
  go_wp2_with fail
  refine (awake10_any _).mono ?_
  rintro e w4 ⟨rfl, hb⟩
  have Xs4 := Lib.hid (Xs3.out.below hb Xs3.out.lt)
  have Xc4 := Lib.hid (Xc3.out.below hb Xc3.out.lt)
  have B4 := Lib.hid (B3.out.trans (hb.mono B3.out.size))
  have hz4 := hb.size
  clear hb Xs3 Xc3 B3
  go_wp2_with fail
  go_ret
  exact ⟨rfl, B4.out⟩
set_option maxRecDepth 100000 in
set_option maxHeartbeats 4000000 in
theorem pnd_ok (x : St) (la : Option Addr) (n lc : Nat) (f : Nat → Int) (w : World) (hx : Ok x) (hl : n ≤ 50) (hr : Rd1 w w.heap.size la n f) (hfb : ∀ i, i < n → (-9223372036854775808 ≤ f i ∧ f i ≤ 9223372036854775807)) :
    Calls Try.prog 8 #[.agg #[.int .i64 x.r, .int .i64 x.t, .int .i64 x.p, .int .i64 x.l, .int .i64 x.q, .int .i64 x.s], .slice la n lc] w fun e w' => e = .returned (.bool true) ∧ Below w.heap.size w w' := by
  have BB := Lib.hid (Below.refl w.heap.size w)
  have HOK := Lib.hid hx
  have HRd := Lib.hid hr
  have HFb := Lib.hid hfb
  have d1 : decide ((50 : Int) < (n : Int)) = false := decide_eq_false (by omega)
  clear hx hr hfb
  have Ns1 : Hid (KB 23 (w.alloc (.cells #[.int .i64 x.r, .int .i64 x.t, .int .i64 x.p, .int .i64 x.l, .int .i64 x.q, .int .i64 x.s] 23)) w.heap.size ⟨x.r, x.t, x.p, x.l, x.q, x.s⟩) := Lib.hid (kb_new _ w x.r x.t x.p x.l x.q x.s)
  have E1 := Lib.hid (BB.out.alloc BB.out.size (.cells #[.int .i64 x.r, .int .i64 x.t, .int .i64 x.p, .int .i64 x.l, .int .i64 x.q, .int .i64 x.s] 23))
  have hs1 := BB.out.size
  obtain ⟨S1, hS1⟩ : ∃ W, w.alloc (.cells #[.int .i64 x.r, .int .i64 x.t, .int .i64 x.p, .int .i64 x.l, .int .i64 x.q, .int .i64 x.s] 23) = W := ⟨_, rfl⟩
  have hsz1 : S1.heap.size = w.heap.size + 1 := by rw [← hS1]; simp
  have HSZ1 := Lib.hid hsz1
  have hle1 : w.heap.size < S1.heap.size := by omega
  clear hsz1
  rw [hS1] at Ns1 E1
  clear BB
  obtain ⟨c2_0, c2_1, c2_2, c2_3, c2_4, c2_5⟩ := Ns1.out.cells
  go_enter Try.func8, Try.ntmps8
  go_wp2_with fail
  clear hS1 c2_0 c2_1 c2_2 c2_3 c2_4 c2_5
  refine (of_yes x _ HOK.out).mono ?_
  rintro e w3 ⟨c, rfl, hge3, hkb, hb⟩
  have Xs3 := Lib.hid (Ns1.out.below hb Ns1.out.lt)
  have nes3 : w.heap.size < c := Nat.lt_of_lt_of_le Ns1.out.lt hge3
  have lw3 : w.heap.size ≤ c := Nat.le_trans E1.out.size hge3
  have Xc3 := Lib.hid hkb
  have B3 := Lib.hid (E1.out.trans (hb.mono E1.out.size))
  clear hb hkb Ns1 E1
  obtain ⟨c4_0, c4_1, c4_2, c4_3, c4_4, c4_5⟩ := Xs3.out.cells
  go_wp2_with fail
  go_quiet (fail)
  clear c4_0 c4_1 c4_2 c4_3 c4_4 c4_5
  have Qs5 := Lib.hid (Xs3.out.drewN nq)
  have Qc5 := Lib.hid (Xc3.out.drewN nq)
  have QB5 := Lib.hid (blwn B3.out nq)
  have hqs5 : w3.heap.size ≤ (w3.drewN nq).heap.size := Nat.le_refl _
  obtain ⟨Q5, hQ⟩ : ∃ W, w3.drewN nq = W := ⟨_, rfl⟩
  rw [hQ] at Qs5 Qc5 QB5 hqs5 ⊢
  clear hQ Xs3 Xc3 B3
  have hc : w.heap.size ≤ c := by omega
  have hsc : w.heap.size < c := by omega
  have HI : Hid (Pnd w w.heap.size c w.heap.size x x.l x.r Q5) := Lib.hid ⟨⟨Int.le_refl _, by unfold lft; rw [Int.sub_self, slw_nil]; omega⟩, Qc5.out, Qs5.out, QB5.out⟩
  clear Qc5 Qs5 QB5
  go_wp2_with fail
  go_loopw [6, 7, 8, 9, 10, 11] (fun le ra i _ _ _ wr => ∃ (k : Nat) (left raw : Int), k ≤ n ∧ i = .int .i64 k ∧ le = .int .i64 left ∧ ra = .int .i64 raw ∧ Hid (Pnd w w.heap.size c w.heap.size x left raw wr)) (fun _ _ i _ _ _ _ => n - (intOf i).toNat)
  case atStart => exact ⟨0, _, _, by omega, rfl, rfl, rfl, HI⟩
  case round =>
    clear HI
    obtain ⟨k, left, raw, hk, rfl, rfl, rfl, HT⟩ := hrel
    by_cases hlt : k < n
    · obtain ⟨⟨hxr, hlf⟩, hya, hsb, hbel⟩ := HT.out
      obtain ⟨b, off, rfl, hbD, hcs⟩ := (HRd.out.below hbel) (by omega)
      have q0 := hcs k hlt
      obtain ⟨rb0, rb1⟩ := HFb.out k hlt
      obtain ⟨R, hR⟩ : ∃ R, f k = R := ⟨_, rfl⟩
      rw [hR] at q0 rb0 rb1
      have XC := Lib.hid hya
      have XS := Lib.hid hsb
      have BR := Lib.hid hbel
      have HLF := Lib.hid hlf
      have hsz := hbel.size
      clear hR hcs hya hsb hbel hlf HT
      by_cases he : mvE x R = 0
      · have HE := Lib.hid he
        obtain ⟨N, hN⟩ : ∃ N, lft x R = N := ⟨_, rfl⟩
        have HP := Lib.hid ((mvS_l he).trans hN)
        have HLR := Lib.hid hN
        by_cases hRr : R < raw
        · have d2 : decide (R < raw) = true := decide_eq_true hRr
          clear he hN
          go_wp2_with fail
          refine (now_any c x R wr HOK.out XC.out).mono ?_
          rintro e w1 ⟨rfl, hb⟩
          have XC1 := Lib.hid (XC.out.below hb XC.out.lt)
          have XS1 := Lib.hid (XS.out.below hb XS.out.lt)
          have B1 := Lib.hid (BR.out.trans (hb.mono BR.out.size))
          have e0 := ((B1.out.cell (p := ⟨b, off + k, none⟩) hbD).trans (BR.out.cell (p := ⟨b, off + k, none⟩) hbD).symm).trans q0
          clear hb XC XS BR q0
          rw [HE.out]
          obtain ⟨T, hT⟩ : ∃ T, (mvS x R).t = T := ⟨_, rfl⟩
          rw [hT]
          clear hT
          go_wp2_with fail
          refine (pend_any c x R w1 HOK.out XC1.out).mono ?_
          rintro e w2 ⟨rfl, hb⟩
          have XC2 := Lib.hid (XC1.out.below hb XC1.out.lt)
          have XS2 := Lib.hid (XS1.out.below hb XS1.out.lt)
          have B2 := Lib.hid (B1.out.trans (hb.mono B1.out.size))
          have g0 := ((B2.out.cell (p := ⟨b, off + k, none⟩) hbD).trans (B1.out.cell (p := ⟨b, off + k, none⟩) hbD).symm).trans e0
          clear hb XC1 XS1 B1 e0
          rw [HP.out]
          go_wp2_with fail
          go_roundw
          case rel => exact ⟨k + 1, left, raw, by omega, by go_num, rfl, rfl, Lib.hid ⟨⟨hxr, HLF.out⟩, XC2.out, XS2.out, B2.out⟩⟩
          case measure => simp [intOf]; omega
        · have d2 : decide (R < raw) = false := decide_eq_false hRr
          have hm := lft_mono (y := x) (r1 := raw) (r2 := R) HOK.out hxr (by omega)
          rw [HLF.out, hN] at hm
          obtain ⟨m1, m2⟩ := hm
          rcases Int.lt_trichotomy left 0 with hs | hs | hs
          · obtain ⟨m3, m4⟩ := m2 (by omega)
            have g1 : decide (0 ≤ left) = false := decide_eq_false (by omega)
            have g2 : decide (left ≤ 0) = true := decide_eq_true (by omega)
            have g3 : decide (0 < N) = false := decide_eq_false (by omega)
            have g4 : decide (N < left) = false := decide_eq_false (by omega)
            clear he hN m1 m2
            go_wp2_with fail
            refine (now_any c x R wr HOK.out XC.out).mono ?_
            rintro e w1 ⟨rfl, hb⟩
            have XC1 := Lib.hid (XC.out.below hb XC.out.lt)
            have XS1 := Lib.hid (XS.out.below hb XS.out.lt)
            have B1 := Lib.hid (BR.out.trans (hb.mono BR.out.size))
            have e0 := ((B1.out.cell (p := ⟨b, off + k, none⟩) hbD).trans (BR.out.cell (p := ⟨b, off + k, none⟩) hbD).symm).trans q0
            clear hb XC XS BR q0
            rw [HE.out]
            obtain ⟨T, hT⟩ : ∃ T, (mvS x R).t = T := ⟨_, rfl⟩
            rw [hT]
            clear hT
            go_wp2_with fail
            refine (pend_any c x R w1 HOK.out XC1.out).mono ?_
            rintro e w2 ⟨rfl, hb⟩
            have XC2 := Lib.hid (XC1.out.below hb XC1.out.lt)
            have XS2 := Lib.hid (XS1.out.below hb XS1.out.lt)
            have B2 := Lib.hid (B1.out.trans (hb.mono B1.out.size))
            have g0 := ((B2.out.cell (p := ⟨b, off + k, none⟩) hbD).trans (B1.out.cell (p := ⟨b, off + k, none⟩) hbD).symm).trans e0
            clear hb XC1 XS1 B1 e0
            rw [HP.out]
            go_wp2_with fail
            go_roundw
            case rel => exact ⟨k + 1, N, R, by omega, by go_num, rfl, rfl, Lib.hid ⟨⟨(mvE_iff.1 HE.out).1, HLR.out⟩, XC2.out, XS2.out, B2.out⟩⟩
            case measure => simp [intOf]; omega
          · subst hs
            obtain ⟨m3, m4⟩ := m2 (by omega)
            obtain rfl : N = 0 := by have := m1 (by omega); omega
            clear he hN m1 m2
            go_wp2_with fail
            refine (now_any c x R wr HOK.out XC.out).mono ?_
            rintro e w1 ⟨rfl, hb⟩
            have XC1 := Lib.hid (XC.out.below hb XC.out.lt)
            have XS1 := Lib.hid (XS.out.below hb XS.out.lt)
            have B1 := Lib.hid (BR.out.trans (hb.mono BR.out.size))
            have e0 := ((B1.out.cell (p := ⟨b, off + k, none⟩) hbD).trans (BR.out.cell (p := ⟨b, off + k, none⟩) hbD).symm).trans q0
            clear hb XC XS BR q0
            rw [HE.out]
            obtain ⟨T, hT⟩ : ∃ T, (mvS x R).t = T := ⟨_, rfl⟩
            rw [hT]
            clear hT
            go_wp2_with fail
            refine (pend_any c x R w1 HOK.out XC1.out).mono ?_
            rintro e w2 ⟨rfl, hb⟩
            have XC2 := Lib.hid (XC1.out.below hb XC1.out.lt)
            have XS2 := Lib.hid (XS1.out.below hb XS1.out.lt)
            have B2 := Lib.hid (B1.out.trans (hb.mono B1.out.size))
            have g0 := ((B2.out.cell (p := ⟨b, off + k, none⟩) hbD).trans (B1.out.cell (p := ⟨b, off + k, none⟩) hbD).symm).trans e0
            clear hb XC1 XS1 B1 e0
            rw [HP.out]
            go_wp2_with fail
            go_roundw
            case rel => exact ⟨k + 1, 0, R, by omega, by go_num, rfl, rfl, Lib.hid ⟨⟨(mvE_iff.1 HE.out).1, HLR.out⟩, XC2.out, XS2.out, B2.out⟩⟩
            case measure => simp [intOf]; omega
          · obtain ⟨m3, m4⟩ := m1 (by omega)
            have g1 : decide (0 ≤ left) = true := decide_eq_true (by omega)
            have g2 : decide (left ≤ 0) = false := decide_eq_false (by omega)
            have g3 : decide (N < 0) = false := decide_eq_false (by omega)
            have g4 : decide (left < N) = false := decide_eq_false (by omega)
            clear he hN m1 m2
            go_wp2_with fail
            refine (now_any c x R wr HOK.out XC.out).mono ?_
            rintro e w1 ⟨rfl, hb⟩
            have XC1 := Lib.hid (XC.out.below hb XC.out.lt)
            have XS1 := Lib.hid (XS.out.below hb XS.out.lt)
            have B1 := Lib.hid (BR.out.trans (hb.mono BR.out.size))
            have e0 := ((B1.out.cell (p := ⟨b, off + k, none⟩) hbD).trans (BR.out.cell (p := ⟨b, off + k, none⟩) hbD).symm).trans q0
            clear hb XC XS BR q0
            rw [HE.out]
            obtain ⟨T, hT⟩ : ∃ T, (mvS x R).t = T := ⟨_, rfl⟩
            rw [hT]
            clear hT
            go_wp2_with fail
            refine (pend_any c x R w1 HOK.out XC1.out).mono ?_
            rintro e w2 ⟨rfl, hb⟩
            have XC2 := Lib.hid (XC1.out.below hb XC1.out.lt)
            have XS2 := Lib.hid (XS1.out.below hb XS1.out.lt)
            have B2 := Lib.hid (B1.out.trans (hb.mono B1.out.size))
            have g0 := ((B2.out.cell (p := ⟨b, off + k, none⟩) hbD).trans (B1.out.cell (p := ⟨b, off + k, none⟩) hbD).symm).trans e0
            clear hb XC1 XS1 B1 e0
            rw [HP.out]
            go_wp2_with fail
            go_roundw
            case rel => exact ⟨k + 1, N, R, by omega, by go_num, rfl, rfl, Lib.hid ⟨⟨(mvE_iff.1 HE.out).1, HLR.out⟩, XC2.out, XS2.out, B2.out⟩⟩
            case measure => simp [intOf]; omega
      · obtain ⟨E, hE⟩ : ∃ E, mvE x R = E := ⟨_, rfl⟩
        have HP := Lib.hid (mvS_no he)
        rw [hE] at he
        have d4 : (E == 0) = false := by simpa using he
        have d5 : (E != 0) = true := by simpa using he
        have HE := Lib.hid hE
        clear he hE
        go_wp2_with fail
        refine (now_any c x R wr HOK.out XC.out).mono ?_
        rintro e w1 ⟨rfl, hb⟩
        have XC1 := Lib.hid (XC.out.below hb XC.out.lt)
        have XS1 := Lib.hid (XS.out.below hb XS.out.lt)
        have B1 := Lib.hid (BR.out.trans (hb.mono BR.out.size))
        have e0 := ((B1.out.cell (p := ⟨b, off + k, none⟩) hbD).trans (BR.out.cell (p := ⟨b, off + k, none⟩) hbD).symm).trans q0
        clear hb XC XS BR q0
        rw [HE.out]
        obtain ⟨T, hT⟩ : ∃ T, (mvS x R).t = T := ⟨_, rfl⟩
        rw [hT]
        clear hT
        go_wp2_with fail
        refine (pend_any c x R w1 HOK.out XC1.out).mono ?_
        rintro e w2 ⟨rfl, hb⟩
        have XC2 := Lib.hid (XC1.out.below hb XC1.out.lt)
        have XS2 := Lib.hid (XS1.out.below hb XS1.out.lt)
        have B2 := Lib.hid (B1.out.trans (hb.mono B1.out.size))
        have g0 := ((B2.out.cell (p := ⟨b, off + k, none⟩) hbD).trans (B1.out.cell (p := ⟨b, off + k, none⟩) hbD).symm).trans e0
        clear hb XC1 XS1 B1 e0
        rw [HP.out]
        go_wp2_with fail
        go_roundw
        case rel => exact ⟨k + 1, left, raw, by omega, by go_num, rfl, rfl, Lib.hid ⟨⟨hxr, HLF.out⟩, XC2.out, XS2.out, B2.out⟩⟩
        case measure => simp [intOf]; omega
    · obtain ⟨_, hya, hsb, hbel⟩ := HT.out
      have XC := Lib.hid hya
      have XS := Lib.hid hsb
      have BR := Lib.hid hbel
      have hsz := hbel.size
      clear hya hsb hbel HT
      obtain ⟨c0, c1, c2, c3, c4, c5⟩ := XS.out.cells
      go_wp2_with fail
      go_region_held3 (fun w' => w'.cell? ⟨w.heap.size, 0, none⟩ = some (.int .i64 x.r) ∧ w'.cell? ⟨w.heap.size, 1, none⟩ = some (.int .i64 x.t) ∧ w'.cell? ⟨w.heap.size, 2, none⟩ = some (.int .i64 x.p) ∧ w'.cell? ⟨w.heap.size, 3, none⟩ = some (.int .i64 x.l) ∧ w'.cell? ⟨w.heap.size, 4, none⟩ = some (.int .i64 x.q) ∧ w'.cell? ⟨w.heap.size, 5, none⟩ = some (.int .i64 x.s)) (go_keep)
          (first
            | (go_at_call 13; refine (state_any c x _ ?_).mono ?_; exact XC.out; rintro e w1 ⟨rfl, hb⟩; have hb : Below wr.heap.size wr w1 := ⟨hb.os, hb.tape, hb.output, hb.size, hb.block⟩; have XS1 := Lib.hid (XS.out.below hb XS.out.lt); obtain ⟨d0, d1', d2, d3, d4, d5⟩ := XS1.out.cells; have B1 := Lib.hid (BR.out.trans (hb.mono BR.out.size)); clear hb XS BR)
            | (go_at_call 16; refine (awake10_any _).mono ?_; rintro e w2 ⟨rfl, hb⟩; have XS2 := Lib.hid (XS1.out.below hb XS1.out.lt); obtain ⟨a0, a1, a2, a3, a4, a5⟩ := XS2.out.cells; have B2 := Lib.hid (B1.out.trans (hb.mono B1.out.size)); clear hb XS1 B1))
      go_wp2_with fail
      go_ret
      exact ⟨rfl, B2.out⟩
theorem pnd_law (x : St) (la : Option Addr) (n lc : Nat) (f : Nat → Int) (w : World) (hs : x.s ≤ 9223372036854775807) (hm : n ≤ 9223372036854775807) (hr : Rd1 w w.heap.size la n f) (hfb : ∀ i, i < n → (-9223372036854775808 ≤ f i ∧ f i ≤ 9223372036854775807)) :
    Calls Try.prog 8 #[.agg #[.int .i64 x.r, .int .i64 x.t, .int .i64 x.p, .int .i64 x.l, .int .i64 x.q, .int .i64 x.s], .slice la n lc] w fun e w' => e = .returned (.bool true) ∧ Below w.heap.size w w' := by
  by_cases hx : Ok x
  · by_cases hl : n ≤ 50
    · exact pnd_ok x la n lc f w hx hl hr hfb
    · exact pnd_long x la n lc f w hx (by omega) hm
  · exact pnd_no x la n lc f w hs hx
end Go.Proofs.Ytjcpfkibaohjjaa
