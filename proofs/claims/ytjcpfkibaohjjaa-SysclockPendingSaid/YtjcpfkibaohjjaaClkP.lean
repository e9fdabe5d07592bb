/- Laws of layer 10: nobody, refusals. -/
import Derived.Test.YtjcpfkibaohjjaaClkO
namespace Go.Proofs.Ytjcpfkibaohjjaa
open Go.RowKit Fx Ck

set_option maxRecDepth 100000 in
theorem nobody_law (k r a b : Int) (w : World) :
    Calls Try.prog 10 #[.agg #[.int .i64 k, .int .i64 r, .int .i64 a, .int .i64 b]] w fun e w' => e = .returned (.bool true) ∧ Below w.heap.size w w' := by
  have BB := Lib.hid (Below.refl w.heap.size w)
  have No1 : Hid (OB 38 (w.alloc (.cells #[.int .i64 k, .int .i64 r, .int .i64 a, .int .i64 b] 38)) w.heap.size k r a b) := Lib.hid (ob_new _ w k r a b)
  have E1 := Lib.hid (BB.out.alloc BB.out.size (.cells #[.int .i64 k, .int .i64 r, .int .i64 a, .int .i64 b] 38))
  have hs1 := BB.out.size
  obtain ⟨S1, hS1⟩ : ∃ W, w.alloc (.cells #[.int .i64 k, .int .i64 r, .int .i64 a, .int .i64 b] 38) = W := ⟨_, rfl⟩
  have hsz1 : S1.heap.size = w.heap.size + 1 := by rw [← hS1]; simp
  have HSZ1 := Lib.hid hsz1
  have hle1 : w.heap.size < S1.heap.size := by omega
  clear hsz1
  rw [hS1] at No1 E1
  clear BB
  obtain ⟨c2_0, c2_1, c2_2, c2_3⟩ := No1.out.cells
  go_enter Try.func10, Try.ntmps10
  go_wp2_with fail
  clear hS1 c2_0 c2_1 c2_2 c2_3
  refine (now_nil r _).mono ?_
  rintro e w' ⟨rfl, rfl⟩
  obtain ⟨c3_0, c3_1, c3_2, c3_3⟩ := No1.out.cells
  go_wp2_with fail
  clear c3_0 c3_1 c3_2 c3_3
  refine (freq_nil r a _).mono ?_
  rintro e w4 ⟨rfl, hb⟩
  have Xo4 := Lib.hid (No1.out.below hb No1.out.lt)
  have B4 := Lib.hid (E1.out.trans (hb.mono E1.out.size))
  have hz4 := hb.size
  clear hb No1 E1
  obtain ⟨c5_0, c5_1, c5_2, c5_3⟩ := Xo4.out.cells
  go_wp2_with fail
  clear c5_0 c5_1 c5_2 c5_3
  refine (slew_nil r a b _).mono ?_
  rintro e w6 ⟨rfl, hb⟩
  have Xo6 := Lib.hid (Xo4.out.below hb Xo4.out.lt)
  have B6 := Lib.hid (B4.out.trans (hb.mono B4.out.size))
  have hz6 := hb.size
  clear hb Xo4 B4
  obtain ⟨c7_0, c7_1, c7_2, c7_3⟩ := Xo6.out.cells
  go_wp2_with fail
  clear c7_0 c7_1 c7_2 c7_3
  refine (step_nil r a _).mono ?_
  rintro e w8 ⟨rfl, hb⟩
  have Xo8 := Lib.hid (Xo6.out.below hb Xo6.out.lt)
  have B8 := Lib.hid (B6.out.trans (hb.mono B6.out.size))
  have hz8 := hb.size
  clear hb Xo6 B6
  obtain ⟨c9_0, c9_1, c9_2, c9_3⟩ := Xo8.out.cells
  go_wp2_with fail
  clear c9_0 c9_1 c9_2 c9_3
  refine (pend_nil r _).mono ?_
  rintro e w' ⟨rfl, rfl⟩
  obtain ⟨c10_0, c10_1, c10_2, c10_3⟩ := Xo8.out.cells
  go_wp2_with fail
  clear c10_0 c10_1 c10_2 c10_3
  refine (state_nil _).mono ?_
  rintro e w11 ⟨rfl, hb⟩
  have Xo11 := Lib.hid (Xo8.out.below hb Xo8.out.lt)
  have B11 := Lib.hid (B8.out.trans (hb.mono B8.out.size))
  have hz11 := hb.size
  clear hb Xo8 B8
  obtain ⟨c12_0, c12_1, c12_2, c12_3⟩ := Xo11.out.cells
  go_wp2_with fail
  clear c12_0 c12_1 c12_2 c12_3
  refine (awake10_any _).mono ?_
  rintro e w13 ⟨rfl, hb⟩
  have Xo13 := Lib.hid (Xo11.out.below hb Xo11.out.lt)
  have B13 := Lib.hid (B11.out.trans (hb.mono B11.out.size))
  have hz13 := hb.size
  clear hb Xo11 B11
  obtain ⟨c14_0, c14_1, c14_2, c14_3⟩ := Xo13.out.cells
  go_wp2_with fail
  go_ret
  exact ⟨rfl, B13.out⟩
set_option maxRecDepth 100000 in
set_option maxHeartbeats 1000000 in
theorem refuses_no (x : St) (k r a b : Int) (w : World) (hs : x.s ≤ 9223372036854775807) (hn : ¬ Ok x) :
    Calls Try.prog 9 #[.agg #[.int .i64 x.r, .int .i64 x.t, .int .i64 x.p, .int .i64 x.l, .int .i64 x.q, .int .i64 x.s], .agg #[.int .i64 k, .int .i64 r, .int .i64 a, .int .i64 b]] w fun e w' => e = .returned (.bool true) ∧ Below w.heap.size w w' := by
  have BB := Lib.hid (Below.refl w.heap.size w)
  have HS := Lib.hid hs
  have HN := Lib.hid hn
  clear hs hn
  have Ns1 : Hid (KB 23 (w.alloc (.cells #[.int .i64 x.r, .int .i64 x.t, .int .i64 x.p, .int .i64 x.l, .int .i64 x.q, .int .i64 x.s] 23)) w.heap.size ⟨x.r, x.t, x.p, x.l, x.q, x.s⟩) := Lib.hid (kb_new _ w x.r x.t x.p x.l x.q x.s)
  have E1 := Lib.hid (BB.out.alloc BB.out.size (.cells #[.int .i64 x.r, .int .i64 x.t, .int .i64 x.p, .int .i64 x.l, .int .i64 x.q, .int .i64 x.s] 23))
  have hs1 := BB.out.size
  obtain ⟨S1, hS1⟩ : ∃ W, w.alloc (.cells #[.int .i64 x.r, .int .i64 x.t, .int .i64 x.p, .int .i64 x.l, .int .i64 x.q, .int .i64 x.s] 23) = W := ⟨_, rfl⟩
  have hsz1 : S1.heap.size = w.heap.size + 1 := by rw [← hS1]; simp
  have HSZ1 := Lib.hid hsz1
  have hle1 : w.heap.size < S1.heap.size := by omega
  clear hsz1
  rw [hS1] at Ns1 E1
  clear BB
  have No2 : Hid (OB 38 (S1.alloc (.cells #[.int .i64 k, .int .i64 r, .int .i64 a, .int .i64 b] 38)) S1.heap.size k r a b) := Lib.hid (ob_new _ S1 k r a b)
  have ls2 := Ns1.out.lt
  have Ns2 := Lib.hid (Ns1.out.alloc (.cells #[.int .i64 k, .int .i64 r, .int .i64 a, .int .i64 b] 38))
  have E2 := Lib.hid (E1.out.alloc E1.out.size (.cells #[.int .i64 k, .int .i64 r, .int .i64 a, .int .i64 b] 38))
  have hs2 := E1.out.size
  obtain ⟨S2, hS2⟩ : ∃ W, S1.alloc (.cells #[.int .i64 k, .int .i64 r, .int .i64 a, .int .i64 b] 38) = W := ⟨_, rfl⟩
  have hsz2 : S2.heap.size = S1.heap.size + 1 := by rw [← hS2]; simp
  have HSZ2 := Lib.hid hsz2
  have hle2 : S1.heap.size < S2.heap.size := by omega
  clear hsz2
  rw [hS2] at No2 Ns2 E2
  clear Ns1 E1
  obtain ⟨c3_0, c3_1, c3_2, c3_3, c3_4, c3_5⟩ := Ns2.out.cells
  go_enter Try.func9, Try.ntmps9
  go_wp2_with fail
  clear hS1 hS2 c3_0 c3_1 c3_2 c3_3 c3_4 c3_5
  refine (of_no x _ HS.out HN.out).mono ?_
  rintro e w4 ⟨rfl, hb⟩
  have Xs4 := Lib.hid (Ns2.out.below hb Ns2.out.lt)
  have Xo4 := Lib.hid (No2.out.below hb No2.out.lt)
  have B4 := Lib.hid (E2.out.trans (hb.mono E2.out.size))
  have hz4 := hb.size
  clear hb Ns2 No2 E2
  go_wp2_with fail
  refine (awake10_any _).mono ?_
  rintro e w5 ⟨rfl, hb⟩
  have Xs5 := Lib.hid (Xs4.out.below hb Xs4.out.lt)
  have Xo5 := Lib.hid (Xo4.out.below hb Xo4.out.lt)
  have B5 := Lib.hid (B4.out.trans (hb.mono B4.out.size))
  have hz5 := hb.size
  clear hb Xs4 Xo4 B4
  go_wp2_with fail
  go_ret
  exact ⟨rfl, B5.out⟩
theorem Ck.cE_err {x : St} {k r a b : Int} (h0 : 0 ≤ k) (h3 : k ≤ 3) (he : ¬ cE x k r a b = 0) : cN x k r = 0 ∧ cS x k r a b = x := by
  unfold cE at he
  unfold cN cS
  by_cases k0 : k = 0
  · subst k0
    rw [if_pos rfl] at he
    rw [if_pos rfl, if_neg (by decide), if_neg (by decide), if_neg (by decide)]
    exact ⟨by unfold mvS; rw [if_neg he]; rfl, rfl⟩
  · rw [if_neg k0] at he ⊢
    by_cases k1 : k = 1
    · rw [if_pos k1] at he; rw [if_pos k1, if_pos k1]; exact ⟨rfl, if_neg he⟩
    · rw [if_neg k1] at he; rw [if_neg k1, if_neg k1]
      by_cases k2 : k = 2
      · rw [if_pos k2] at he; rw [if_pos k2, if_pos k2]; exact ⟨rfl, if_neg he⟩
      · rw [if_neg k2] at he; rw [if_neg k2, if_neg k2]
        have k3 : k = 3 := by omega
        rw [if_pos k3] at he; rw [if_pos k3, if_pos k3]; exact ⟨rfl, if_neg he⟩
theorem Ck.mvE_late {x : St} {r : Int} (h : 4503599627370496 < r) (h0 : ¬ r < x.r) : mvE x r = 3 := (if_neg h0).trans (if_pos h)
theorem Ck.mvE_early {x : St} {r : Int} (h0 : r < x.r) : mvE x r = 12 := if_pos h0
set_option maxRecDepth 100000 in
set_option maxHeartbeats 1000000 in
theorem refuses_outa_early (x : St) (k r a b : Int) (w : World) (hx : Ok x) (hk : k < 0) (hr : r < x.r) :
    Calls Try.prog 9 #[.agg #[.int .i64 x.r, .int .i64 x.t, .int .i64 x.p, .int .i64 x.l, .int .i64 x.q, .int .i64 x.s], .agg #[.int .i64 k, .int .i64 r, .int .i64 a, .int .i64 b]] w fun e w' => e = .returned (.bool true) ∧ Below w.heap.size w w' := by
  have BB := Lib.hid (Below.refl w.heap.size w)
  have HOK := Lib.hid hx
  have HR := Lib.hid hr
  obtain ⟨m, hm⟩ : ∃ m, cE x k r a b = m := ⟨_, rfl⟩
  have HM := Lib.hid hm
  clear hm
  have dk0 : decide (0 ≤ k) = false := decide_eq_false (by omega)
  have d1 : decide (r < x.r) = true := decide_eq_true hr
  clear hx hr
  have Ns1 : Hid (KB 23 (w.alloc (.cells #[.int .i64 x.r, .int .i64 x.t, .int .i64 x.p, .int .i64 x.l, .int .i64 x.q, .int .i64 x.s] 23)) w.heap.size ⟨x.r, x.t, x.p, x.l, x.q, x.s⟩) := Lib.hid (kb_new _ w x.r x.t x.p x.l x.q x.s)
  have E1 := Lib.hid (BB.out.alloc BB.out.size (.cells #[.int .i64 x.r, .int .i64 x.t, .int .i64 x.p, .int .i64 x.l, .int .i64 x.q, .int .i64 x.s] 23))
  have hs1 := BB.out.size
  obtain ⟨S1, hS1⟩ : ∃ W, w.alloc (.cells #[.int .i64 x.r, .int .i64 x.t, .int .i64 x.p, .int .i64 x.l, .int .i64 x.q, .int .i64 x.s] 23) = W := ⟨_, rfl⟩
  have hsz1 : S1.heap.size = w.heap.size + 1 := by rw [← hS1]; simp
  have HSZ1 := Lib.hid hsz1
  have hle1 : w.heap.size < S1.heap.size := by omega
  clear hsz1
  rw [hS1] at Ns1 E1
  clear BB
  have No2 : Hid (OB 38 (S1.alloc (.cells #[.int .i64 k, .int .i64 r, .int .i64 a, .int .i64 b] 38)) S1.heap.size k r a b) := Lib.hid (ob_new _ S1 k r a b)
  have ls2 := Ns1.out.lt
  have Ns2 := Lib.hid (Ns1.out.alloc (.cells #[.int .i64 k, .int .i64 r, .int .i64 a, .int .i64 b] 38))
  have E2 := Lib.hid (E1.out.alloc E1.out.size (.cells #[.int .i64 k, .int .i64 r, .int .i64 a, .int .i64 b] 38))
  have hs2 := E1.out.size
  obtain ⟨S2, hS2⟩ : ∃ W, S1.alloc (.cells #[.int .i64 k, .int .i64 r, .int .i64 a, .int .i64 b] 38) = W := ⟨_, rfl⟩
  have hsz2 : S2.heap.size = S1.heap.size + 1 := by rw [← hS2]; simp
  have HSZ2 := Lib.hid hsz2
  have hle2 : S1.heap.size < S2.heap.size := by omega
  clear hsz2
  rw [hS2] at No2 Ns2 E2
  clear Ns1 E1
  obtain ⟨c3_0, c3_1, c3_2, c3_3, c3_4, c3_5⟩ := Ns2.out.cells
  obtain ⟨c4_0, c4_1, c4_2, c4_3⟩ := No2.out.cells
  go_enter Try.func9, Try.ntmps9
  go_wp2_with fail
  clear hS1 hS2 c3_0 c3_1 c3_2 c3_3 c3_4 c3_5 c4_0 c4_1 c4_2 c4_3
  refine (of_yes x _ HOK.out).mono ?_
  rintro e w5 ⟨C, rfl, hge5, hkb, hb⟩
  have Xs5 := Lib.hid (Ns2.out.below hb Ns2.out.lt)
  have nes5 : w.heap.size < C := Nat.lt_of_lt_of_le Ns2.out.lt hge5
  have Xo5 := Lib.hid (No2.out.below hb No2.out.lt)
  have neo5 : S1.heap.size < C := Nat.lt_of_lt_of_le No2.out.lt hge5
  have lw5 : w.heap.size ≤ C := Nat.le_trans E2.out.size hge5
  have XC5 := Lib.hid hkb
  have B5 := Lib.hid (E2.out.trans (hb.mono E2.out.size))
  clear hb hkb Ns2 No2 E2
  obtain ⟨c6_0, c6_1, c6_2, c6_3, c6_4, c6_5⟩ := Xs5.out.cells
  obtain ⟨c7_0, c7_1, c7_2, c7_3⟩ := Xo5.out.cells
  go_wp2_with fail
  clear c6_0 c6_1 c6_2 c6_3 c6_4 c6_5 c7_0 c7_1 c7_2 c7_3
  refine (call_any C x k r a b _ HOK.out XC5.out).mono ?_
  rintro e w8 ⟨rfl, hkb, hg⟩
  rw [HM.out]
  have XC8 := Lib.hid hkb
  have Xs8 := Lib.hid (Xs5.out.grown hg (by omega))
  have Xo8 := Lib.hid (Xo5.out.grown hg (by omega))
  have B8 := Lib.hid (below_of_grown' B5.out hg (by omega) B5.out.size)
  clear hkb hg XC5 Xs5 Xo5 B5
  obtain ⟨n, hn⟩ : ∃ n, cN x k r = n := ⟨_, rfl⟩
  rw [hn]
  clear hn
  obtain ⟨c9_0, c9_1, c9_2, c9_3, c9_4, c9_5⟩ := Xs8.out.cells
  obtain ⟨c10_0, c10_1, c10_2, c10_3⟩ := Xo8.out.cells
  go_wp2_with fail
  go_quiet (fail)
  clear c9_0 c9_1 c9_2 c9_3 c9_4 c9_5 c10_0 c10_1 c10_2 c10_3
  have Qs := Lib.hid (Xs8.out.drewN nq)
  have Qo := Lib.hid (Xo8.out.drewN nq)
  have QC := Lib.hid (XC8.out.drewN nq)
  have QB := Lib.hid (blwn B8.out nq)
  have hqs : w8.heap.size ≤ (w8.drewN nq).heap.size := Nat.le_refl _
  obtain ⟨Q, hQ⟩ : ∃ W, w8.drewN nq = W := ⟨_, rfl⟩
  rw [hQ] at Qs Qo QC QB hqs ⊢
  clear hQ Xs8 Xo8 XC8 B8
  obtain ⟨c11_0, c11_1, c11_2, c11_3, c11_4, c11_5⟩ := Qs.out.cells
  obtain ⟨c12_0, c12_1, c12_2, c12_3⟩ := Qo.out.cells
  go_wp2_with fail
  go_region_held3 (fun w' => w'.cell? ⟨w.heap.size, 0, none⟩ = some (.int .i64 x.r) ∧ w'.cell? ⟨w.heap.size, 1, none⟩ = some (.int .i64 x.t) ∧ w'.cell? ⟨w.heap.size, 2, none⟩ = some (.int .i64 x.p) ∧ w'.cell? ⟨w.heap.size, 3, none⟩ = some (.int .i64 x.l) ∧ w'.cell? ⟨w.heap.size, 4, none⟩ = some (.int .i64 x.q) ∧ w'.cell? ⟨w.heap.size, 5, none⟩ = some (.int .i64 x.s) ∧ w'.cell? ⟨S1.heap.size, 0, none⟩ = some (.int .i64 k) ∧ w'.cell? ⟨S1.heap.size, 1, none⟩ = some (.int .i64 r) ∧ w'.cell? ⟨S1.heap.size, 2, none⟩ = some (.int .i64 a) ∧ w'.cell? ⟨S1.heap.size, 3, none⟩ = some (.int .i64 b)) (go_keep)
      (first
        | (go_at_call 11; refine (of_yes x _ HOK.out).mono ?_; rintro e w13 ⟨D, rfl, hge13, hkb, hb⟩; have hb : Below Q.heap.size Q w13 := ⟨hb.os, hb.tape, hb.output, hb.size, hb.block⟩; have hge13 : Q.heap.size ≤ D := hge13; have Xs13 := Lib.hid (Qs.out.below hb Qs.out.lt); obtain ⟨cs13_0, cs13_1, cs13_2, cs13_3, cs13_4, cs13_5⟩ := Xs13.out.cells; have Xo13 := Lib.hid (Qo.out.below hb Qo.out.lt); obtain ⟨co13_0, co13_1, co13_2, co13_3⟩ := Xo13.out.cells; have XC13 := Lib.hid (QC.out.below hb QC.out.lt); have lw13 : w.heap.size ≤ D := Nat.le_trans QB.out.size hge13; have XD13 := Lib.hid hkb; have B13 := Lib.hid (QB.out.trans (hb.mono QB.out.size)); clear hb hkb Qs Qo QC QB)
        | (go_at_call 20; refine (now_any D x r _ HOK.out XD13.out).mono ?_; rintro e w14 ⟨rfl, hb⟩; have hb : Below w13.heap.size w13 w14 := ⟨hb.os, hb.tape, hb.output, hb.size, hb.block⟩; have Xs14 := Lib.hid (Xs13.out.below hb Xs13.out.lt); obtain ⟨cs14_0, cs14_1, cs14_2, cs14_3, cs14_4, cs14_5⟩ := Xs14.out.cells; have Xo14 := Lib.hid (Xo13.out.below hb Xo13.out.lt); obtain ⟨co14_0, co14_1, co14_2, co14_3⟩ := Xo14.out.cells; have XC14 := Lib.hid (XC13.out.below hb XC13.out.lt); have XD14 := Lib.hid (XD13.out.below hb XD13.out.lt); have B14 := Lib.hid (B13.out.trans (hb.mono B13.out.size)); have hz14 := hb.size; clear hb Xs13 Xo13 XC13 XD13 B13))
  clear c11_0 c11_1 c11_2 c11_3 c11_4 c11_5 c12_0 c12_1 c12_2 c12_3
  rw [mvE_early HR.out]
  obtain ⟨tt, htt⟩ : ∃ tt, (mvS x r).t = tt := ⟨_, rfl⟩
  rw [htt]
  clear htt
  go_wp2_with fail
  refine (awake10_any _).mono ?_
  rintro e w15 ⟨rfl, hb⟩
  have Xs15 := Lib.hid (Xs14.out.below hb Xs14.out.lt)
  have Xo15 := Lib.hid (Xo14.out.below hb Xo14.out.lt)
  have XC15 := Lib.hid (XC14.out.below hb XC14.out.lt)
  have XD15 := Lib.hid (XD14.out.below hb XD14.out.lt)
  have B15 := Lib.hid (B14.out.trans (hb.mono B14.out.size))
  have hz15 := hb.size
  clear hb Xs14 Xo14 XC14 XD14 B14
  go_wp2_with fail
  go_ret
  exact ⟨rfl, B15.out⟩
set_option maxRecDepth 100000 in
set_option maxHeartbeats 1000000 in
theorem refuses_outb_early (x : St) (k r a b : Int) (w : World) (hx : Ok x) (hk : 3 < k) (hr : r < x.r) :
    Calls Try.prog 9 #[.agg #[.int .i64 x.r, .int .i64 x.t, .int .i64 x.p, .int .i64 x.l, .int .i64 x.q, .int .i64 x.s], .agg #[.int .i64 k, .int .i64 r, .int .i64 a, .int .i64 b]] w fun e w' => e = .returned (.bool true) ∧ Below w.heap.size w w' := by
  have BB := Lib.hid (Below.refl w.heap.size w)
  have HOK := Lib.hid hx
  have HR := Lib.hid hr
  obtain ⟨m, hm⟩ : ∃ m, cE x k r a b = m := ⟨_, rfl⟩
  have HM := Lib.hid hm
  clear hm
  have dk0 : decide (0 ≤ k) = true := decide_eq_true (by omega)
  have dk1 : decide (k ≤ 3) = false := decide_eq_false (by omega)
  have d1 : decide (r < x.r) = true := decide_eq_true hr
  clear hx hr
  have Ns1 : Hid (KB 23 (w.alloc (.cells #[.int .i64 x.r, .int .i64 x.t, .int .i64 x.p, .int .i64 x.l, .int .i64 x.q, .int .i64 x.s] 23)) w.heap.size ⟨x.r, x.t, x.p, x.l, x.q, x.s⟩) := Lib.hid (kb_new _ w x.r x.t x.p x.l x.q x.s)
  have E1 := Lib.hid (BB.out.alloc BB.out.size (.cells #[.int .i64 x.r, .int .i64 x.t, .int .i64 x.p, .int .i64 x.l, .int .i64 x.q, .int .i64 x.s] 23))
  have hs1 := BB.out.size
  obtain ⟨S1, hS1⟩ : ∃ W, w.alloc (.cells #[.int .i64 x.r, .int .i64 x.t, .int .i64 x.p, .int .i64 x.l, .int .i64 x.q, .int .i64 x.s] 23) = W := ⟨_, rfl⟩
  have hsz1 : S1.heap.size = w.heap.size + 1 := by rw [← hS1]; simp
  have HSZ1 := Lib.hid hsz1
  have hle1 : w.heap.size < S1.heap.size := by omega
  clear hsz1
  rw [hS1] at Ns1 E1
  clear BB
  have No2 : Hid (OB 38 (S1.alloc (.cells #[.int .i64 k, .int .i64 r, .int .i64 a, .int .i64 b] 38)) S1.heap.size k r a b) := Lib.hid (ob_new _ S1 k r a b)
  have ls2 := Ns1.out.lt
  have Ns2 := Lib.hid (Ns1.out.alloc (.cells #[.int .i64 k, .int .i64 r, .int .i64 a, .int .i64 b] 38))
  have E2 := Lib.hid (E1.out.alloc E1.out.size (.cells #[.int .i64 k, .int .i64 r, .int .i64 a, .int .i64 b] 38))
  have hs2 := E1.out.size
  obtain ⟨S2, hS2⟩ : ∃ W, S1.alloc (.cells #[.int .i64 k, .int .i64 r, .int .i64 a, .int .i64 b] 38) = W := ⟨_, rfl⟩
  have hsz2 : S2.heap.size = S1.heap.size + 1 := by rw [← hS2]; simp
  have HSZ2 := Lib.hid hsz2
  have hle2 : S1.heap.size < S2.heap.size := by omega
  clear hsz2
  rw [hS2] at No2 Ns2 E2
  clear Ns1 E1
  obtain ⟨c3_0, c3_1, c3_2, c3_3, c3_4, c3_5⟩ := Ns2.out.cells
  obtain ⟨c4_0, c4_1, c4_2, c4_3⟩ := No2.out.cells
  go_enter Try.func9, Try.ntmps9
  go_wp2_with fail
  clear hS1 hS2 c3_0 c3_1 c3_2 c3_3 c3_4 c3_5 c4_0 c4_1 c4_2 c4_3
  refine (of_yes x _ HOK.out).mono ?_
  rintro e w5 ⟨C, rfl, hge5, hkb, hb⟩
  have Xs5 := Lib.hid (Ns2.out.below hb Ns2.out.lt)
  have nes5 : w.heap.size < C := Nat.lt_of_lt_of_le Ns2.out.lt hge5
  have Xo5 := Lib.hid (No2.out.below hb No2.out.lt)
  have neo5 : S1.heap.size < C := Nat.lt_of_lt_of_le No2.out.lt hge5
  have lw5 : w.heap.size ≤ C := Nat.le_trans E2.out.size hge5
  have XC5 := Lib.hid hkb
  have B5 := Lib.hid (E2.out.trans (hb.mono E2.out.size))
  clear hb hkb Ns2 No2 E2
  obtain ⟨c6_0, c6_1, c6_2, c6_3, c6_4, c6_5⟩ := Xs5.out.cells
  obtain ⟨c7_0, c7_1, c7_2, c7_3⟩ := Xo5.out.cells
  go_wp2_with fail
  clear c6_0 c6_1 c6_2 c6_3 c6_4 c6_5 c7_0 c7_1 c7_2 c7_3
  refine (call_any C x k r a b _ HOK.out XC5.out).mono ?_
  rintro e w8 ⟨rfl, hkb, hg⟩
  rw [HM.out]
  have XC8 := Lib.hid hkb
  have Xs8 := Lib.hid (Xs5.out.grown hg (by omega))
  have Xo8 := Lib.hid (Xo5.out.grown hg (by omega))
  have B8 := Lib.hid (below_of_grown' B5.out hg (by omega) B5.out.size)
  clear hkb hg XC5 Xs5 Xo5 B5
  obtain ⟨n, hn⟩ : ∃ n, cN x k r = n := ⟨_, rfl⟩
  rw [hn]
  clear hn
  obtain ⟨c9_0, c9_1, c9_2, c9_3, c9_4, c9_5⟩ := Xs8.out.cells
  obtain ⟨c10_0, c10_1, c10_2, c10_3⟩ := Xo8.out.cells
  go_wp2_with fail
  go_quiet (fail)
  clear c9_0 c9_1 c9_2 c9_3 c9_4 c9_5 c10_0 c10_1 c10_2 c10_3
  have Qs := Lib.hid (Xs8.out.drewN nq)
  have Qo := Lib.hid (Xo8.out.drewN nq)
  have QC := Lib.hid (XC8.out.drewN nq)
  have QB := Lib.hid (blwn B8.out nq)
  have hqs : w8.heap.size ≤ (w8.drewN nq).heap.size := Nat.le_refl _
  obtain ⟨Q, hQ⟩ : ∃ W, w8.drewN nq = W := ⟨_, rfl⟩
  rw [hQ] at Qs Qo QC QB hqs ⊢
  clear hQ Xs8 Xo8 XC8 B8
  obtain ⟨c11_0, c11_1, c11_2, c11_3, c11_4, c11_5⟩ := Qs.out.cells
  obtain ⟨c12_0, c12_1, c12_2, c12_3⟩ := Qo.out.cells
  go_wp2_with fail
  go_region_held3 (fun w' => w'.cell? ⟨w.heap.size, 0, none⟩ = some (.int .i64 x.r) ∧ w'.cell? ⟨w.heap.size, 1, none⟩ = some (.int .i64 x.t) ∧ w'.cell? ⟨w.heap.size, 2, none⟩ = some (.int .i64 x.p) ∧ w'.cell? ⟨w.heap.size, 3, none⟩ = some (.int .i64 x.l) ∧ w'.cell? ⟨w.heap.size, 4, none⟩ = some (.int .i64 x.q) ∧ w'.cell? ⟨w.heap.size, 5, none⟩ = some (.int .i64 x.s) ∧ w'.cell? ⟨S1.heap.size, 0, none⟩ = some (.int .i64 k) ∧ w'.cell? ⟨S1.heap.size, 1, none⟩ = some (.int .i64 r) ∧ w'.cell? ⟨S1.heap.size, 2, none⟩ = some (.int .i64 a) ∧ w'.cell? ⟨S1.heap.size, 3, none⟩ = some (.int .i64 b)) (go_keep)
      (first
        | (go_at_call 11; refine (of_yes x _ HOK.out).mono ?_; rintro e w13 ⟨D, rfl, hge13, hkb, hb⟩; have hb : Below Q.heap.size Q w13 := ⟨hb.os, hb.tape, hb.output, hb.size, hb.block⟩; have hge13 : Q.heap.size ≤ D := hge13; have Xs13 := Lib.hid (Qs.out.below hb Qs.out.lt); obtain ⟨cs13_0, cs13_1, cs13_2, cs13_3, cs13_4, cs13_5⟩ := Xs13.out.cells; have Xo13 := Lib.hid (Qo.out.below hb Qo.out.lt); obtain ⟨co13_0, co13_1, co13_2, co13_3⟩ := Xo13.out.cells; have XC13 := Lib.hid (QC.out.below hb QC.out.lt); have lw13 : w.heap.size ≤ D := Nat.le_trans QB.out.size hge13; have XD13 := Lib.hid hkb; have B13 := Lib.hid (QB.out.trans (hb.mono QB.out.size)); clear hb hkb Qs Qo QC QB)
        | (go_at_call 20; refine (now_any D x r _ HOK.out XD13.out).mono ?_; rintro e w14 ⟨rfl, hb⟩; have hb : Below w13.heap.size w13 w14 := ⟨hb.os, hb.tape, hb.output, hb.size, hb.block⟩; have Xs14 := Lib.hid (Xs13.out.below hb Xs13.out.lt); obtain ⟨cs14_0, cs14_1, cs14_2, cs14_3, cs14_4, cs14_5⟩ := Xs14.out.cells; have Xo14 := Lib.hid (Xo13.out.below hb Xo13.out.lt); obtain ⟨co14_0, co14_1, co14_2, co14_3⟩ := Xo14.out.cells; have XC14 := Lib.hid (XC13.out.below hb XC13.out.lt); have XD14 := Lib.hid (XD13.out.below hb XD13.out.lt); have B14 := Lib.hid (B13.out.trans (hb.mono B13.out.size)); have hz14 := hb.size; clear hb Xs13 Xo13 XC13 XD13 B13))
  clear c11_0 c11_1 c11_2 c11_3 c11_4 c11_5 c12_0 c12_1 c12_2 c12_3
  rw [mvE_early HR.out]
  obtain ⟨tt, htt⟩ : ∃ tt, (mvS x r).t = tt := ⟨_, rfl⟩
  rw [htt]
  clear htt
  go_wp2_with fail
  refine (awake10_any _).mono ?_
  rintro e w15 ⟨rfl, hb⟩
  have Xs15 := Lib.hid (Xs14.out.below hb Xs14.out.lt)
  have Xo15 := Lib.hid (Xo14.out.below hb Xo14.out.lt)
  have XC15 := Lib.hid (XC14.out.below hb XC14.out.lt)
  have XD15 := Lib.hid (XD14.out.below hb XD14.out.lt)
  have B15 := Lib.hid (B14.out.trans (hb.mono B14.out.size))
  have hz15 := hb.size
  clear hb Xs14 Xo14 XC14 XD14 B14
  go_wp2_with fail
  go_ret
  exact ⟨rfl, B15.out⟩
set_option maxRecDepth 100000 in
set_option maxHeartbeats 1000000 in
theorem refuses_outa_mid (x : St) (k r a b : Int) (w : World) (hx : Ok x) (hk : k < 0) (hr : ¬ r < x.r) (hl : r ≤ 4503599627370496) :
    Calls Try.prog 9 #[.agg #[.int .i64 x.r, .int .i64 x.t, .int .i64 x.p, .int .i64 x.l, .int .i64 x.q, .int .i64 x.s], .agg #[.int .i64 k, .int .i64 r, .int .i64 a, .int .i64 b]] w fun e w' => e = .returned (.bool true) ∧ Below w.heap.size w w' := by
  have BB := Lib.hid (Below.refl w.heap.size w)
  have HOK := Lib.hid hx
  have HR := Lib.hid hr
  obtain ⟨m, hm⟩ : ∃ m, cE x k r a b = m := ⟨_, rfl⟩
  have HM := Lib.hid hm
  clear hm
  have dk0 : decide (0 ≤ k) = false := decide_eq_false (by omega)
  have d1 : decide (r < x.r) = false := decide_eq_false hr
  have d2 : decide (r ≤ 4503599627370496) = true := decide_eq_true hl
  clear hx hr hl
  have Ns1 : Hid (KB 23 (w.alloc (.cells #[.int .i64 x.r, .int .i64 x.t, .int .i64 x.p, .int .i64 x.l, .int .i64 x.q, .int .i64 x.s] 23)) w.heap.size ⟨x.r, x.t, x.p, x.l, x.q, x.s⟩) := Lib.hid (kb_new _ w x.r x.t x.p x.l x.q x.s)
  have E1 := Lib.hid (BB.out.alloc BB.out.size (.cells #[.int .i64 x.r, .int .i64 x.t, .int .i64 x.p, .int .i64 x.l, .int .i64 x.q, .int .i64 x.s] 23))
  have hs1 := BB.out.size
  obtain ⟨S1, hS1⟩ : ∃ W, w.alloc (.cells #[.int .i64 x.r, .int .i64 x.t, .int .i64 x.p, .int .i64 x.l, .int .i64 x.q, .int .i64 x.s] 23) = W := ⟨_, rfl⟩
  have hsz1 : S1.heap.size = w.heap.size + 1 := by rw [← hS1]; simp
  have HSZ1 := Lib.hid hsz1
  have hle1 : w.heap.size < S1.heap.size := by omega
  clear hsz1
  rw [hS1] at Ns1 E1
  clear BB
  have No2 : Hid (OB 38 (S1.alloc (.cells #[.int .i64 k, .int .i64 r, .int .i64 a, .int .i64 b] 38)) S1.heap.size k r a b) := Lib.hid (ob_new _ S1 k r a b)
  have ls2 := Ns1.out.lt
  have Ns2 := Lib.hid (Ns1.out.alloc (.cells #[.int .i64 k, .int .i64 r, .int .i64 a, .int .i64 b] 38))
  have E2 := Lib.hid (E1.out.alloc E1.out.size (.cells #[.int .i64 k, .int .i64 r, .int .i64 a, .int .i64 b] 38))
  have hs2 := E1.out.size
  obtain ⟨S2, hS2⟩ : ∃ W, S1.alloc (.cells #[.int .i64 k, .int .i64 r, .int .i64 a, .int .i64 b] 38) = W := ⟨_, rfl⟩
  have hsz2 : S2.heap.size = S1.heap.size + 1 := by rw [← hS2]; simp
  have HSZ2 := Lib.hid hsz2
  have hle2 : S1.heap.size < S2.heap.size := by omega
  clear hsz2
  rw [hS2] at No2 Ns2 E2
  clear Ns1 E1
  obtain ⟨c3_0, c3_1, c3_2, c3_3, c3_4, c3_5⟩ := Ns2.out.cells
  obtain ⟨c4_0, c4_1, c4_2, c4_3⟩ := No2.out.cells
  go_enter Try.func9, Try.ntmps9
  go_wp2_with fail
  clear hS1 hS2 c3_0 c3_1 c3_2 c3_3 c3_4 c3_5 c4_0 c4_1 c4_2 c4_3
  refine (of_yes x _ HOK.out).mono ?_
  rintro e w5 ⟨C, rfl, hge5, hkb, hb⟩
  have Xs5 := Lib.hid (Ns2.out.below hb Ns2.out.lt)
  have nes5 : w.heap.size < C := Nat.lt_of_lt_of_le Ns2.out.lt hge5
  have Xo5 := Lib.hid (No2.out.below hb No2.out.lt)
  have neo5 : S1.heap.size < C := Nat.lt_of_lt_of_le No2.out.lt hge5
  have lw5 : w.heap.size ≤ C := Nat.le_trans E2.out.size hge5
  have XC5 := Lib.hid hkb
  have B5 := Lib.hid (E2.out.trans (hb.mono E2.out.size))
  clear hb hkb Ns2 No2 E2
  obtain ⟨c6_0, c6_1, c6_2, c6_3, c6_4, c6_5⟩ := Xs5.out.cells
  obtain ⟨c7_0, c7_1, c7_2, c7_3⟩ := Xo5.out.cells
  go_wp2_with fail
  clear c6_0 c6_1 c6_2 c6_3 c6_4 c6_5 c7_0 c7_1 c7_2 c7_3
  refine (call_any C x k r a b _ HOK.out XC5.out).mono ?_
  rintro e w8 ⟨rfl, hkb, hg⟩
  rw [HM.out]
  have XC8 := Lib.hid hkb
  have Xs8 := Lib.hid (Xs5.out.grown hg (by omega))
  have Xo8 := Lib.hid (Xo5.out.grown hg (by omega))
  have B8 := Lib.hid (below_of_grown' B5.out hg (by omega) B5.out.size)
  clear hkb hg XC5 Xs5 Xo5 B5
  obtain ⟨n, hn⟩ : ∃ n, cN x k r = n := ⟨_, rfl⟩
  rw [hn]
  clear hn
  obtain ⟨c9_0, c9_1, c9_2, c9_3, c9_4, c9_5⟩ := Xs8.out.cells
  obtain ⟨c10_0, c10_1, c10_2, c10_3⟩ := Xo8.out.cells
  go_wp2_with fail
  go_quiet (fail)
  clear c9_0 c9_1 c9_2 c9_3 c9_4 c9_5 c10_0 c10_1 c10_2 c10_3
  have Qs := Lib.hid (Xs8.out.drewN nq)
  have Qo := Lib.hid (Xo8.out.drewN nq)
  have QC := Lib.hid (XC8.out.drewN nq)
  have QB := Lib.hid (blwn B8.out nq)
  have hqs : w8.heap.size ≤ (w8.drewN nq).heap.size := Nat.le_refl _
  obtain ⟨Q, hQ⟩ : ∃ W, w8.drewN nq = W := ⟨_, rfl⟩
  rw [hQ] at Qs Qo QC QB hqs ⊢
  clear hQ Xs8 Xo8 XC8 B8
  obtain ⟨c11_0, c11_1, c11_2, c11_3, c11_4, c11_5⟩ := Qs.out.cells
  obtain ⟨c12_0, c12_1, c12_2, c12_3⟩ := Qo.out.cells
  go_wp2_with fail
  go_region_held3 (fun w' => w'.cell? ⟨w.heap.size, 0, none⟩ = some (.int .i64 x.r) ∧ w'.cell? ⟨w.heap.size, 1, none⟩ = some (.int .i64 x.t) ∧ w'.cell? ⟨w.heap.size, 2, none⟩ = some (.int .i64 x.p) ∧ w'.cell? ⟨w.heap.size, 3, none⟩ = some (.int .i64 x.l) ∧ w'.cell? ⟨w.heap.size, 4, none⟩ = some (.int .i64 x.q) ∧ w'.cell? ⟨w.heap.size, 5, none⟩ = some (.int .i64 x.s) ∧ w'.cell? ⟨S1.heap.size, 0, none⟩ = some (.int .i64 k) ∧ w'.cell? ⟨S1.heap.size, 1, none⟩ = some (.int .i64 r) ∧ w'.cell? ⟨S1.heap.size, 2, none⟩ = some (.int .i64 a) ∧ w'.cell? ⟨S1.heap.size, 3, none⟩ = some (.int .i64 b)) (go_keep)
      (first
        | (go_at_call 11; refine (of_yes x _ HOK.out).mono ?_; rintro e w13 ⟨D, rfl, hge13, hkb, hb⟩; have hb : Below Q.heap.size Q w13 := ⟨hb.os, hb.tape, hb.output, hb.size, hb.block⟩; have hge13 : Q.heap.size ≤ D := hge13; have Xs13 := Lib.hid (Qs.out.below hb Qs.out.lt); obtain ⟨cs13_0, cs13_1, cs13_2, cs13_3, cs13_4, cs13_5⟩ := Xs13.out.cells; have Xo13 := Lib.hid (Qo.out.below hb Qo.out.lt); obtain ⟨co13_0, co13_1, co13_2, co13_3⟩ := Xo13.out.cells; have XC13 := Lib.hid (QC.out.below hb QC.out.lt); have lw13 : w.heap.size ≤ D := Nat.le_trans QB.out.size hge13; have XD13 := Lib.hid hkb; have B13 := Lib.hid (QB.out.trans (hb.mono QB.out.size)); clear hb hkb Qs Qo QC QB)
        | (go_at_call 20; refine (now_any D x r _ HOK.out XD13.out).mono ?_; rintro e w14 ⟨rfl, hb⟩; have hb : Below w13.heap.size w13 w14 := ⟨hb.os, hb.tape, hb.output, hb.size, hb.block⟩; have Xs14 := Lib.hid (Xs13.out.below hb Xs13.out.lt); obtain ⟨cs14_0, cs14_1, cs14_2, cs14_3, cs14_4, cs14_5⟩ := Xs14.out.cells; have Xo14 := Lib.hid (Xo13.out.below hb Xo13.out.lt); obtain ⟨co14_0, co14_1, co14_2, co14_3⟩ := Xo14.out.cells; have XC14 := Lib.hid (XC13.out.below hb XC13.out.lt); have XD14 := Lib.hid (XD13.out.below hb XD13.out.lt); have B14 := Lib.hid (B13.out.trans (hb.mono B13.out.size)); have hz14 := hb.size; clear hb Xs13 Xo13 XC13 XD13 B13))
  clear c11_0 c11_1 c11_2 c11_3 c11_4 c11_5 c12_0 c12_1 c12_2 c12_3
  obtain ⟨m2, hm2⟩ : ∃ m2, mvE x r = m2 := ⟨_, rfl⟩
  rw [hm2]
  clear hm2
  obtain ⟨tt, htt⟩ : ∃ tt, (mvS x r).t = tt := ⟨_, rfl⟩
  rw [htt]
  clear htt
  go_wp2_with fail
  refine (awake10_any _).mono ?_
  rintro e w15 ⟨rfl, hb⟩
  have Xs15 := Lib.hid (Xs14.out.below hb Xs14.out.lt)
  have Xo15 := Lib.hid (Xo14.out.below hb Xo14.out.lt)
  have XC15 := Lib.hid (XC14.out.below hb XC14.out.lt)
  have XD15 := Lib.hid (XD14.out.below hb XD14.out.lt)
  have B15 := Lib.hid (B14.out.trans (hb.mono B14.out.size))
  have hz15 := hb.size
  clear hb Xs14 Xo14 XC14 XD14 B14
  go_wp2_with fail
  go_ret
  exact ⟨rfl, B15.out⟩
set_option maxRecDepth 100000 in
set_option maxHeartbeats 1000000 in
theorem refuses_outb_mid (x : St) (k r a b : Int) (w : World) (hx : Ok x) (hk : 3 < k) (hr : ¬ r < x.r) (hl : r ≤ 4503599627370496) :
    Calls Try.prog 9 #[.agg #[.int .i64 x.r, .int .i64 x.t, .int .i64 x.p, .int .i64 x.l, .int .i64 x.q, .int .i64 x.s], .agg #[.int .i64 k, .int .i64 r, .int .i64 a, .int .i64 b]] w fun e w' => e = .returned (.bool true) ∧ Below w.heap.size w w' := by
  have BB := Lib.hid (Below.refl w.heap.size w)
  have HOK := Lib.hid hx
  have HR := Lib.hid hr
  obtain ⟨m, hm⟩ : ∃ m, cE x k r a b = m := ⟨_, rfl⟩
  have HM := Lib.hid hm
  clear hm
  have dk0 : decide (0 ≤ k) = true := decide_eq_true (by omega)
  have dk1 : decide (k ≤ 3) = false := decide_eq_false (by omega)
  have d1 : decide (r < x.r) = false := decide_eq_false hr
  have d2 : decide (r ≤ 4503599627370496) = true := decide_eq_true hl
  clear hx hr hl
  have Ns1 : Hid (KB 23 (w.alloc (.cells #[.int .i64 x.r, .int .i64 x.t, .int .i64 x.p, .int .i64 x.l, .int .i64 x.q, .int .i64 x.s] 23)) w.heap.size ⟨x.r, x.t, x.p, x.l, x.q, x.s⟩) := Lib.hid (kb_new _ w x.r x.t x.p x.l x.q x.s)
  have E1 := Lib.hid (BB.out.alloc BB.out.size (.cells #[.int .i64 x.r, .int .i64 x.t, .int .i64 x.p, .int .i64 x.l, .int .i64 x.q, .int .i64 x.s] 23))
  have hs1 := BB.out.size
  obtain ⟨S1, hS1⟩ : ∃ W, w.alloc (.cells #[.int .i64 x.r, .int .i64 x.t, .int .i64 x.p, .int .i64 x.l, .int .i64 x.q, .int .i64 x.s] 23) = W := ⟨_, rfl⟩
  have hsz1 : S1.heap.size = w.heap.size + 1 := by rw [← hS1]; simp
  have HSZ1 := Lib.hid hsz1
  have hle1 : w.heap.size < S1.heap.size := by omega
  clear hsz1
  rw [hS1] at Ns1 E1
  clear BB
  have No2 : Hid (OB 38 (S1.alloc (.cells #[.int .i64 k, .int .i64 r, .int .i64 a, .int .i64 b] 38)) S1.heap.size k r a b) := Lib.hid (ob_new _ S1 k r a b)
  have ls2 := Ns1.out.lt
  have Ns2 := Lib.hid (Ns1.out.alloc (.cells #[.int .i64 k, .int .i64 r, .int .i64 a, .int .i64 b] 38))
  have E2 := Lib.hid (E1.out.alloc E1.out.size (.cells #[.int .i64 k, .int .i64 r, .int .i64 a, .int .i64 b] 38))
  have hs2 := E1.out.size
  obtain ⟨S2, hS2⟩ : ∃ W, S1.alloc (.cells #[.int .i64 k, .int .i64 r, .int .i64 a, .int .i64 b] 38) = W := ⟨_, rfl⟩
  have hsz2 : S2.heap.size = S1.heap.size + 1 := by rw [← hS2]; simp
  have HSZ2 := Lib.hid hsz2
  have hle2 : S1.heap.size < S2.heap.size := by omega
  clear hsz2
  rw [hS2] at No2 Ns2 E2
  clear Ns1 E1
  obtain ⟨c3_0, c3_1, c3_2, c3_3, c3_4, c3_5⟩ := Ns2.out.cells
  obtain ⟨c4_0, c4_1, c4_2, c4_3⟩ := No2.out.cells
  go_enter Try.func9, Try.ntmps9
  go_wp2_with fail
  clear hS1 hS2 c3_0 c3_1 c3_2 c3_3 c3_4 c3_5 c4_0 c4_1 c4_2 c4_3
  refine (of_yes x _ HOK.out).mono ?_
  rintro e w5 ⟨C, rfl, hge5, hkb, hb⟩
  have Xs5 := Lib.hid (Ns2.out.below hb Ns2.out.lt)
  have nes5 : w.heap.size < C := Nat.lt_of_lt_of_le Ns2.out.lt hge5
  have Xo5 := Lib.hid (No2.out.below hb No2.out.lt)
  have neo5 : S1.heap.size < C := Nat.lt_of_lt_of_le No2.out.lt hge5
  have lw5 : w.heap.size ≤ C := Nat.le_trans E2.out.size hge5
  have XC5 := Lib.hid hkb
  have B5 := Lib.hid (E2.out.trans (hb.mono E2.out.size))
  clear hb hkb Ns2 No2 E2
  obtain ⟨c6_0, c6_1, c6_2, c6_3, c6_4, c6_5⟩ := Xs5.out.cells
  obtain ⟨c7_0, c7_1, c7_2, c7_3⟩ := Xo5.out.cells
  go_wp2_with fail
  clear c6_0 c6_1 c6_2 c6_3 c6_4 c6_5 c7_0 c7_1 c7_2 c7_3
  refine (call_any C x k r a b _ HOK.out XC5.out).mono ?_
  rintro e w8 ⟨rfl, hkb, hg⟩
  rw [HM.out]
  have XC8 := Lib.hid hkb
  have Xs8 := Lib.hid (Xs5.out.grown hg (by omega))
  have Xo8 := Lib.hid (Xo5.out.grown hg (by omega))
  have B8 := Lib.hid (below_of_grown' B5.out hg (by omega) B5.out.size)
  clear hkb hg XC5 Xs5 Xo5 B5
  obtain ⟨n, hn⟩ : ∃ n, cN x k r = n := ⟨_, rfl⟩
  rw [hn]
  clear hn
  obtain ⟨c9_0, c9_1, c9_2, c9_3, c9_4, c9_5⟩ := Xs8.out.cells
  obtain ⟨c10_0, c10_1, c10_2, c10_3⟩ := Xo8.out.cells
  go_wp2_with fail
  go_quiet (fail)
  clear c9_0 c9_1 c9_2 c9_3 c9_4 c9_5 c10_0 c10_1 c10_2 c10_3
  have Qs := Lib.hid (Xs8.out.drewN nq)
  have Qo := Lib.hid (Xo8.out.drewN nq)
  have QC := Lib.hid (XC8.out.drewN nq)
  have QB := Lib.hid (blwn B8.out nq)
  have hqs : w8.heap.size ≤ (w8.drewN nq).heap.size := Nat.le_refl _
  obtain ⟨Q, hQ⟩ : ∃ W, w8.drewN nq = W := ⟨_, rfl⟩
  rw [hQ] at Qs Qo QC QB hqs ⊢
  clear hQ Xs8 Xo8 XC8 B8
  obtain ⟨c11_0, c11_1, c11_2, c11_3, c11_4, c11_5⟩ := Qs.out.cells
  obtain ⟨c12_0, c12_1, c12_2, c12_3⟩ := Qo.out.cells
  go_wp2_with fail
  go_region_held3 (fun w' => w'.cell? ⟨w.heap.size, 0, none⟩ = some (.int .i64 x.r) ∧ w'.cell? ⟨w.heap.size, 1, none⟩ = some (.int .i64 x.t) ∧ w'.cell? ⟨w.heap.size, 2, none⟩ = some (.int .i64 x.p) ∧ w'.cell? ⟨w.heap.size, 3, none⟩ = some (.int .i64 x.l) ∧ w'.cell? ⟨w.heap.size, 4, none⟩ = some (.int .i64 x.q) ∧ w'.cell? ⟨w.heap.size, 5, none⟩ = some (.int .i64 x.s) ∧ w'.cell? ⟨S1.heap.size, 0, none⟩ = some (.int .i64 k) ∧ w'.cell? ⟨S1.heap.size, 1, none⟩ = some (.int .i64 r) ∧ w'.cell? ⟨S1.heap.size, 2, none⟩ = some (.int .i64 a) ∧ w'.cell? ⟨S1.heap.size, 3, none⟩ = some (.int .i64 b)) (go_keep)
      (first
        | (go_at_call 11; refine (of_yes x _ HOK.out).mono ?_; rintro e w13 ⟨D, rfl, hge13, hkb, hb⟩; have hb : Below Q.heap.size Q w13 := ⟨hb.os, hb.tape, hb.output, hb.size, hb.block⟩; have hge13 : Q.heap.size ≤ D := hge13; have Xs13 := Lib.hid (Qs.out.below hb Qs.out.lt); obtain ⟨cs13_0, cs13_1, cs13_2, cs13_3, cs13_4, cs13_5⟩ := Xs13.out.cells; have Xo13 := Lib.hid (Qo.out.below hb Qo.out.lt); obtain ⟨co13_0, co13_1, co13_2, co13_3⟩ := Xo13.out.cells; have XC13 := Lib.hid (QC.out.below hb QC.out.lt); have lw13 : w.heap.size ≤ D := Nat.le_trans QB.out.size hge13; have XD13 := Lib.hid hkb; have B13 := Lib.hid (QB.out.trans (hb.mono QB.out.size)); clear hb hkb Qs Qo QC QB)
        | (go_at_call 20; refine (now_any D x r _ HOK.out XD13.out).mono ?_; rintro e w14 ⟨rfl, hb⟩; have hb : Below w13.heap.size w13 w14 := ⟨hb.os, hb.tape, hb.output, hb.size, hb.block⟩; have Xs14 := Lib.hid (Xs13.out.below hb Xs13.out.lt); obtain ⟨cs14_0, cs14_1, cs14_2, cs14_3, cs14_4, cs14_5⟩ := Xs14.out.cells; have Xo14 := Lib.hid (Xo13.out.below hb Xo13.out.lt); obtain ⟨co14_0, co14_1, co14_2, co14_3⟩ := Xo14.out.cells; have XC14 := Lib.hid (XC13.out.below hb XC13.out.lt); have XD14 := Lib.hid (XD13.out.below hb XD13.out.lt); have B14 := Lib.hid (B13.out.trans (hb.mono B13.out.size)); have hz14 := hb.size; clear hb Xs13 Xo13 XC13 XD13 B13))
  clear c11_0 c11_1 c11_2 c11_3 c11_4 c11_5 c12_0 c12_1 c12_2 c12_3
  obtain ⟨m2, hm2⟩ : ∃ m2, mvE x r = m2 := ⟨_, rfl⟩
  rw [hm2]
  clear hm2
  obtain ⟨tt, htt⟩ : ∃ tt, (mvS x r).t = tt := ⟨_, rfl⟩
  rw [htt]
  clear htt
  go_wp2_with fail
  refine (awake10_any _).mono ?_
  rintro e w15 ⟨rfl, hb⟩
  have Xs15 := Lib.hid (Xs14.out.below hb Xs14.out.lt)
  have Xo15 := Lib.hid (Xo14.out.below hb Xo14.out.lt)
  have XC15 := Lib.hid (XC14.out.below hb XC14.out.lt)
  have XD15 := Lib.hid (XD14.out.below hb XD14.out.lt)
  have B15 := Lib.hid (B14.out.trans (hb.mono B14.out.size))
  have hz15 := hb.size
  clear hb Xs14 Xo14 XC14 XD14 B14
  go_wp2_with fail
  go_ret
  exact ⟨rfl, B15.out⟩
set_option maxRecDepth 100000 in
set_option maxHeartbeats 1000000 in
theorem refuses_outa_late (x : St) (k r a b : Int) (w : World) (hx : Ok x) (hk : k < 0) (hr : ¬ r < x.r) (hl : ¬ r ≤ 4503599627370496) :
    Calls Try.prog 9 #[.agg #[.int .i64 x.r, .int .i64 x.t, .int .i64 x.p, .int .i64 x.l, .int .i64 x.q, .int .i64 x.s], .agg #[.int .i64 k, .int .i64 r, .int .i64 a, .int .i64 b]] w fun e w' => e = .returned (.bool true) ∧ Below w.heap.size w w' := by
  have BB := Lib.hid (Below.refl w.heap.size w)
  have HOK := Lib.hid hx
  have HR := Lib.hid hr
  obtain ⟨m, hm⟩ : ∃ m, cE x k r a b = m := ⟨_, rfl⟩
  have HM := Lib.hid hm
  clear hm
  have dk0 : decide (0 ≤ k) = false := decide_eq_false (by omega)
  have d1 : decide (r < x.r) = false := decide_eq_false hr
  have d2 : decide (r ≤ 4503599627370496) = false := decide_eq_false hl
  clear hx hr
  have Ns1 : Hid (KB 23 (w.alloc (.cells #[.int .i64 x.r, .int .i64 x.t, .int .i64 x.p, .int .i64 x.l, .int .i64 x.q, .int .i64 x.s] 23)) w.heap.size ⟨x.r, x.t, x.p, x.l, x.q, x.s⟩) := Lib.hid (kb_new _ w x.r x.t x.p x.l x.q x.s)
  have E1 := Lib.hid (BB.out.alloc BB.out.size (.cells #[.int .i64 x.r, .int .i64 x.t, .int .i64 x.p, .int .i64 x.l, .int .i64 x.q, .int .i64 x.s] 23))
  have hs1 := BB.out.size
  obtain ⟨S1, hS1⟩ : ∃ W, w.alloc (.cells #[.int .i64 x.r, .int .i64 x.t, .int .i64 x.p, .int .i64 x.l, .int .i64 x.q, .int .i64 x.s] 23) = W := ⟨_, rfl⟩
  have hsz1 : S1.heap.size = w.heap.size + 1 := by rw [← hS1]; simp
  have HSZ1 := Lib.hid hsz1
  have hle1 : w.heap.size < S1.heap.size := by omega
  clear hsz1
  rw [hS1] at Ns1 E1
  clear BB
  have No2 : Hid (OB 38 (S1.alloc (.cells #[.int .i64 k, .int .i64 r, .int .i64 a, .int .i64 b] 38)) S1.heap.size k r a b) := Lib.hid (ob_new _ S1 k r a b)
  have ls2 := Ns1.out.lt
  have Ns2 := Lib.hid (Ns1.out.alloc (.cells #[.int .i64 k, .int .i64 r, .int .i64 a, .int .i64 b] 38))
  have E2 := Lib.hid (E1.out.alloc E1.out.size (.cells #[.int .i64 k, .int .i64 r, .int .i64 a, .int .i64 b] 38))
  have hs2 := E1.out.size
  obtain ⟨S2, hS2⟩ : ∃ W, S1.alloc (.cells #[.int .i64 k, .int .i64 r, .int .i64 a, .int .i64 b] 38) = W := ⟨_, rfl⟩
  have hsz2 : S2.heap.size = S1.heap.size + 1 := by rw [← hS2]; simp
  have HSZ2 := Lib.hid hsz2
  have hle2 : S1.heap.size < S2.heap.size := by omega
  clear hsz2
  rw [hS2] at No2 Ns2 E2
  clear Ns1 E1
  obtain ⟨c3_0, c3_1, c3_2, c3_3, c3_4, c3_5⟩ := Ns2.out.cells
  obtain ⟨c4_0, c4_1, c4_2, c4_3⟩ := No2.out.cells
  go_enter Try.func9, Try.ntmps9
  go_wp2_with fail
  clear hS1 hS2 c3_0 c3_1 c3_2 c3_3 c3_4 c3_5 c4_0 c4_1 c4_2 c4_3
  refine (of_yes x _ HOK.out).mono ?_
  rintro e w5 ⟨C, rfl, hge5, hkb, hb⟩
  have Xs5 := Lib.hid (Ns2.out.below hb Ns2.out.lt)
  have nes5 : w.heap.size < C := Nat.lt_of_lt_of_le Ns2.out.lt hge5
  have Xo5 := Lib.hid (No2.out.below hb No2.out.lt)
  have neo5 : S1.heap.size < C := Nat.lt_of_lt_of_le No2.out.lt hge5
  have lw5 : w.heap.size ≤ C := Nat.le_trans E2.out.size hge5
  have XC5 := Lib.hid hkb
  have B5 := Lib.hid (E2.out.trans (hb.mono E2.out.size))
  clear hb hkb Ns2 No2 E2
  obtain ⟨c6_0, c6_1, c6_2, c6_3, c6_4, c6_5⟩ := Xs5.out.cells
  obtain ⟨c7_0, c7_1, c7_2, c7_3⟩ := Xo5.out.cells
  go_wp2_with fail
  clear c6_0 c6_1 c6_2 c6_3 c6_4 c6_5 c7_0 c7_1 c7_2 c7_3
  refine (call_any C x k r a b _ HOK.out XC5.out).mono ?_
  rintro e w8 ⟨rfl, hkb, hg⟩
  rw [HM.out]
  have XC8 := Lib.hid hkb
  have Xs8 := Lib.hid (Xs5.out.grown hg (by omega))
  have Xo8 := Lib.hid (Xo5.out.grown hg (by omega))
  have B8 := Lib.hid (below_of_grown' B5.out hg (by omega) B5.out.size)
  clear hkb hg XC5 Xs5 Xo5 B5
  obtain ⟨n, hn⟩ : ∃ n, cN x k r = n := ⟨_, rfl⟩
  rw [hn]
  clear hn
  obtain ⟨c9_0, c9_1, c9_2, c9_3, c9_4, c9_5⟩ := Xs8.out.cells
  obtain ⟨c10_0, c10_1, c10_2, c10_3⟩ := Xo8.out.cells
  go_wp2_with fail
  go_quiet (fail)
  clear c9_0 c9_1 c9_2 c9_3 c9_4 c9_5 c10_0 c10_1 c10_2 c10_3
  have Qs := Lib.hid (Xs8.out.drewN nq)
  have Qo := Lib.hid (Xo8.out.drewN nq)
  have QC := Lib.hid (XC8.out.drewN nq)
  have QB := Lib.hid (blwn B8.out nq)
  have hqs : w8.heap.size ≤ (w8.drewN nq).heap.size := Nat.le_refl _
  obtain ⟨Q, hQ⟩ : ∃ W, w8.drewN nq = W := ⟨_, rfl⟩
  rw [hQ] at Qs Qo QC QB hqs ⊢
  clear hQ Xs8 Xo8 XC8 B8
  obtain ⟨c11_0, c11_1, c11_2, c11_3, c11_4, c11_5⟩ := Qs.out.cells
  obtain ⟨c12_0, c12_1, c12_2, c12_3⟩ := Qo.out.cells
  go_wp2_with fail
  go_region_held3 (fun w' => w'.cell? ⟨w.heap.size, 0, none⟩ = some (.int .i64 x.r) ∧ w'.cell? ⟨w.heap.size, 1, none⟩ = some (.int .i64 x.t) ∧ w'.cell? ⟨w.heap.size, 2, none⟩ = some (.int .i64 x.p) ∧ w'.cell? ⟨w.heap.size, 3, none⟩ = some (.int .i64 x.l) ∧ w'.cell? ⟨w.heap.size, 4, none⟩ = some (.int .i64 x.q) ∧ w'.cell? ⟨w.heap.size, 5, none⟩ = some (.int .i64 x.s) ∧ w'.cell? ⟨S1.heap.size, 0, none⟩ = some (.int .i64 k) ∧ w'.cell? ⟨S1.heap.size, 1, none⟩ = some (.int .i64 r) ∧ w'.cell? ⟨S1.heap.size, 2, none⟩ = some (.int .i64 a) ∧ w'.cell? ⟨S1.heap.size, 3, none⟩ = some (.int .i64 b)) (go_keep)
      (first
        | (go_at_call 11; refine (of_yes x _ HOK.out).mono ?_; rintro e w13 ⟨D, rfl, hge13, hkb, hb⟩; have hb : Below Q.heap.size Q w13 := ⟨hb.os, hb.tape, hb.output, hb.size, hb.block⟩; have hge13 : Q.heap.size ≤ D := hge13; have Xs13 := Lib.hid (Qs.out.below hb Qs.out.lt); obtain ⟨cs13_0, cs13_1, cs13_2, cs13_3, cs13_4, cs13_5⟩ := Xs13.out.cells; have Xo13 := Lib.hid (Qo.out.below hb Qo.out.lt); obtain ⟨co13_0, co13_1, co13_2, co13_3⟩ := Xo13.out.cells; have XC13 := Lib.hid (QC.out.below hb QC.out.lt); have lw13 : w.heap.size ≤ D := Nat.le_trans QB.out.size hge13; have XD13 := Lib.hid hkb; have B13 := Lib.hid (QB.out.trans (hb.mono QB.out.size)); clear hb hkb Qs Qo QC QB)
        | (go_at_call 20; refine (now_any D x r _ HOK.out XD13.out).mono ?_; rintro e w14 ⟨rfl, hb⟩; have hb : Below w13.heap.size w13 w14 := ⟨hb.os, hb.tape, hb.output, hb.size, hb.block⟩; have Xs14 := Lib.hid (Xs13.out.below hb Xs13.out.lt); obtain ⟨cs14_0, cs14_1, cs14_2, cs14_3, cs14_4, cs14_5⟩ := Xs14.out.cells; have Xo14 := Lib.hid (Xo13.out.below hb Xo13.out.lt); obtain ⟨co14_0, co14_1, co14_2, co14_3⟩ := Xo14.out.cells; have XC14 := Lib.hid (XC13.out.below hb XC13.out.lt); have XD14 := Lib.hid (XD13.out.below hb XD13.out.lt); have B14 := Lib.hid (B13.out.trans (hb.mono B13.out.size)); have hz14 := hb.size; clear hb Xs13 Xo13 XC13 XD13 B13))
  clear c11_0 c11_1 c11_2 c11_3 c11_4 c11_5 c12_0 c12_1 c12_2 c12_3
  rw [mvE_late (x := x) (r := r) (by omega) (by have := HR.out; omega)]
  obtain ⟨tt, htt⟩ : ∃ tt, (mvS x r).t = tt := ⟨_, rfl⟩
  rw [htt]
  clear htt
  go_wp2_with fail
  refine (awake10_any _).mono ?_
  rintro e w15 ⟨rfl, hb⟩
  have Xs15 := Lib.hid (Xs14.out.below hb Xs14.out.lt)
  have Xo15 := Lib.hid (Xo14.out.below hb Xo14.out.lt)
  have XC15 := Lib.hid (XC14.out.below hb XC14.out.lt)
  have XD15 := Lib.hid (XD14.out.below hb XD14.out.lt)
  have B15 := Lib.hid (B14.out.trans (hb.mono B14.out.size))
  have hz15 := hb.size
  clear hb Xs14 Xo14 XC14 XD14 B14
  go_wp2_with fail
  go_ret
  exact ⟨rfl, B15.out⟩
set_option maxRecDepth 100000 in
set_option maxHeartbeats 1000000 in
theorem refuses_outb_late (x : St) (k r a b : Int) (w : World) (hx : Ok x) (hk : 3 < k) (hr : ¬ r < x.r) (hl : ¬ r ≤ 4503599627370496) :
    Calls Try.prog 9 #[.agg #[.int .i64 x.r, .int .i64 x.t, .int .i64 x.p, .int .i64 x.l, .int .i64 x.q, .int .i64 x.s], .agg #[.int .i64 k, .int .i64 r, .int .i64 a, .int .i64 b]] w fun e w' => e = .returned (.bool true) ∧ Below w.heap.size w w' := by
  have BB := Lib.hid (Below.refl w.heap.size w)
  have HOK := Lib.hid hx
  have HR := Lib.hid hr
  obtain ⟨m, hm⟩ : ∃ m, cE x k r a b = m := ⟨_, rfl⟩
  have HM := Lib.hid hm
  clear hm
  have dk0 : decide (0 ≤ k) = true := decide_eq_true (by omega)
  have dk1 : decide (k ≤ 3) = false := decide_eq_false (by omega)
  have d1 : decide (r < x.r) = false := decide_eq_false hr
  have d2 : decide (r ≤ 4503599627370496) = false := decide_eq_false hl
  clear hx hr
  have Ns1 : Hid (KB 23 (w.alloc (.cells #[.int .i64 x.r, .int .i64 x.t, .int .i64 x.p, .int .i64 x.l, .int .i64 x.q, .int .i64 x.s] 23)) w.heap.size ⟨x.r, x.t, x.p, x.l, x.q, x.s⟩) := Lib.hid (kb_new _ w x.r x.t x.p x.l x.q x.s)
  have E1 := Lib.hid (BB.out.alloc BB.out.size (.cells #[.int .i64 x.r, .int .i64 x.t, .int .i64 x.p, .int .i64 x.l, .int .i64 x.q, .int .i64 x.s] 23))
  have hs1 := BB.out.size
  obtain ⟨S1, hS1⟩ : ∃ W, w.alloc (.cells #[.int .i64 x.r, .int .i64 x.t, .int .i64 x.p, .int .i64 x.l, .int .i64 x.q, .int .i64 x.s] 23) = W := ⟨_, rfl⟩
  have hsz1 : S1.heap.size = w.heap.size + 1 := by rw [← hS1]; simp
  have HSZ1 := Lib.hid hsz1
  have hle1 : w.heap.size < S1.heap.size := by omega
  clear hsz1
  rw [hS1] at Ns1 E1
  clear BB
  have No2 : Hid (OB 38 (S1.alloc (.cells #[.int .i64 k, .int .i64 r, .int .i64 a, .int .i64 b] 38)) S1.heap.size k r a b) := Lib.hid (ob_new _ S1 k r a b)
  have ls2 := Ns1.out.lt
  have Ns2 := Lib.hid (Ns1.out.alloc (.cells #[.int .i64 k, .int .i64 r, .int .i64 a, .int .i64 b] 38))
  have E2 := Lib.hid (E1.out.alloc E1.out.size (.cells #[.int .i64 k, .int .i64 r, .int .i64 a, .int .i64 b] 38))
  have hs2 := E1.out.size
  obtain ⟨S2, hS2⟩ : ∃ W, S1.alloc (.cells #[.int .i64 k, .int .i64 r, .int .i64 a, .int .i64 b] 38) = W := ⟨_, rfl⟩
  have hsz2 : S2.heap.size = S1.heap.size + 1 := by rw [← hS2]; simp
  have HSZ2 := Lib.hid hsz2
  have hle2 : S1.heap.size < S2.heap.size := by omega
  clear hsz2
  rw [hS2] at No2 Ns2 E2
  clear Ns1 E1
  obtain ⟨c3_0, c3_1, c3_2, c3_3, c3_4, c3_5⟩ := Ns2.out.cells
  obtain ⟨c4_0, c4_1, c4_2, c4_3⟩ := No2.out.cells
  go_enter Try.func9, Try.ntmps9
  go_wp2_with fail
  clear hS1 hS2 c3_0 c3_1 c3_2 c3_3 c3_4 c3_5 c4_0 c4_1 c4_2 c4_3
  refine (of_yes x _ HOK.out).mono ?_
  rintro e w5 ⟨C, rfl, hge5, hkb, hb⟩
  have Xs5 := Lib.hid (Ns2.out.below hb Ns2.out.lt)
  have nes5 : w.heap.size < C := Nat.lt_of_lt_of_le Ns2.out.lt hge5
  have Xo5 := Lib.hid (No2.out.below hb No2.out.lt)
  have neo5 : S1.heap.size < C := Nat.lt_of_lt_of_le No2.out.lt hge5
  have lw5 : w.heap.size ≤ C := Nat.le_trans E2.out.size hge5
  have XC5 := Lib.hid hkb
  have B5 := Lib.hid (E2.out.trans (hb.mono E2.out.size))
  clear hb hkb Ns2 No2 E2
  obtain ⟨c6_0, c6_1, c6_2, c6_3, c6_4, c6_5⟩ := Xs5.out.cells
  obtain ⟨c7_0, c7_1, c7_2, c7_3⟩ := Xo5.out.cells
  go_wp2_with fail
  clear c6_0 c6_1 c6_2 c6_3 c6_4 c6_5 c7_0 c7_1 c7_2 c7_3
  refine (call_any C x k r a b _ HOK.out XC5.out).mono ?_
  rintro e w8 ⟨rfl, hkb, hg⟩
  rw [HM.out]
  have XC8 := Lib.hid hkb
  have Xs8 := Lib.hid (Xs5.out.grown hg (by omega))
  have Xo8 := Lib.hid (Xo5.out.grown hg (by omega))
  have B8 := Lib.hid (below_of_grown' B5.out hg (by omega) B5.out.size)
  clear hkb hg XC5 Xs5 Xo5 B5
  obtain ⟨n, hn⟩ : ∃ n, cN x k r = n := ⟨_, rfl⟩
  rw [hn]
  clear hn
  obtain ⟨c9_0, c9_1, c9_2, c9_3, c9_4, c9_5⟩ := Xs8.out.cells
  obtain ⟨c10_0, c10_1, c10_2, c10_3⟩ := Xo8.out.cells
  go_wp2_with fail
  go_quiet (fail)
  clear c9_0 c9_1 c9_2 c9_3 c9_4 c9_5 c10_0 c10_1 c10_2 c10_3
  have Qs := Lib.hid (Xs8.out.drewN nq)
  have Qo := Lib.hid (Xo8.out.drewN nq)
  have QC := Lib.hid (XC8.out.drewN nq)
  have QB := Lib.hid (blwn B8.out nq)
  have hqs : w8.heap.size ≤ (w8.drewN nq).heap.size := Nat.le_refl _
  obtain ⟨Q, hQ⟩ : ∃ W, w8.drewN nq = W := ⟨_, rfl⟩
  rw [hQ] at Qs Qo QC QB hqs ⊢
  clear hQ Xs8 Xo8 XC8 B8
  obtain ⟨c11_0, c11_1, c11_2, c11_3, c11_4, c11_5⟩ := Qs.out.cells
  obtain ⟨c12_0, c12_1, c12_2, c12_3⟩ := Qo.out.cells
  go_wp2_with fail
  go_region_held3 (fun w' => w'.cell? ⟨w.heap.size, 0, none⟩ = some (.int .i64 x.r) ∧ w'.cell? ⟨w.heap.size, 1, none⟩ = some (.int .i64 x.t) ∧ w'.cell? ⟨w.heap.size, 2, none⟩ = some (.int .i64 x.p) ∧ w'.cell? ⟨w.heap.size, 3, none⟩ = some (.int .i64 x.l) ∧ w'.cell? ⟨w.heap.size, 4, none⟩ = some (.int .i64 x.q) ∧ w'.cell? ⟨w.heap.size, 5, none⟩ = some (.int .i64 x.s) ∧ w'.cell? ⟨S1.heap.size, 0, none⟩ = some (.int .i64 k) ∧ w'.cell? ⟨S1.heap.size, 1, none⟩ = some (.int .i64 r) ∧ w'.cell? ⟨S1.heap.size, 2, none⟩ = some (.int .i64 a) ∧ w'.cell? ⟨S1.heap.size, 3, none⟩ = some (.int .i64 b)) (go_keep)
      (first
        | (go_at_call 11; refine (of_yes x _ HOK.out).mono ?_; rintro e w13 ⟨D, rfl, hge13, hkb, hb⟩; have hb : Below Q.heap.size Q w13 := ⟨hb.os, hb.tape, hb.output, hb.size, hb.block⟩; have hge13 : Q.heap.size ≤ D := hge13; have Xs13 := Lib.hid (Qs.out.below hb Qs.out.lt); obtain ⟨cs13_0, cs13_1, cs13_2, cs13_3, cs13_4, cs13_5⟩ := Xs13.out.cells; have Xo13 := Lib.hid (Qo.out.below hb Qo.out.lt); obtain ⟨co13_0, co13_1, co13_2, co13_3⟩ := Xo13.out.cells; have XC13 := Lib.hid (QC.out.below hb QC.out.lt); have lw13 : w.heap.size ≤ D := Nat.le_trans QB.out.size hge13; have XD13 := Lib.hid hkb; have B13 := Lib.hid (QB.out.trans (hb.mono QB.out.size)); clear hb hkb Qs Qo QC QB)
        | (go_at_call 20; refine (now_any D x r _ HOK.out XD13.out).mono ?_; rintro e w14 ⟨rfl, hb⟩; have hb : Below w13.heap.size w13 w14 := ⟨hb.os, hb.tape, hb.output, hb.size, hb.block⟩; have Xs14 := Lib.hid (Xs13.out.below hb Xs13.out.lt); obtain ⟨cs14_0, cs14_1, cs14_2, cs14_3, cs14_4, cs14_5⟩ := Xs14.out.cells; have Xo14 := Lib.hid (Xo13.out.below hb Xo13.out.lt); obtain ⟨co14_0, co14_1, co14_2, co14_3⟩ := Xo14.out.cells; have XC14 := Lib.hid (XC13.out.below hb XC13.out.lt); have XD14 := Lib.hid (XD13.out.below hb XD13.out.lt); have B14 := Lib.hid (B13.out.trans (hb.mono B13.out.size)); have hz14 := hb.size; clear hb Xs13 Xo13 XC13 XD13 B13))
  clear c11_0 c11_1 c11_2 c11_3 c11_4 c11_5 c12_0 c12_1 c12_2 c12_3
  rw [mvE_late (x := x) (r := r) (by omega) (by have := HR.out; omega)]
  obtain ⟨tt, htt⟩ : ∃ tt, (mvS x r).t = tt := ⟨_, rfl⟩
  rw [htt]
  clear htt
  go_wp2_with fail
  refine (awake10_any _).mono ?_
  rintro e w15 ⟨rfl, hb⟩
  have Xs15 := Lib.hid (Xs14.out.below hb Xs14.out.lt)
  have Xo15 := Lib.hid (Xo14.out.below hb Xo14.out.lt)
  have XC15 := Lib.hid (XC14.out.below hb XC14.out.lt)
  have XD15 := Lib.hid (XD14.out.below hb XD14.out.lt)
  have B15 := Lib.hid (B14.out.trans (hb.mono B14.out.size))
  have hz15 := hb.size
  clear hb Xs14 Xo14 XC14 XD14 B14
  go_wp2_with fail
  go_ret
  exact ⟨rfl, B15.out⟩
set_option maxRecDepth 100000 in
set_option maxHeartbeats 1000000 in
theorem refuses_ok_early (x : St) (k r a b : Int) (w : World) (hx : Ok x) (hk : 0 ≤ k ∧ k ≤ 3) (he : cE x k r a b = 0) (hr : r < x.r) :
    Calls Try.prog 9 #[.agg #[.int .i64 x.r, .int .i64 x.t, .int .i64 x.p, .int .i64 x.l, .int .i64 x.q, .int .i64 x.s], .agg #[.int .i64 k, .int .i64 r, .int .i64 a, .int .i64 b]] w fun e w' => e = .returned (.bool true) ∧ Below w.heap.size w w' := by
  have BB := Lib.hid (Below.refl w.heap.size w)
  have HOK := Lib.hid hx
  have HR := Lib.hid hr
  have dk0 : decide (0 ≤ k) = true := decide_eq_true hk.1
  have dk1 : decide (k ≤ 3) = true := decide_eq_true hk.2
  have HM := Lib.hid he
  clear he
  have d1 : decide (r < x.r) = true := decide_eq_true hr
  clear hx hr hk
  have Ns1 : Hid (KB 23 (w.alloc (.cells #[.int .i64 x.r, .int .i64 x.t, .int .i64 x.p, .int .i64 x.l, .int .i64 x.q, .int .i64 x.s] 23)) w.heap.size ⟨x.r, x.t, x.p, x.l, x.q, x.s⟩) := Lib.hid (kb_new _ w x.r x.t x.p x.l x.q x.s)
  have E1 := Lib.hid (BB.out.alloc BB.out.size (.cells #[.int .i64 x.r, .int .i64 x.t, .int .i64 x.p, .int .i64 x.l, .int .i64 x.q, .int .i64 x.s] 23))
  have hs1 := BB.out.size
  obtain ⟨S1, hS1⟩ : ∃ W, w.alloc (.cells #[.int .i64 x.r, .int .i64 x.t, .int .i64 x.p, .int .i64 x.l, .int .i64 x.q, .int .i64 x.s] 23) = W := ⟨_, rfl⟩
  have hsz1 : S1.heap.size = w.heap.size + 1 := by rw [← hS1]; simp
  have HSZ1 := Lib.hid hsz1
  have hle1 : w.heap.size < S1.heap.size := by omega
  clear hsz1
  rw [hS1] at Ns1 E1
  clear BB
  have No2 : Hid (OB 38 (S1.alloc (.cells #[.int .i64 k, .int .i64 r, .int .i64 a, .int .i64 b] 38)) S1.heap.size k r a b) := Lib.hid (ob_new _ S1 k r a b)
  have ls2 := Ns1.out.lt
  have Ns2 := Lib.hid (Ns1.out.alloc (.cells #[.int .i64 k, .int .i64 r, .int .i64 a, .int .i64 b] 38))
  have E2 := Lib.hid (E1.out.alloc E1.out.size (.cells #[.int .i64 k, .int .i64 r, .int .i64 a, .int .i64 b] 38))
  have hs2 := E1.out.size
  obtain ⟨S2, hS2⟩ : ∃ W, S1.alloc (.cells #[.int .i64 k, .int .i64 r, .int .i64 a, .int .i64 b] 38) = W := ⟨_, rfl⟩
  have hsz2 : S2.heap.size = S1.heap.size + 1 := by rw [← hS2]; simp
  have HSZ2 := Lib.hid hsz2
  have hle2 : S1.heap.size < S2.heap.size := by omega
  clear hsz2
  rw [hS2] at No2 Ns2 E2
  clear Ns1 E1
  obtain ⟨c3_0, c3_1, c3_2, c3_3, c3_4, c3_5⟩ := Ns2.out.cells
  obtain ⟨c4_0, c4_1, c4_2, c4_3⟩ := No2.out.cells
  go_enter Try.func9, Try.ntmps9
  go_wp2_with fail
  clear hS1 hS2 c3_0 c3_1 c3_2 c3_3 c3_4 c3_5 c4_0 c4_1 c4_2 c4_3
  refine (of_yes x _ HOK.out).mono ?_
  rintro e w5 ⟨C, rfl, hge5, hkb, hb⟩
  have Xs5 := Lib.hid (Ns2.out.below hb Ns2.out.lt)
  have nes5 : w.heap.size < C := Nat.lt_of_lt_of_le Ns2.out.lt hge5
  have Xo5 := Lib.hid (No2.out.below hb No2.out.lt)
  have neo5 : S1.heap.size < C := Nat.lt_of_lt_of_le No2.out.lt hge5
  have lw5 : w.heap.size ≤ C := Nat.le_trans E2.out.size hge5
  have XC5 := Lib.hid hkb
  have B5 := Lib.hid (E2.out.trans (hb.mono E2.out.size))
  clear hb hkb Ns2 No2 E2
  obtain ⟨c6_0, c6_1, c6_2, c6_3, c6_4, c6_5⟩ := Xs5.out.cells
  obtain ⟨c7_0, c7_1, c7_2, c7_3⟩ := Xo5.out.cells
  go_wp2_with fail
  clear c6_0 c6_1 c6_2 c6_3 c6_4 c6_5 c7_0 c7_1 c7_2 c7_3
  refine (call_any C x k r a b _ HOK.out XC5.out).mono ?_
  rintro e w8 ⟨rfl, hkb, hg⟩
  rw [HM.out]
  have XC8 := Lib.hid hkb
  have Xs8 := Lib.hid (Xs5.out.grown hg (by omega))
  have Xo8 := Lib.hid (Xo5.out.grown hg (by omega))
  have B8 := Lib.hid (below_of_grown' B5.out hg (by omega) B5.out.size)
  clear hkb hg XC5 Xs5 Xo5 B5
  obtain ⟨n, hn⟩ : ∃ n, cN x k r = n := ⟨_, rfl⟩
  rw [hn]
  clear hn
  obtain ⟨c9_0, c9_1, c9_2, c9_3, c9_4, c9_5⟩ := Xs8.out.cells
  obtain ⟨c10_0, c10_1, c10_2, c10_3⟩ := Xo8.out.cells
  go_wp2_with fail
  go_quiet (fail)
  clear c9_0 c9_1 c9_2 c9_3 c9_4 c9_5 c10_0 c10_1 c10_2 c10_3
  have Qs := Lib.hid (Xs8.out.drewN nq)
  have Qo := Lib.hid (Xo8.out.drewN nq)
  have QC := Lib.hid (XC8.out.drewN nq)
  have QB := Lib.hid (blwn B8.out nq)
  have hqs : w8.heap.size ≤ (w8.drewN nq).heap.size := Nat.le_refl _
  obtain ⟨Q, hQ⟩ : ∃ W, w8.drewN nq = W := ⟨_, rfl⟩
  rw [hQ] at Qs Qo QC QB hqs ⊢
  clear hQ Xs8 Xo8 XC8 B8
  obtain ⟨c11_0, c11_1, c11_2, c11_3, c11_4, c11_5⟩ := Qs.out.cells
  obtain ⟨c12_0, c12_1, c12_2, c12_3⟩ := Qo.out.cells
  go_wp2_with fail
  go_region_held3 (fun w' => w'.cell? ⟨w.heap.size, 0, none⟩ = some (.int .i64 x.r) ∧ w'.cell? ⟨w.heap.size, 1, none⟩ = some (.int .i64 x.t) ∧ w'.cell? ⟨w.heap.size, 2, none⟩ = some (.int .i64 x.p) ∧ w'.cell? ⟨w.heap.size, 3, none⟩ = some (.int .i64 x.l) ∧ w'.cell? ⟨w.heap.size, 4, none⟩ = some (.int .i64 x.q) ∧ w'.cell? ⟨w.heap.size, 5, none⟩ = some (.int .i64 x.s) ∧ w'.cell? ⟨S1.heap.size, 0, none⟩ = some (.int .i64 k) ∧ w'.cell? ⟨S1.heap.size, 1, none⟩ = some (.int .i64 r) ∧ w'.cell? ⟨S1.heap.size, 2, none⟩ = some (.int .i64 a) ∧ w'.cell? ⟨S1.heap.size, 3, none⟩ = some (.int .i64 b)) (go_keep)
      (first
        | (go_at_call 11; refine (of_yes x _ HOK.out).mono ?_; rintro e w13 ⟨D, rfl, hge13, hkb, hb⟩; have hb : Below Q.heap.size Q w13 := ⟨hb.os, hb.tape, hb.output, hb.size, hb.block⟩; have hge13 : Q.heap.size ≤ D := hge13; have Xs13 := Lib.hid (Qs.out.below hb Qs.out.lt); obtain ⟨cs13_0, cs13_1, cs13_2, cs13_3, cs13_4, cs13_5⟩ := Xs13.out.cells; have Xo13 := Lib.hid (Qo.out.below hb Qo.out.lt); obtain ⟨co13_0, co13_1, co13_2, co13_3⟩ := Xo13.out.cells; have XC13 := Lib.hid (QC.out.below hb QC.out.lt); have lw13 : w.heap.size ≤ D := Nat.le_trans QB.out.size hge13; have XD13 := Lib.hid hkb; have B13 := Lib.hid (QB.out.trans (hb.mono QB.out.size)); clear hb hkb Qs Qo QC QB)
        | (go_at_call 20; refine (now_any D x r _ HOK.out XD13.out).mono ?_; rintro e w14 ⟨rfl, hb⟩; have hb : Below w13.heap.size w13 w14 := ⟨hb.os, hb.tape, hb.output, hb.size, hb.block⟩; have Xs14 := Lib.hid (Xs13.out.below hb Xs13.out.lt); obtain ⟨cs14_0, cs14_1, cs14_2, cs14_3, cs14_4, cs14_5⟩ := Xs14.out.cells; have Xo14 := Lib.hid (Xo13.out.below hb Xo13.out.lt); obtain ⟨co14_0, co14_1, co14_2, co14_3⟩ := Xo14.out.cells; have XC14 := Lib.hid (XC13.out.below hb XC13.out.lt); have XD14 := Lib.hid (XD13.out.below hb XD13.out.lt); have B14 := Lib.hid (B13.out.trans (hb.mono B13.out.size)); have hz14 := hb.size; clear hb Xs13 Xo13 XC13 XD13 B13))
  clear c11_0 c11_1 c11_2 c11_3 c11_4 c11_5 c12_0 c12_1 c12_2 c12_3
  rw [mvE_early HR.out]
  obtain ⟨tt, htt⟩ : ∃ tt, (mvS x r).t = tt := ⟨_, rfl⟩
  rw [htt]
  clear htt
  go_wp2_with fail
  refine (awake10_any _).mono ?_
  rintro e w15 ⟨rfl, hb⟩
  have Xs15 := Lib.hid (Xs14.out.below hb Xs14.out.lt)
  have Xo15 := Lib.hid (Xo14.out.below hb Xo14.out.lt)
  have XC15 := Lib.hid (XC14.out.below hb XC14.out.lt)
  have XD15 := Lib.hid (XD14.out.below hb XD14.out.lt)
  have B15 := Lib.hid (B14.out.trans (hb.mono B14.out.size))
  have hz15 := hb.size
  clear hb Xs14 Xo14 XC14 XD14 B14
  go_wp2_with fail
  go_ret
  exact ⟨rfl, B15.out⟩
set_option maxRecDepth 100000 in
set_option maxHeartbeats 1000000 in
theorem refuses_ok_mid (x : St) (k r a b : Int) (w : World) (hx : Ok x) (hk : 0 ≤ k ∧ k ≤ 3) (he : cE x k r a b = 0) (hr : ¬ r < x.r) (hl : r ≤ 4503599627370496) :
    Calls Try.prog 9 #[.agg #[.int .i64 x.r, .int .i64 x.t, .int .i64 x.p, .int .i64 x.l, .int .i64 x.q, .int .i64 x.s], .agg #[.int .i64 k, .int .i64 r, .int .i64 a, .int .i64 b]] w fun e w' => e = .returned (.bool true) ∧ Below w.heap.size w w' := by
  have BB := Lib.hid (Below.refl w.heap.size w)
  have HOK := Lib.hid hx
  have HR := Lib.hid hr
  have dk0 : decide (0 ≤ k) = true := decide_eq_true hk.1
  have dk1 : decide (k ≤ 3) = true := decide_eq_true hk.2
  have HM := Lib.hid he
  clear he
  have d1 : decide (r < x.r) = false := decide_eq_false hr
  have d2 : decide (r ≤ 4503599627370496) = true := decide_eq_true hl
  clear hx hr hl hk
  have Ns1 : Hid (KB 23 (w.alloc (.cells #[.int .i64 x.r, .int .i64 x.t, .int .i64 x.p, .int .i64 x.l, .int .i64 x.q, .int .i64 x.s] 23)) w.heap.size ⟨x.r, x.t, x.p, x.l, x.q, x.s⟩) := Lib.hid (kb_new _ w x.r x.t x.p x.l x.q x.s)
  have E1 := Lib.hid (BB.out.alloc BB.out.size (.cells #[.int .i64 x.r, .int .i64 x.t, .int .i64 x.p, .int .i64 x.l, .int .i64 x.q, .int .i64 x.s] 23))
  have hs1 := BB.out.size
  obtain ⟨S1, hS1⟩ : ∃ W, w.alloc (.cells #[.int .i64 x.r, .int .i64 x.t, .int .i64 x.p, .int .i64 x.l, .int .i64 x.q, .int .i64 x.s] 23) = W := ⟨_, rfl⟩
  have hsz1 : S1.heap.size = w.heap.size + 1 := by rw [← hS1]; simp
  have HSZ1 := Lib.hid hsz1
  have hle1 : w.heap.size < S1.heap.size := by omega
  clear hsz1
  rw [hS1] at Ns1 E1
  clear BB
  have No2 : Hid (OB 38 (S1.alloc (.cells #[.int .i64 k, .int .i64 r, .int .i64 a, .int .i64 b] 38)) S1.heap.size k r a b) := Lib.hid (ob_new _ S1 k r a b)
  have ls2 := Ns1.out.lt
  have Ns2 := Lib.hid (Ns1.out.alloc (.cells #[.int .i64 k, .int .i64 r, .int .i64 a, .int .i64 b] 38))
  have E2 := Lib.hid (E1.out.alloc E1.out.size (.cells #[.int .i64 k, .int .i64 r, .int .i64 a, .int .i64 b] 38))
  have hs2 := E1.out.size
  obtain ⟨S2, hS2⟩ : ∃ W, S1.alloc (.cells #[.int .i64 k, .int .i64 r, .int .i64 a, .int .i64 b] 38) = W := ⟨_, rfl⟩
  have hsz2 : S2.heap.size = S1.heap.size + 1 := by rw [← hS2]; simp
  have HSZ2 := Lib.hid hsz2
  have hle2 : S1.heap.size < S2.heap.size := by omega
  clear hsz2
  rw [hS2] at No2 Ns2 E2
  clear Ns1 E1
  obtain ⟨c3_0, c3_1, c3_2, c3_3, c3_4, c3_5⟩ := Ns2.out.cells
  obtain ⟨c4_0, c4_1, c4_2, c4_3⟩ := No2.out.cells
  go_enter Try.func9, Try.ntmps9
  go_wp2_with fail
  clear hS1 hS2 c3_0 c3_1 c3_2 c3_3 c3_4 c3_5 c4_0 c4_1 c4_2 c4_3
  refine (of_yes x _ HOK.out).mono ?_
  rintro e w5 ⟨C, rfl, hge5, hkb, hb⟩
  have Xs5 := Lib.hid (Ns2.out.below hb Ns2.out.lt)
  have nes5 : w.heap.size < C := Nat.lt_of_lt_of_le Ns2.out.lt hge5
  have Xo5 := Lib.hid (No2.out.below hb No2.out.lt)
  have neo5 : S1.heap.size < C := Nat.lt_of_lt_of_le No2.out.lt hge5
  have lw5 : w.heap.size ≤ C := Nat.le_trans E2.out.size hge5
  have XC5 := Lib.hid hkb
  have B5 := Lib.hid (E2.out.trans (hb.mono E2.out.size))
  clear hb hkb Ns2 No2 E2
  obtain ⟨c6_0, c6_1, c6_2, c6_3, c6_4, c6_5⟩ := Xs5.out.cells
  obtain ⟨c7_0, c7_1, c7_2, c7_3⟩ := Xo5.out.cells
  go_wp2_with fail
  clear c6_0 c6_1 c6_2 c6_3 c6_4 c6_5 c7_0 c7_1 c7_2 c7_3
  refine (call_any C x k r a b _ HOK.out XC5.out).mono ?_
  rintro e w8 ⟨rfl, hkb, hg⟩
  rw [HM.out]
  have XC8 := Lib.hid hkb
  have Xs8 := Lib.hid (Xs5.out.grown hg (by omega))
  have Xo8 := Lib.hid (Xo5.out.grown hg (by omega))
  have B8 := Lib.hid (below_of_grown' B5.out hg (by omega) B5.out.size)
  clear hkb hg XC5 Xs5 Xo5 B5
  obtain ⟨n, hn⟩ : ∃ n, cN x k r = n := ⟨_, rfl⟩
  rw [hn]
  clear hn
  obtain ⟨c9_0, c9_1, c9_2, c9_3, c9_4, c9_5⟩ := Xs8.out.cells
  obtain ⟨c10_0, c10_1, c10_2, c10_3⟩ := Xo8.out.cells
  go_wp2_with fail
  go_quiet (fail)
  clear c9_0 c9_1 c9_2 c9_3 c9_4 c9_5 c10_0 c10_1 c10_2 c10_3
  have Qs := Lib.hid (Xs8.out.drewN nq)
  have Qo := Lib.hid (Xo8.out.drewN nq)
  have QC := Lib.hid (XC8.out.drewN nq)
  have QB := Lib.hid (blwn B8.out nq)
  have hqs : w8.heap.size ≤ (w8.drewN nq).heap.size := Nat.le_refl _
  obtain ⟨Q, hQ⟩ : ∃ W, w8.drewN nq = W := ⟨_, rfl⟩
  rw [hQ] at Qs Qo QC QB hqs ⊢
  clear hQ Xs8 Xo8 XC8 B8
  obtain ⟨c11_0, c11_1, c11_2, c11_3, c11_4, c11_5⟩ := Qs.out.cells
  obtain ⟨c12_0, c12_1, c12_2, c12_3⟩ := Qo.out.cells
  go_wp2_with fail
  go_region_held3 (fun w' => w'.cell? ⟨w.heap.size, 0, none⟩ = some (.int .i64 x.r) ∧ w'.cell? ⟨w.heap.size, 1, none⟩ = some (.int .i64 x.t) ∧ w'.cell? ⟨w.heap.size, 2, none⟩ = some (.int .i64 x.p) ∧ w'.cell? ⟨w.heap.size, 3, none⟩ = some (.int .i64 x.l) ∧ w'.cell? ⟨w.heap.size, 4, none⟩ = some (.int .i64 x.q) ∧ w'.cell? ⟨w.heap.size, 5, none⟩ = some (.int .i64 x.s) ∧ w'.cell? ⟨S1.heap.size, 0, none⟩ = some (.int .i64 k) ∧ w'.cell? ⟨S1.heap.size, 1, none⟩ = some (.int .i64 r) ∧ w'.cell? ⟨S1.heap.size, 2, none⟩ = some (.int .i64 a) ∧ w'.cell? ⟨S1.heap.size, 3, none⟩ = some (.int .i64 b)) (go_keep)
      (first
        | (go_at_call 11; refine (of_yes x _ HOK.out).mono ?_; rintro e w13 ⟨D, rfl, hge13, hkb, hb⟩; have hb : Below Q.heap.size Q w13 := ⟨hb.os, hb.tape, hb.output, hb.size, hb.block⟩; have hge13 : Q.heap.size ≤ D := hge13; have Xs13 := Lib.hid (Qs.out.below hb Qs.out.lt); obtain ⟨cs13_0, cs13_1, cs13_2, cs13_3, cs13_4, cs13_5⟩ := Xs13.out.cells; have Xo13 := Lib.hid (Qo.out.below hb Qo.out.lt); obtain ⟨co13_0, co13_1, co13_2, co13_3⟩ := Xo13.out.cells; have XC13 := Lib.hid (QC.out.below hb QC.out.lt); have lw13 : w.heap.size ≤ D := Nat.le_trans QB.out.size hge13; have XD13 := Lib.hid hkb; have B13 := Lib.hid (QB.out.trans (hb.mono QB.out.size)); clear hb hkb Qs Qo QC QB)
        | (go_at_call 20; refine (now_any D x r _ HOK.out XD13.out).mono ?_; rintro e w14 ⟨rfl, hb⟩; have hb : Below w13.heap.size w13 w14 := ⟨hb.os, hb.tape, hb.output, hb.size, hb.block⟩; have Xs14 := Lib.hid (Xs13.out.below hb Xs13.out.lt); obtain ⟨cs14_0, cs14_1, cs14_2, cs14_3, cs14_4, cs14_5⟩ := Xs14.out.cells; have Xo14 := Lib.hid (Xo13.out.below hb Xo13.out.lt); obtain ⟨co14_0, co14_1, co14_2, co14_3⟩ := Xo14.out.cells; have XC14 := Lib.hid (XC13.out.below hb XC13.out.lt); have XD14 := Lib.hid (XD13.out.below hb XD13.out.lt); have B14 := Lib.hid (B13.out.trans (hb.mono B13.out.size)); have hz14 := hb.size; clear hb Xs13 Xo13 XC13 XD13 B13))
  clear c11_0 c11_1 c11_2 c11_3 c11_4 c11_5 c12_0 c12_1 c12_2 c12_3
  obtain ⟨m2, hm2⟩ : ∃ m2, mvE x r = m2 := ⟨_, rfl⟩
  rw [hm2]
  clear hm2
  obtain ⟨tt, htt⟩ : ∃ tt, (mvS x r).t = tt := ⟨_, rfl⟩
  rw [htt]
  clear htt
  go_wp2_with fail
  refine (awake10_any _).mono ?_
  rintro e w15 ⟨rfl, hb⟩
  have Xs15 := Lib.hid (Xs14.out.below hb Xs14.out.lt)
  have Xo15 := Lib.hid (Xo14.out.below hb Xo14.out.lt)
  have XC15 := Lib.hid (XC14.out.below hb XC14.out.lt)
  have XD15 := Lib.hid (XD14.out.below hb XD14.out.lt)
  have B15 := Lib.hid (B14.out.trans (hb.mono B14.out.size))
  have hz15 := hb.size
  clear hb Xs14 Xo14 XC14 XD14 B14
  go_wp2_with fail
  go_ret
  exact ⟨rfl, B15.out⟩
set_option maxRecDepth 100000 in
set_option maxHeartbeats 1000000 in
theorem refuses_ok_late (x : St) (k r a b : Int) (w : World) (hx : Ok x) (hk : 0 ≤ k ∧ k ≤ 3) (he : cE x k r a b = 0) (hr : ¬ r < x.r) (hl : ¬ r ≤ 4503599627370496) :
    Calls Try.prog 9 #[.agg #[.int .i64 x.r, .int .i64 x.t, .int .i64 x.p, .int .i64 x.l, .int .i64 x.q, .int .i64 x.s], .agg #[.int .i64 k, .int .i64 r, .int .i64 a, .int .i64 b]] w fun e w' => e = .returned (.bool true) ∧ Below w.heap.size w w' := by
  have BB := Lib.hid (Below.refl w.heap.size w)
  have HOK := Lib.hid hx
  have HR := Lib.hid hr
  have dk0 : decide (0 ≤ k) = true := decide_eq_true hk.1
  have dk1 : decide (k ≤ 3) = true := decide_eq_true hk.2
  have HM := Lib.hid he
  clear he
  have d1 : decide (r < x.r) = false := decide_eq_false hr
  have d2 : decide (r ≤ 4503599627370496) = false := decide_eq_false hl
  clear hx hr hk
  have Ns1 : Hid (KB 23 (w.alloc (.cells #[.int .i64 x.r, .int .i64 x.t, .int .i64 x.p, .int .i64 x.l, .int .i64 x.q, .int .i64 x.s] 23)) w.heap.size ⟨x.r, x.t, x.p, x.l, x.q, x.s⟩) := Lib.hid (kb_new _ w x.r x.t x.p x.l x.q x.s)
  have E1 := Lib.hid (BB.out.alloc BB.out.size (.cells #[.int .i64 x.r, .int .i64 x.t, .int .i64 x.p, .int .i64 x.l, .int .i64 x.q, .int .i64 x.s] 23))
  have hs1 := BB.out.size
  obtain ⟨S1, hS1⟩ : ∃ W, w.alloc (.cells #[.int .i64 x.r, .int .i64 x.t, .int .i64 x.p, .int .i64 x.l, .int .i64 x.q, .int .i64 x.s] 23) = W := ⟨_, rfl⟩
  have hsz1 : S1.heap.size = w.heap.size + 1 := by rw [← hS1]; simp
  have HSZ1 := Lib.hid hsz1
  have hle1 : w.heap.size < S1.heap.size := by omega
  clear hsz1
  rw [hS1] at Ns1 E1
  clear BB
  have No2 : Hid (OB 38 (S1.alloc (.cells #[.int .i64 k, .int .i64 r, .int .i64 a, .int .i64 b] 38)) S1.heap.size k r a b) := Lib.hid (ob_new _ S1 k r a b)
  have ls2 := Ns1.out.lt
  have Ns2 := Lib.hid (Ns1.out.alloc (.cells #[.int .i64 k, .int .i64 r, .int .i64 a, .int .i64 b] 38))
  have E2 := Lib.hid (E1.out.alloc E1.out.size (.cells #[.int .i64 k, .int .i64 r, .int .i64 a, .int .i64 b] 38))
  have hs2 := E1.out.size
  obtain ⟨S2, hS2⟩ : ∃ W, S1.alloc (.cells #[.int .i64 k, .int .i64 r, .int .i64 a, .int .i64 b] 38) = W := ⟨_, rfl⟩
  have hsz2 : S2.heap.size = S1.heap.size + 1 := by rw [← hS2]; simp
  have HSZ2 := Lib.hid hsz2
  have hle2 : S1.heap.size < S2.heap.size := by omega
  clear hsz2
  rw [hS2] at No2 Ns2 E2
  clear Ns1 E1
  obtain ⟨c3_0, c3_1, c3_2, c3_3, c3_4, c3_5⟩ := Ns2.out.cells
  obtain ⟨c4_0, c4_1, c4_2, c4_3⟩ := No2.out.cells
  go_enter Try.func9, Try.ntmps9
  go_wp2_with fail
  clear hS1 hS2 c3_0 c3_1 c3_2 c3_3 c3_4 c3_5 c4_0 c4_1 c4_2 c4_3
  refine (of_yes x _ HOK.out).mono ?_
  rintro e w5 ⟨C, rfl, hge5, hkb, hb⟩
  have Xs5 := Lib.hid (Ns2.out.below hb Ns2.out.lt)
  have nes5 : w.heap.size < C := Nat.lt_of_lt_of_le Ns2.out.lt hge5
  have Xo5 := Lib.hid (No2.out.below hb No2.out.lt)
  have neo5 : S1.heap.size < C := Nat.lt_of_lt_of_le No2.out.lt hge5
  have lw5 : w.heap.size ≤ C := Nat.le_trans E2.out.size hge5
  have XC5 := Lib.hid hkb
  have B5 := Lib.hid (E2.out.trans (hb.mono E2.out.size))
  clear hb hkb Ns2 No2 E2
  obtain ⟨c6_0, c6_1, c6_2, c6_3, c6_4, c6_5⟩ := Xs5.out.cells
  obtain ⟨c7_0, c7_1, c7_2, c7_3⟩ := Xo5.out.cells
  go_wp2_with fail
  clear c6_0 c6_1 c6_2 c6_3 c6_4 c6_5 c7_0 c7_1 c7_2 c7_3
  refine (call_any C x k r a b _ HOK.out XC5.out).mono ?_
  rintro e w8 ⟨rfl, hkb, hg⟩
  rw [HM.out]
  have XC8 := Lib.hid hkb
  have Xs8 := Lib.hid (Xs5.out.grown hg (by omega))
  have Xo8 := Lib.hid (Xo5.out.grown hg (by omega))
  have B8 := Lib.hid (below_of_grown' B5.out hg (by omega) B5.out.size)
  clear hkb hg XC5 Xs5 Xo5 B5
  obtain ⟨n, hn⟩ : ∃ n, cN x k r = n := ⟨_, rfl⟩
  rw [hn]
  clear hn
  obtain ⟨c9_0, c9_1, c9_2, c9_3, c9_4, c9_5⟩ := Xs8.out.cells
  obtain ⟨c10_0, c10_1, c10_2, c10_3⟩ := Xo8.out.cells
  go_wp2_with fail
  go_quiet (fail)
  clear c9_0 c9_1 c9_2 c9_3 c9_4 c9_5 c10_0 c10_1 c10_2 c10_3
  have Qs := Lib.hid (Xs8.out.drewN nq)
  have Qo := Lib.hid (Xo8.out.drewN nq)
  have QC := Lib.hid (XC8.out.drewN nq)
  have QB := Lib.hid (blwn B8.out nq)
  have hqs : w8.heap.size ≤ (w8.drewN nq).heap.size := Nat.le_refl _
  obtain ⟨Q, hQ⟩ : ∃ W, w8.drewN nq = W := ⟨_, rfl⟩
  rw [hQ] at Qs Qo QC QB hqs ⊢
  clear hQ Xs8 Xo8 XC8 B8
  obtain ⟨c11_0, c11_1, c11_2, c11_3, c11_4, c11_5⟩ := Qs.out.cells
  obtain ⟨c12_0, c12_1, c12_2, c12_3⟩ := Qo.out.cells
  go_wp2_with fail
  go_region_held3 (fun w' => w'.cell? ⟨w.heap.size, 0, none⟩ = some (.int .i64 x.r) ∧ w'.cell? ⟨w.heap.size, 1, none⟩ = some (.int .i64 x.t) ∧ w'.cell? ⟨w.heap.size, 2, none⟩ = some (.int .i64 x.p) ∧ w'.cell? ⟨w.heap.size, 3, none⟩ = some (.int .i64 x.l) ∧ w'.cell? ⟨w.heap.size, 4, none⟩ = some (.int .i64 x.q) ∧ w'.cell? ⟨w.heap.size, 5, none⟩ = some (.int .i64 x.s) ∧ w'.cell? ⟨S1.heap.size, 0, none⟩ = some (.int .i64 k) ∧ w'.cell? ⟨S1.heap.size, 1, none⟩ = some (.int .i64 r) ∧ w'.cell? ⟨S1.heap.size, 2, none⟩ = some (.int .i64 a) ∧ w'.cell? ⟨S1.heap.size, 3, none⟩ = some (.int .i64 b)) (go_keep)
      (first
        | (go_at_call 11; refine (of_yes x _ HOK.out).mono ?_; rintro e w13 ⟨D, rfl, hge13, hkb, hb⟩; have hb : Below Q.heap.size Q w13 := ⟨hb.os, hb.tape, hb.output, hb.size, hb.block⟩; have hge13 : Q.heap.size ≤ D := hge13; have Xs13 := Lib.hid (Qs.out.below hb Qs.out.lt); obtain ⟨cs13_0, cs13_1, cs13_2, cs13_3, cs13_4, cs13_5⟩ := Xs13.out.cells; have Xo13 := Lib.hid (Qo.out.below hb Qo.out.lt); obtain ⟨co13_0, co13_1, co13_2, co13_3⟩ := Xo13.out.cells; have XC13 := Lib.hid (QC.out.below hb QC.out.lt); have lw13 : w.heap.size ≤ D := Nat.le_trans QB.out.size hge13; have XD13 := Lib.hid hkb; have B13 := Lib.hid (QB.out.trans (hb.mono QB.out.size)); clear hb hkb Qs Qo QC QB)
        | (go_at_call 20; refine (now_any D x r _ HOK.out XD13.out).mono ?_; rintro e w14 ⟨rfl, hb⟩; have hb : Below w13.heap.size w13 w14 := ⟨hb.os, hb.tape, hb.output, hb.size, hb.block⟩; have Xs14 := Lib.hid (Xs13.out.below hb Xs13.out.lt); obtain ⟨cs14_0, cs14_1, cs14_2, cs14_3, cs14_4, cs14_5⟩ := Xs14.out.cells; have Xo14 := Lib.hid (Xo13.out.below hb Xo13.out.lt); obtain ⟨co14_0, co14_1, co14_2, co14_3⟩ := Xo14.out.cells; have XC14 := Lib.hid (XC13.out.below hb XC13.out.lt); have XD14 := Lib.hid (XD13.out.below hb XD13.out.lt); have B14 := Lib.hid (B13.out.trans (hb.mono B13.out.size)); have hz14 := hb.size; clear hb Xs13 Xo13 XC13 XD13 B13))
  clear c11_0 c11_1 c11_2 c11_3 c11_4 c11_5 c12_0 c12_1 c12_2 c12_3
  rw [mvE_late (x := x) (r := r) (by omega) (by have := HR.out; omega)]
  obtain ⟨tt, htt⟩ : ∃ tt, (mvS x r).t = tt := ⟨_, rfl⟩
  rw [htt]
  clear htt
  go_wp2_with fail
  refine (awake10_any _).mono ?_
  rintro e w15 ⟨rfl, hb⟩
  have Xs15 := Lib.hid (Xs14.out.below hb Xs14.out.lt)
  have Xo15 := Lib.hid (Xo14.out.below hb Xo14.out.lt)
  have XC15 := Lib.hid (XC14.out.below hb XC14.out.lt)
  have XD15 := Lib.hid (XD14.out.below hb XD14.out.lt)
  have B15 := Lib.hid (B14.out.trans (hb.mono B14.out.size))
  have hz15 := hb.size
  clear hb Xs14 Xo14 XC14 XD14 B14
  go_wp2_with fail
  go_ret
  exact ⟨rfl, B15.out⟩
set_option maxRecDepth 100000 in
set_option maxHeartbeats 1000000 in
theorem refuses_err_early (x : St) (k r a b : Int) (w : World) (hx : Ok x) (hk : 0 ≤ k ∧ k ≤ 3) (he : ¬ cE x k r a b = 0) (hr : r < x.r) :
    Calls Try.prog 9 #[.agg #[.int .i64 x.r, .int .i64 x.t, .int .i64 x.p, .int .i64 x.l, .int .i64 x.q, .int .i64 x.s], .agg #[.int .i64 k, .int .i64 r, .int .i64 a, .int .i64 b]] w fun e w' => e = .returned (.bool true) ∧ Below w.heap.size w w' := by
  have BB := Lib.hid (Below.refl w.heap.size w)
  have HOK := Lib.hid hx
  have HR := Lib.hid hr
  have dk0 : decide (0 ≤ k) = true := decide_eq_true hk.1
  have dk1 : decide (k ≤ 3) = true := decide_eq_true hk.2
  obtain ⟨hnn, hss⟩ := cE_err hk.1 hk.2 he
  obtain ⟨m, hm⟩ : ∃ m, cE x k r a b = m := ⟨_, rfl⟩
  rw [hm] at he
  have m0 : (m != 0) = true := by simpa using he
  have m1 : (m == 0) = false := by simpa using he
  have HM := Lib.hid hm
  have HNN := Lib.hid hnn
  have HSS := Lib.hid hss
  clear hm hnn hss he
  have d1 : decide (r < x.r) = true := decide_eq_true hr
  clear hx hr hk
  have Ns1 : Hid (KB 23 (w.alloc (.cells #[.int .i64 x.r, .int .i64 x.t, .int .i64 x.p, .int .i64 x.l, .int .i64 x.q, .int .i64 x.s] 23)) w.heap.size ⟨x.r, x.t, x.p, x.l, x.q, x.s⟩) := Lib.hid (kb_new _ w x.r x.t x.p x.l x.q x.s)
  have E1 := Lib.hid (BB.out.alloc BB.out.size (.cells #[.int .i64 x.r, .int .i64 x.t, .int .i64 x.p, .int .i64 x.l, .int .i64 x.q, .int .i64 x.s] 23))
  have hs1 := BB.out.size
  obtain ⟨S1, hS1⟩ : ∃ W, w.alloc (.cells #[.int .i64 x.r, .int .i64 x.t, .int .i64 x.p, .int .i64 x.l, .int .i64 x.q, .int .i64 x.s] 23) = W := ⟨_, rfl⟩
  have hsz1 : S1.heap.size = w.heap.size + 1 := by rw [← hS1]; simp
  have HSZ1 := Lib.hid hsz1
  have hle1 : w.heap.size < S1.heap.size := by omega
  clear hsz1
  rw [hS1] at Ns1 E1
  clear BB
  have No2 : Hid (OB 38 (S1.alloc (.cells #[.int .i64 k, .int .i64 r, .int .i64 a, .int .i64 b] 38)) S1.heap.size k r a b) := Lib.hid (ob_new _ S1 k r a b)
  have ls2 := Ns1.out.lt
  have Ns2 := Lib.hid (Ns1.out.alloc (.cells #[.int .i64 k, .int .i64 r, .int .i64 a, .int .i64 b] 38))
  have E2 := Lib.hid (E1.out.alloc E1.out.size (.cells #[.int .i64 k, .int .i64 r, .int .i64 a, .int .i64 b] 38))
  have hs2 := E1.out.size
  obtain ⟨S2, hS2⟩ : ∃ W, S1.alloc (.cells #[.int .i64 k, .int .i64 r, .int .i64 a, .int .i64 b] 38) = W := ⟨_, rfl⟩
  have hsz2 : S2.heap.size = S1.heap.size + 1 := by rw [← hS2]; simp
  have HSZ2 := Lib.hid hsz2
  have hle2 : S1.heap.size < S2.heap.size := by omega
  clear hsz2
  rw [hS2] at No2 Ns2 E2
  clear Ns1 E1
  obtain ⟨c3_0, c3_1, c3_2, c3_3, c3_4, c3_5⟩ := Ns2.out.cells
  obtain ⟨c4_0, c4_1, c4_2, c4_3⟩ := No2.out.cells
  go_enter Try.func9, Try.ntmps9
  go_wp2_with fail
  clear hS1 hS2 c3_0 c3_1 c3_2 c3_3 c3_4 c3_5 c4_0 c4_1 c4_2 c4_3
  refine (of_yes x _ HOK.out).mono ?_
  rintro e w5 ⟨C, rfl, hge5, hkb, hb⟩
  have Xs5 := Lib.hid (Ns2.out.below hb Ns2.out.lt)
  have nes5 : w.heap.size < C := Nat.lt_of_lt_of_le Ns2.out.lt hge5
  have Xo5 := Lib.hid (No2.out.below hb No2.out.lt)
  have neo5 : S1.heap.size < C := Nat.lt_of_lt_of_le No2.out.lt hge5
  have lw5 : w.heap.size ≤ C := Nat.le_trans E2.out.size hge5
  have XC5 := Lib.hid hkb
  have B5 := Lib.hid (E2.out.trans (hb.mono E2.out.size))
  clear hb hkb Ns2 No2 E2
  obtain ⟨c6_0, c6_1, c6_2, c6_3, c6_4, c6_5⟩ := Xs5.out.cells
  obtain ⟨c7_0, c7_1, c7_2, c7_3⟩ := Xo5.out.cells
  go_wp2_with fail
  clear c6_0 c6_1 c6_2 c6_3 c6_4 c6_5 c7_0 c7_1 c7_2 c7_3
  refine (call_any C x k r a b _ HOK.out XC5.out).mono ?_
  rintro e w8 ⟨rfl, hkb, hg⟩
  rw [HM.out, HNN.out]
  rw [HSS.out] at hkb
  have XC8 := Lib.hid hkb
  have Xs8 := Lib.hid (Xs5.out.grown hg (by omega))
  have Xo8 := Lib.hid (Xo5.out.grown hg (by omega))
  have B8 := Lib.hid (below_of_grown' B5.out hg (by omega) B5.out.size)
  clear hkb hg XC5 Xs5 Xo5 B5
  obtain ⟨c9_0, c9_1, c9_2, c9_3, c9_4, c9_5⟩ := Xs8.out.cells
  obtain ⟨c10_0, c10_1, c10_2, c10_3⟩ := Xo8.out.cells
  go_wp2_with fail
  go_region_held3 (fun w' => w'.cell? ⟨w.heap.size, 0, none⟩ = some (.int .i64 x.r) ∧ w'.cell? ⟨w.heap.size, 1, none⟩ = some (.int .i64 x.t) ∧ w'.cell? ⟨w.heap.size, 2, none⟩ = some (.int .i64 x.p) ∧ w'.cell? ⟨w.heap.size, 3, none⟩ = some (.int .i64 x.l) ∧ w'.cell? ⟨w.heap.size, 4, none⟩ = some (.int .i64 x.q) ∧ w'.cell? ⟨w.heap.size, 5, none⟩ = some (.int .i64 x.s) ∧ w'.cell? ⟨S1.heap.size, 0, none⟩ = some (.int .i64 k) ∧ w'.cell? ⟨S1.heap.size, 1, none⟩ = some (.int .i64 r) ∧ w'.cell? ⟨S1.heap.size, 2, none⟩ = some (.int .i64 a) ∧ w'.cell? ⟨S1.heap.size, 3, none⟩ = some (.int .i64 b)) (go_keep)
      (first | (go_at_call 13; refine (state_any C x _ ?_).mono ?_; exact XC8.out; rintro e w11 ⟨rfl, hb⟩; have hb : Below w8.heap.size w8 w11 := ⟨hb.os, hb.tape, hb.output, hb.size, hb.block⟩; have Xs11 := Lib.hid (Xs8.out.below hb Xs8.out.lt); obtain ⟨cs11_0, cs11_1, cs11_2, cs11_3, cs11_4, cs11_5⟩ := Xs11.out.cells; have Xo11 := Lib.hid (Xo8.out.below hb Xo8.out.lt); obtain ⟨co11_0, co11_1, co11_2, co11_3⟩ := Xo11.out.cells; have XC11 := Lib.hid (XC8.out.below hb XC8.out.lt); obtain ⟨cC11_0, cC11_1, cC11_2, cC11_3, cC11_4, cC11_5⟩ := XC11.out.cells; have B11 := Lib.hid (B8.out.trans (hb.mono B8.out.size)); have hz11 := hb.size; clear hb Xs8 Xo8 XC8 B8))
  clear c9_0 c9_1 c9_2 c9_3 c9_4 c9_5 c10_0 c10_1 c10_2 c10_3
  clear cs11_0 cs11_1 cs11_2 cs11_3 cs11_4 cs11_5 co11_0 co11_1 co11_2 co11_3 cC11_0 cC11_1 cC11_2 cC11_3 cC11_4 cC11_5
  obtain ⟨c12_0, c12_1, c12_2, c12_3, c12_4, c12_5⟩ := Xs11.out.cells
  obtain ⟨c13_0, c13_1, c13_2, c13_3⟩ := Xo11.out.cells
  go_wp2_with fail
  go_region_held3 (fun w' => w'.cell? ⟨w.heap.size, 0, none⟩ = some (.int .i64 x.r) ∧ w'.cell? ⟨w.heap.size, 1, none⟩ = some (.int .i64 x.t) ∧ w'.cell? ⟨w.heap.size, 2, none⟩ = some (.int .i64 x.p) ∧ w'.cell? ⟨w.heap.size, 3, none⟩ = some (.int .i64 x.l) ∧ w'.cell? ⟨w.heap.size, 4, none⟩ = some (.int .i64 x.q) ∧ w'.cell? ⟨w.heap.size, 5, none⟩ = some (.int .i64 x.s) ∧ w'.cell? ⟨S1.heap.size, 0, none⟩ = some (.int .i64 k) ∧ w'.cell? ⟨S1.heap.size, 1, none⟩ = some (.int .i64 r) ∧ w'.cell? ⟨S1.heap.size, 2, none⟩ = some (.int .i64 a) ∧ w'.cell? ⟨S1.heap.size, 3, none⟩ = some (.int .i64 b)) (go_keep)
      (first
        | (go_at_call 11; refine (of_yes x _ HOK.out).mono ?_; rintro e w14 ⟨D, rfl, hge14, hkb, hb⟩; have hb : Below w11.heap.size w11 w14 := ⟨hb.os, hb.tape, hb.output, hb.size, hb.block⟩; have hge14 : w11.heap.size ≤ D := hge14; have Xs14 := Lib.hid (Xs11.out.below hb Xs11.out.lt); obtain ⟨cs14_0, cs14_1, cs14_2, cs14_3, cs14_4, cs14_5⟩ := Xs14.out.cells; have Xo14 := Lib.hid (Xo11.out.below hb Xo11.out.lt); obtain ⟨co14_0, co14_1, co14_2, co14_3⟩ := Xo14.out.cells; have XC14 := Lib.hid (XC11.out.below hb XC11.out.lt); have lw14 : w.heap.size ≤ D := Nat.le_trans B11.out.size hge14; have XD14 := Lib.hid hkb; have B14 := Lib.hid (B11.out.trans (hb.mono B11.out.size)); clear hb hkb Xs11 Xo11 XC11 B11)
        | (go_at_call 20; refine (now_any D x r _ HOK.out XD14.out).mono ?_; rintro e w15 ⟨rfl, hb⟩; have hb : Below w14.heap.size w14 w15 := ⟨hb.os, hb.tape, hb.output, hb.size, hb.block⟩; have Xs15 := Lib.hid (Xs14.out.below hb Xs14.out.lt); obtain ⟨cs15_0, cs15_1, cs15_2, cs15_3, cs15_4, cs15_5⟩ := Xs15.out.cells; have Xo15 := Lib.hid (Xo14.out.below hb Xo14.out.lt); obtain ⟨co15_0, co15_1, co15_2, co15_3⟩ := Xo15.out.cells; have XC15 := Lib.hid (XC14.out.below hb XC14.out.lt); have XD15 := Lib.hid (XD14.out.below hb XD14.out.lt); have B15 := Lib.hid (B14.out.trans (hb.mono B14.out.size)); have hz15 := hb.size; clear hb Xs14 Xo14 XC14 XD14 B14))
  clear c12_0 c12_1 c12_2 c12_3 c12_4 c12_5 c13_0 c13_1 c13_2 c13_3
  rw [mvE_early HR.out]
  obtain ⟨tt, htt⟩ : ∃ tt, (mvS x r).t = tt := ⟨_, rfl⟩
  rw [htt]
  clear htt
  go_wp2_with fail
  refine (awake10_any _).mono ?_
  rintro e w16 ⟨rfl, hb⟩
  have Xs16 := Lib.hid (Xs15.out.below hb Xs15.out.lt)
  have Xo16 := Lib.hid (Xo15.out.below hb Xo15.out.lt)
  have XC16 := Lib.hid (XC15.out.below hb XC15.out.lt)
  have XD16 := Lib.hid (XD15.out.below hb XD15.out.lt)
  have B16 := Lib.hid (B15.out.trans (hb.mono B15.out.size))
  have hz16 := hb.size
  clear hb Xs15 Xo15 XC15 XD15 B15
  go_wp2_with fail
  go_ret
  exact ⟨rfl, B16.out⟩
set_option maxRecDepth 100000 in
set_option maxHeartbeats 1000000 in
theorem refuses_err_mid (x : St) (k r a b : Int) (w : World) (hx : Ok x) (hk : 0 ≤ k ∧ k ≤ 3) (he : ¬ cE x k r a b = 0) (hr : ¬ r < x.r) (hl : r ≤ 4503599627370496) :
    Calls Try.prog 9 #[.agg #[.int .i64 x.r, .int .i64 x.t, .int .i64 x.p, .int .i64 x.l, .int .i64 x.q, .int .i64 x.s], .agg #[.int .i64 k, .int .i64 r, .int .i64 a, .int .i64 b]] w fun e w' => e = .returned (.bool true) ∧ Below w.heap.size w w' := by
  have BB := Lib.hid (Below.refl w.heap.size w)
  have HOK := Lib.hid hx
  have HR := Lib.hid hr
  have dk0 : decide (0 ≤ k) = true := decide_eq_true hk.1
  have dk1 : decide (k ≤ 3) = true := decide_eq_true hk.2
  obtain ⟨hnn, hss⟩ := cE_err hk.1 hk.2 he
  obtain ⟨m, hm⟩ : ∃ m, cE x k r a b = m := ⟨_, rfl⟩
  rw [hm] at he
  have m0 : (m != 0) = true := by simpa using he
  have m1 : (m == 0) = false := by simpa using he
  have HM := Lib.hid hm
  have HNN := Lib.hid hnn
  have HSS := Lib.hid hss
  clear hm hnn hss he
  have d1 : decide (r < x.r) = false := decide_eq_false hr
  have d2 : decide (r ≤ 4503599627370496) = true := decide_eq_true hl
  clear hx hr hl hk
  have Ns1 : Hid (KB 23 (w.alloc (.cells #[.int .i64 x.r, .int .i64 x.t, .int .i64 x.p, .int .i64 x.l, .int .i64 x.q, .int .i64 x.s] 23)) w.heap.size ⟨x.r, x.t, x.p, x.l, x.q, x.s⟩) := Lib.hid (kb_new _ w x.r x.t x.p x.l x.q x.s)
  have E1 := Lib.hid (BB.out.alloc BB.out.size (.cells #[.int .i64 x.r, .int .i64 x.t, .int .i64 x.p, .int .i64 x.l, .int .i64 x.q, .int .i64 x.s] 23))
  have hs1 := BB.out.size
  obtain ⟨S1, hS1⟩ : ∃ W, w.alloc (.cells #[.int .i64 x.r, .int .i64 x.t, .int .i64 x.p, .int .i64 x.l, .int .i64 x.q, .int .i64 x.s] 23) = W := ⟨_, rfl⟩
  have hsz1 : S1.heap.size = w.heap.size + 1 := by rw [← hS1]; simp
  have HSZ1 := Lib.hid hsz1
  have hle1 : w.heap.size < S1.heap.size := by omega
  clear hsz1
  rw [hS1] at Ns1 E1
  clear BB
  have No2 : Hid (OB 38 (S1.alloc (.cells #[.int .i64 k, .int .i64 r, .int .i64 a, .int .i64 b] 38)) S1.heap.size k r a b) := Lib.hid (ob_new _ S1 k r a b)
  have ls2 := Ns1.out.lt
  have Ns2 := Lib.hid (Ns1.out.alloc (.cells #[.int .i64 k, .int .i64 r, .int .i64 a, .int .i64 b] 38))
  have E2 := Lib.hid (E1.out.alloc E1.out.size (.cells #[.int .i64 k, .int .i64 r, .int .i64 a, .int .i64 b] 38))
  have hs2 := E1.out.size
  obtain ⟨S2, hS2⟩ : ∃ W, S1.alloc (.cells #[.int .i64 k, .int .i64 r, .int .i64 a, .int .i64 b] 38) = W := ⟨_, rfl⟩
  have hsz2 : S2.heap.size = S1.heap.size + 1 := by rw [← hS2]; simp
  have HSZ2 := Lib.hid hsz2
  have hle2 : S1.heap.size < S2.heap.size := by omega
  clear hsz2
  rw [hS2] at No2 Ns2 E2
  clear Ns1 E1
  obtain ⟨c3_0, c3_1, c3_2, c3_3, c3_4, c3_5⟩ := Ns2.out.cells
  obtain ⟨c4_0, c4_1, c4_2, c4_3⟩ := No2.out.cells
  go_enter Try.func9, Try.ntmps9
  go_wp2_with fail
  clear hS1 hS2 c3_0 c3_1 c3_2 c3_3 c3_4 c3_5 c4_0 c4_1 c4_2 c4_3
  refine (of_yes x _ HOK.out).mono ?_
  rintro e w5 ⟨C, rfl, hge5, hkb, hb⟩
  have Xs5 := Lib.hid (Ns2.out.below hb Ns2.out.lt)
  have nes5 : w.heap.size < C := Nat.lt_of_lt_of_le Ns2.out.lt hge5
  have Xo5 := Lib.hid (No2.out.below hb No2.out.lt)
  have neo5 : S1.heap.size < C := Nat.lt_of_lt_of_le No2.out.lt hge5
  have lw5 : w.heap.size ≤ C := Nat.le_trans E2.out.size hge5
  have XC5 := Lib.hid hkb
  have B5 := Lib.hid (E2.out.trans (hb.mono E2.out.size))
  clear hb hkb Ns2 No2 E2
  obtain ⟨c6_0, c6_1, c6_2, c6_3, c6_4, c6_5⟩ := Xs5.out.cells
  obtain ⟨c7_0, c7_1, c7_2, c7_3⟩ := Xo5.out.cells
  go_wp2_with fail
  clear c6_0 c6_1 c6_2 c6_3 c6_4 c6_5 c7_0 c7_1 c7_2 c7_3
  refine (call_any C x k r a b _ HOK.out XC5.out).mono ?_
  rintro e w8 ⟨rfl, hkb, hg⟩
  rw [HM.out, HNN.out]
  rw [HSS.out] at hkb
  have XC8 := Lib.hid hkb
  have Xs8 := Lib.hid (Xs5.out.grown hg (by omega))
  have Xo8 := Lib.hid (Xo5.out.grown hg (by omega))
  have B8 := Lib.hid (below_of_grown' B5.out hg (by omega) B5.out.size)
  clear hkb hg XC5 Xs5 Xo5 B5
  obtain ⟨c9_0, c9_1, c9_2, c9_3, c9_4, c9_5⟩ := Xs8.out.cells
  obtain ⟨c10_0, c10_1, c10_2, c10_3⟩ := Xo8.out.cells
  go_wp2_with fail
  go_region_held3 (fun w' => w'.cell? ⟨w.heap.size, 0, none⟩ = some (.int .i64 x.r) ∧ w'.cell? ⟨w.heap.size, 1, none⟩ = some (.int .i64 x.t) ∧ w'.cell? ⟨w.heap.size, 2, none⟩ = some (.int .i64 x.p) ∧ w'.cell? ⟨w.heap.size, 3, none⟩ = some (.int .i64 x.l) ∧ w'.cell? ⟨w.heap.size, 4, none⟩ = some (.int .i64 x.q) ∧ w'.cell? ⟨w.heap.size, 5, none⟩ = some (.int .i64 x.s) ∧ w'.cell? ⟨S1.heap.size, 0, none⟩ = some (.int .i64 k) ∧ w'.cell? ⟨S1.heap.size, 1, none⟩ = some (.int .i64 r) ∧ w'.cell? ⟨S1.heap.size, 2, none⟩ = some (.int .i64 a) ∧ w'.cell? ⟨S1.heap.size, 3, none⟩ = some (.int .i64 b)) (go_keep)
      (first | (go_at_call 13; refine (state_any C x _ ?_).mono ?_; exact XC8.out; rintro e w11 ⟨rfl, hb⟩; have hb : Below w8.heap.size w8 w11 := ⟨hb.os, hb.tape, hb.output, hb.size, hb.block⟩; have Xs11 := Lib.hid (Xs8.out.below hb Xs8.out.lt); obtain ⟨cs11_0, cs11_1, cs11_2, cs11_3, cs11_4, cs11_5⟩ := Xs11.out.cells; have Xo11 := Lib.hid (Xo8.out.below hb Xo8.out.lt); obtain ⟨co11_0, co11_1, co11_2, co11_3⟩ := Xo11.out.cells; have XC11 := Lib.hid (XC8.out.below hb XC8.out.lt); obtain ⟨cC11_0, cC11_1, cC11_2, cC11_3, cC11_4, cC11_5⟩ := XC11.out.cells; have B11 := Lib.hid (B8.out.trans (hb.mono B8.out.size)); have hz11 := hb.size; clear hb Xs8 Xo8 XC8 B8))
  clear c9_0 c9_1 c9_2 c9_3 c9_4 c9_5 c10_0 c10_1 c10_2 c10_3
  clear cs11_0 cs11_1 cs11_2 cs11_3 cs11_4 cs11_5 co11_0 co11_1 co11_2 co11_3 cC11_0 cC11_1 cC11_2 cC11_3 cC11_4 cC11_5
  obtain ⟨c12_0, c12_1, c12_2, c12_3, c12_4, c12_5⟩ := Xs11.out.cells
  obtain ⟨c13_0, c13_1, c13_2, c13_3⟩ := Xo11.out.cells
  go_wp2_with fail
  go_region_held3 (fun w' => w'.cell? ⟨w.heap.size, 0, none⟩ = some (.int .i64 x.r) ∧ w'.cell? ⟨w.heap.size, 1, none⟩ = some (.int .i64 x.t) ∧ w'.cell? ⟨w.heap.size, 2, none⟩ = some (.int .i64 x.p) ∧ w'.cell? ⟨w.heap.size, 3, none⟩ = some (.int .i64 x.l) ∧ w'.cell? ⟨w.heap.size, 4, none⟩ = some (.int .i64 x.q) ∧ w'.cell? ⟨w.heap.size, 5, none⟩ = some (.int .i64 x.s) ∧ w'.cell? ⟨S1.heap.size, 0, none⟩ = some (.int .i64 k) ∧ w'.cell? ⟨S1.heap.size, 1, none⟩ = some (.int .i64 r) ∧ w'.cell? ⟨S1.heap.size, 2, none⟩ = some (.int .i64 a) ∧ w'.cell? ⟨S1.heap.size, 3, none⟩ = some (.int .i64 b)) (go_keep)
      (first
        | (go_at_call 11; refine (of_yes x _ HOK.out).mono ?_; rintro e w14 ⟨D, rfl, hge14, hkb, hb⟩; have hb : Below w11.heap.size w11 w14 := ⟨hb.os, hb.tape, hb.output, hb.size, hb.block⟩; have hge14 : w11.heap.size ≤ D := hge14; have Xs14 := Lib.hid (Xs11.out.below hb Xs11.out.lt); obtain ⟨cs14_0, cs14_1, cs14_2, cs14_3, cs14_4, cs14_5⟩ := Xs14.out.cells; have Xo14 := Lib.hid (Xo11.out.below hb Xo11.out.lt); obtain ⟨co14_0, co14_1, co14_2, co14_3⟩ := Xo14.out.cells; have XC14 := Lib.hid (XC11.out.below hb XC11.out.lt); have lw14 : w.heap.size ≤ D := Nat.le_trans B11.out.size hge14; have XD14 := Lib.hid hkb; have B14 := Lib.hid (B11.out.trans (hb.mono B11.out.size)); clear hb hkb Xs11 Xo11 XC11 B11)
        | (go_at_call 20; refine (now_any D x r _ HOK.out XD14.out).mono ?_; rintro e w15 ⟨rfl, hb⟩; have hb : Below w14.heap.size w14 w15 := ⟨hb.os, hb.tape, hb.output, hb.size, hb.block⟩; have Xs15 := Lib.hid (Xs14.out.below hb Xs14.out.lt); obtain ⟨cs15_0, cs15_1, cs15_2, cs15_3, cs15_4, cs15_5⟩ := Xs15.out.cells; have Xo15 := Lib.hid (Xo14.out.below hb Xo14.out.lt); obtain ⟨co15_0, co15_1, co15_2, co15_3⟩ := Xo15.out.cells; have XC15 := Lib.hid (XC14.out.below hb XC14.out.lt); have XD15 := Lib.hid (XD14.out.below hb XD14.out.lt); have B15 := Lib.hid (B14.out.trans (hb.mono B14.out.size)); have hz15 := hb.size; clear hb Xs14 Xo14 XC14 XD14 B14))
  clear c12_0 c12_1 c12_2 c12_3 c12_4 c12_5 c13_0 c13_1 c13_2 c13_3
  obtain ⟨m2, hm2⟩ : ∃ m2, mvE x r = m2 := ⟨_, rfl⟩
  rw [hm2]
  clear hm2
  obtain ⟨tt, htt⟩ : ∃ tt, (mvS x r).t = tt := ⟨_, rfl⟩
  rw [htt]
  clear htt
  go_wp2_with fail
  refine (awake10_any _).mono ?_
  rintro e w16 ⟨rfl, hb⟩
  have Xs16 := Lib.hid (Xs15.out.below hb Xs15.out.lt)
  have Xo16 := Lib.hid (Xo15.out.below hb Xo15.out.lt)
  have XC16 := Lib.hid (XC15.out.below hb XC15.out.lt)
  have XD16 := Lib.hid (XD15.out.below hb XD15.out.lt)
  have B16 := Lib.hid (B15.out.trans (hb.mono B15.out.size))
  have hz16 := hb.size
  clear hb Xs15 Xo15 XC15 XD15 B15
  go_wp2_with fail
  go_ret
  exact ⟨rfl, B16.out⟩
set_option maxRecDepth 100000 in
set_option maxHeartbeats 1000000 in
theorem refuses_err_late (x : St) (k r a b : Int) (w : World) (hx : Ok x) (hk : 0 ≤ k ∧ k ≤ 3) (he : ¬ cE x k r a b = 0) (hr : ¬ r < x.r) (hl : ¬ r ≤ 4503599627370496) :
    Calls Try.prog 9 #[.agg #[.int .i64 x.r, .int .i64 x.t, .int .i64 x.p, .int .i64 x.l, .int .i64 x.q, .int .i64 x.s], .agg #[.int .i64 k, .int .i64 r, .int .i64 a, .int .i64 b]] w fun e w' => e = .returned (.bool true) ∧ Below w.heap.size w w' := by
  have BB := Lib.hid (Below.refl w.heap.size w)
  have HOK := Lib.hid hx
  have HR := Lib.hid hr
  have dk0 : decide (0 ≤ k) = true := decide_eq_true hk.1
  have dk1 : decide (k ≤ 3) = true := decide_eq_true hk.2
  obtain ⟨hnn, hss⟩ := cE_err hk.1 hk.2 he
  obtain ⟨m, hm⟩ : ∃ m, cE x k r a b = m := ⟨_, rfl⟩
  rw [hm] at he
  have m0 : (m != 0) = true := by simpa using he
  have m1 : (m == 0) = false := by simpa using he
  have HM := Lib.hid hm
  have HNN := Lib.hid hnn
  have HSS := Lib.hid hss
  clear hm hnn hss he
  have d1 : decide (r < x.r) = false := decide_eq_false hr
  have d2 : decide (r ≤ 4503599627370496) = false := decide_eq_false hl
  clear hx hr hk
  have Ns1 : Hid (KB 23 (w.alloc (.cells #[.int .i64 x.r, .int .i64 x.t, .int .i64 x.p, .int .i64 x.l, .int .i64 x.q, .int .i64 x.s] 23)) w.heap.size ⟨x.r, x.t, x.p, x.l, x.q, x.s⟩) := Lib.hid (kb_new _ w x.r x.t x.p x.l x.q x.s)
  have E1 := Lib.hid (BB.out.alloc BB.out.size (.cells #[.int .i64 x.r, .int .i64 x.t, .int .i64 x.p, .int .i64 x.l, .int .i64 x.q, .int .i64 x.s] 23))
  have hs1 := BB.out.size
  obtain ⟨S1, hS1⟩ : ∃ W, w.alloc (.cells #[.int .i64 x.r, .int .i64 x.t, .int .i64 x.p, .int .i64 x.l, .int .i64 x.q, .int .i64 x.s] 23) = W := ⟨_, rfl⟩
  have hsz1 : S1.heap.size = w.heap.size + 1 := by rw [← hS1]; simp
  have HSZ1 := Lib.hid hsz1
  have hle1 : w.heap.size < S1.heap.size := by omega
  clear hsz1
  rw [hS1] at Ns1 E1
  clear BB
  have No2 : Hid (OB 38 (S1.alloc (.cells #[.int .i64 k, .int .i64 r, .int .i64 a, .int .i64 b] 38)) S1.heap.size k r a b) := Lib.hid (ob_new _ S1 k r a b)
  have ls2 := Ns1.out.lt
  have Ns2 := Lib.hid (Ns1.out.alloc (.cells #[.int .i64 k, .int .i64 r, .int .i64 a, .int .i64 b] 38))
  have E2 := Lib.hid (E1.out.alloc E1.out.size (.cells #[.int .i64 k, .int .i64 r, .int .i64 a, .int .i64 b] 38))
  have hs2 := E1.out.size
  obtain ⟨S2, hS2⟩ : ∃ W, S1.alloc (.cells #[.int .i64 k, .int .i64 r, .int .i64 a, .int .i64 b] 38) = W := ⟨_, rfl⟩
  have hsz2 : S2.heap.size = S1.heap.size + 1 := by rw [← hS2]; simp
  have HSZ2 := Lib.hid hsz2
  have hle2 : S1.heap.size < S2.heap.size := by omega
  clear hsz2
  rw [hS2] at No2 Ns2 E2
  clear Ns1 E1
  obtain ⟨c3_0, c3_1, c3_2, c3_3, c3_4, c3_5⟩ := Ns2.out.cells
  obtain ⟨c4_0, c4_1, c4_2, c4_3⟩ := No2.out.cells
  go_enter Try.func9, Try.ntmps9
  go_wp2_with fail
  clear hS1 hS2 c3_0 c3_1 c3_2 c3_3 c3_4 c3_5 c4_0 c4_1 c4_2 c4_3
  refine (of_yes x _ HOK.out).mono ?_
  rintro e w5 ⟨C, rfl, hge5, hkb, hb⟩
  have Xs5 := Lib.hid (Ns2.out.below hb Ns2.out.lt)
  have nes5 : w.heap.size < C := Nat.lt_of_lt_of_le Ns2.out.lt hge5
  have Xo5 := Lib.hid (No2.out.below hb No2.out.lt)
  have neo5 : S1.heap.size < C := Nat.lt_of_lt_of_le No2.out.lt hge5
  have lw5 : w.heap.size ≤ C := Nat.le_trans E2.out.size hge5
  have XC5 := Lib.hid hkb
  have B5 := Lib.hid (E2.out.trans (hb.mono E2.out.size))
  clear hb hkb Ns2 No2 E2
  obtain ⟨c6_0, c6_1, c6_2, c6_3, c6_4, c6_5⟩ := Xs5.out.cells
  obtain ⟨c7_0, c7_1, c7_2, c7_3⟩ := Xo5.out.cells
  go_wp2_with fail
  clear c6_0 c6_1 c6_2 c6_3 c6_4 c6_5 c7_0 c7_1 c7_2 c7_3
  refine (call_any C x k r a b _ HOK.out XC5.out).mono ?_
  rintro e w8 ⟨rfl, hkb, hg⟩
  rw [HM.out, HNN.out]
  rw [HSS.out] at hkb
  have XC8 := Lib.hid hkb
  have Xs8 := Lib.hid (Xs5.out.grown hg (by omega))
  have Xo8 := Lib.hid (Xo5.out.grown hg (by omega))
  have B8 := Lib.hid (below_of_grown' B5.out hg (by omega) B5.out.size)
  clear hkb hg XC5 Xs5 Xo5 B5
  obtain ⟨c9_0, c9_1, c9_2, c9_3, c9_4, c9_5⟩ := Xs8.out.cells
  obtain ⟨c10_0, c10_1, c10_2, c10_3⟩ := Xo8.out.cells
  go_wp2_with fail
  go_region_held3 (fun w' => w'.cell? ⟨w.heap.size, 0, none⟩ = some (.int .i64 x.r) ∧ w'.cell? ⟨w.heap.size, 1, none⟩ = some (.int .i64 x.t) ∧ w'.cell? ⟨w.heap.size, 2, none⟩ = some (.int .i64 x.p) ∧ w'.cell? ⟨w.heap.size, 3, none⟩ = some (.int .i64 x.l) ∧ w'.cell? ⟨w.heap.size, 4, none⟩ = some (.int .i64 x.q) ∧ w'.cell? ⟨w.heap.size, 5, none⟩ = some (.int .i64 x.s) ∧ w'.cell? ⟨S1.heap.size, 0, none⟩ = some (.int .i64 k) ∧ w'.cell? ⟨S1.heap.size, 1, none⟩ = some (.int .i64 r) ∧ w'.cell? ⟨S1.heap.size, 2, none⟩ = some (.int .i64 a) ∧ w'.cell? ⟨S1.heap.size, 3, none⟩ = some (.int .i64 b)) (go_keep)
      (first | (go_at_call 13; refine (state_any C x _ ?_).mono ?_; exact XC8.out; rintro e w11 ⟨rfl, hb⟩; have hb : Below w8.heap.size w8 w11 := ⟨hb.os, hb.tape, hb.output, hb.size, hb.block⟩; have Xs11 := Lib.hid (Xs8.out.below hb Xs8.out.lt); obtain ⟨cs11_0, cs11_1, cs11_2, cs11_3, cs11_4, cs11_5⟩ := Xs11.out.cells; have Xo11 := Lib.hid (Xo8.out.below hb Xo8.out.lt); obtain ⟨co11_0, co11_1, co11_2, co11_3⟩ := Xo11.out.cells; have XC11 := Lib.hid (XC8.out.below hb XC8.out.lt); obtain ⟨cC11_0, cC11_1, cC11_2, cC11_3, cC11_4, cC11_5⟩ := XC11.out.cells; have B11 := Lib.hid (B8.out.trans (hb.mono B8.out.size)); have hz11 := hb.size; clear hb Xs8 Xo8 XC8 B8))
  clear c9_0 c9_1 c9_2 c9_3 c9_4 c9_5 c10_0 c10_1 c10_2 c10_3
  clear cs11_0 cs11_1 cs11_2 cs11_3 cs11_4 cs11_5 co11_0 co11_1 co11_2 co11_3 cC11_0 cC11_1 cC11_2 cC11_3 cC11_4 cC11_5
  obtain ⟨c12_0, c12_1, c12_2, c12_3, c12_4, c12_5⟩ := Xs11.out.cells
  obtain ⟨c13_0, c13_1, c13_2, c13_3⟩ := Xo11.out.cells
  go_wp2_with fail
  go_region_held3 (fun w' => w'.cell? ⟨w.heap.size, 0, none⟩ = some (.int .i64 x.r) ∧ w'.cell? ⟨w.heap.size, 1, none⟩ = some (.int .i64 x.t) ∧ w'.cell? ⟨w.heap.size, 2, none⟩ = some (.int .i64 x.p) ∧ w'.cell? ⟨w.heap.size, 3, none⟩ = some (.int .i64 x.l) ∧ w'.cell? ⟨w.heap.size, 4, none⟩ = some (.int .i64 x.q) ∧ w'.cell? ⟨w.heap.size, 5, none⟩ = some (.int .i64 x.s) ∧ w'.cell? ⟨S1.heap.size, 0, none⟩ = some (.int .i64 k) ∧ w'.cell? ⟨S1.heap.size, 1, none⟩ = some (.int .i64 r) ∧ w'.cell? ⟨S1.heap.size, 2, none⟩ = some (.int .i64 a) ∧ w'.cell? ⟨S1.heap.size, 3, none⟩ = some (.int .i64 b)) (go_keep)
      (first
        | (go_at_call 11; refine (of_yes x _ HOK.out).mono ?_; rintro e w14 ⟨D, rfl, hge14, hkb, hb⟩; have hb : Below w11.heap.size w11 w14 := ⟨hb.os, hb.tape, hb.output, hb.size, hb.block⟩; have hge14 : w11.heap.size ≤ D := hge14; have Xs14 := Lib.hid (Xs11.out.below hb Xs11.out.lt); obtain ⟨cs14_0, cs14_1, cs14_2, cs14_3, cs14_4, cs14_5⟩ := Xs14.out.cells; have Xo14 := Lib.hid (Xo11.out.below hb Xo11.out.lt); obtain ⟨co14_0, co14_1, co14_2, co14_3⟩ := Xo14.out.cells; have XC14 := Lib.hid (XC11.out.below hb XC11.out.lt); have lw14 : w.heap.size ≤ D := Nat.le_trans B11.out.size hge14; have XD14 := Lib.hid hkb; have B14 := Lib.hid (B11.out.trans (hb.mono B11.out.size)); clear hb hkb Xs11 Xo11 XC11 B11)
        | (go_at_call 20; refine (now_any D x r _ HOK.out XD14.out).mono ?_; rintro e w15 ⟨rfl, hb⟩; have hb : Below w14.heap.size w14 w15 := ⟨hb.os, hb.tape, hb.output, hb.size, hb.block⟩; have Xs15 := Lib.hid (Xs14.out.below hb Xs14.out.lt); obtain ⟨cs15_0, cs15_1, cs15_2, cs15_3, cs15_4, cs15_5⟩ := Xs15.out.cells; have Xo15 := Lib.hid (Xo14.out.below hb Xo14.out.lt); obtain ⟨co15_0, co15_1, co15_2, co15_3⟩ := Xo15.out.cells; have XC15 := Lib.hid (XC14.out.below hb XC14.out.lt); have XD15 := Lib.hid (XD14.out.below hb XD14.out.lt); have B15 := Lib.hid (B14.out.trans (hb.mono B14.out.size)); have hz15 := hb.size; clear hb Xs14 Xo14 XC14 XD14 B14))
  clear c12_0 c12_1 c12_2 c12_3 c12_4 c12_5 c13_0 c13_1 c13_2 c13_3
  rw [mvE_late (x := x) (r := r) (by omega) (by have := HR.out; omega)]
  obtain ⟨tt, htt⟩ : ∃ tt, (mvS x r).t = tt := ⟨_, rfl⟩
  rw [htt]
  clear htt
  go_wp2_with fail
  refine (awake10_any _).mono ?_
  rintro e w16 ⟨rfl, hb⟩
  have Xs16 := Lib.hid (Xs15.out.below hb Xs15.out.lt)
  have Xo16 := Lib.hid (Xo15.out.below hb Xo15.out.lt)
  have XC16 := Lib.hid (XC15.out.below hb XC15.out.lt)
  have XD16 := Lib.hid (XD15.out.below hb XD15.out.lt)
  have B16 := Lib.hid (B15.out.trans (hb.mono B15.out.size))
  have hz16 := hb.size
  clear hb Xs15 Xo15 XC15 XD15 B15
  go_wp2_with fail
  go_ret
  exact ⟨rfl, B16.out⟩
theorem refuses_law (x : St) (k r a b : Int) (w : World) (hs : x.s ≤ 9223372036854775807) :
    Calls Try.prog 9 #[.agg #[.int .i64 x.r, .int .i64 x.t, .int .i64 x.p, .int .i64 x.l, .int .i64 x.q, .int .i64 x.s], .agg #[.int .i64 k, .int .i64 r, .int .i64 a, .int .i64 b]] w fun e w' => e = .returned (.bool true) ∧ Below w.heap.size w w' := by
  by_cases hx : Ok x
  · rcases Int.lt_or_le k 0 with k0 | k0
    · by_cases hr : r < x.r
      · exact refuses_outa_early x k r a b w hx k0 hr
      · by_cases hl : r ≤ 4503599627370496
        · exact refuses_outa_mid x k r a b w hx k0 hr hl
        · exact refuses_outa_late x k r a b w hx k0 hr hl
    · rcases Int.lt_or_le 3 k with k3 | k3
      · by_cases hr : r < x.r
        · exact refuses_outb_early x k r a b w hx k3 hr
        · by_cases hl : r ≤ 4503599627370496
          · exact refuses_outb_mid x k r a b w hx k3 hr hl
          · exact refuses_outb_late x k r a b w hx k3 hr hl
      · by_cases he : cE x k r a b = 0
        · by_cases hr : r < x.r
          · exact refuses_ok_early x k r a b w hx ⟨k0, k3⟩ he hr
          · by_cases hl : r ≤ 4503599627370496
            · exact refuses_ok_mid x k r a b w hx ⟨k0, k3⟩ he hr hl
            · exact refuses_ok_late x k r a b w hx ⟨k0, k3⟩ he hr hl
        · by_cases hr : r < x.r
          · exact refuses_err_early x k r a b w hx ⟨k0, k3⟩ he hr
          · by_cases hl : r ≤ 4503599627370496
            · exact refuses_err_mid x k r a b w hx ⟨k0, k3⟩ he hr hl
            · exact refuses_err_late x k r a b w hx ⟨k0, k3⟩ he hr hl
  · exact refuses_no x k r a b w hs hx
end Go.Proofs.Ytjcpfkibaohjjaa
