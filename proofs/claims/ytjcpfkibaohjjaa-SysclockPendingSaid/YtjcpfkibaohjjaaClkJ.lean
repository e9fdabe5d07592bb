/- Contracts of layer 10: the specification's moves and changes. -/
import Derived.Test.YtjcpfkibaohjjaaClkI
namespace Go.Proofs.Ytjcpfkibaohjjaa
open Go.RowKit Fx Ck

theorem Ck.slw_gone {l q e : Int} (h0 : 0 ≤ e) (h2 : 0 ≤ q) : slw l q e = sg l * min (max l (-l)) (e * q / 1000000000) := by
  have b : 0 ≤ e * q := Int.mul_nonneg h0 h2
  have b2 : 0 ≤ e * q / 1000000000 := by omega
  obtain ⟨m, hm⟩ : ∃ m, e * q / 1000000000 = m := ⟨_, rfl⟩
  rw [hm] at b2
  unfold slw clm
  rw [hm]
  rcases Int.lt_trichotomy 0 l with h | h | h
  · rw [sg_pos h]; split
    · omega
    · split <;> omega
  · subst h; rw [sg_zero]; split
    · omega
    · split <;> omega
  · rw [sg_neg h]; split
    · omega
    · split <;> omega
set_option maxRecDepth 100000 in
set_option maxHeartbeats 1000000 in
theorem rmoved_left (C : Nat) (x : St) (raw : Int) (w : World) (hx : Ok x) (hk : KB 53 w C x) (he : mvE x raw = 0) (hz : ¬ lft x raw = 0) :
    Calls Try.prog 40 #[.pointer (some ⟨C, 0, none⟩), .int .i64 raw] w fun e w' => e = .returned (.tuple #[.agg #[.int .i64 raw, .int .i64 ((at' x raw)), .int .i64 x.p, .int .i64 ((lft x raw)), .int .i64 x.q, .int .i64 x.s], .int .i64 0]) ∧ Below w.heap.size w w' := by
  have KC := Lib.hid hk
  have HOK := Lib.hid hx
  have BB := Lib.hid (Below.refl w.heap.size w)
  have HM := Lib.hid he
  obtain ⟨i0, i1, i2, i3⟩ := mvE_iff.1 he
  obtain ⟨hr, ht, hl, hp, hq, hlq, hs⟩ := hx
  have hT : (mvS x raw).t = at' x raw := by unfold mvS; rw [if_pos he]; rfl
  obtain ⟨T, hT'⟩ : ∃ T, at' x raw = T := ⟨_, rfl⟩
  rw [hT'] at hT
  have HT := Lib.hid hT
  have HT' := Lib.hid hT'
  have hsw := slw_gone (l := x.l) (q := x.q) (e := raw - x.r) (by omega) hq.1
  have pb := mst_bound (e := raw - x.r) (q := x.q) (by omega) (by omega) hq.1 hq.2
  have hY : lft x raw = x.l - sg x.l * min (max x.l (-x.l)) ((raw - x.r) * x.q / 1000000000) := by unfold lft; rw [hsw]
  obtain ⟨P, hP⟩ : ∃ P, (raw - x.r) * x.q / 1000000000 = P := ⟨_, rfl⟩
  obtain ⟨X, hX⟩ : ∃ X, max x.l (-x.l) = X := ⟨_, rfl⟩
  obtain ⟨g, hg⟩ : ∃ g, min X P = g := ⟨_, rfl⟩
  obtain ⟨G, hG⟩ : ∃ G, sg x.l = G := ⟨_, rfl⟩
  have sb : -1 ≤ G ∧ G ≤ 1 := by rw [← hG]; unfold sg; split <;> (try split) <;> omega
  rw [hP] at pb hY
  rw [hX, hg, hG] at hY
  have xb : 0 ≤ X ∧ X ≤ 4503599627370496 := by omega
  have gb : 0 ≤ g ∧ g ≤ 4503599627370496 := by omega
  obtain ⟨m, hm⟩ : ∃ m, G * g = m := ⟨_, rfl⟩
  have mb : -4503599627370496 ≤ m ∧ m ≤ 4503599627370496 := by
    rw [← hm, ← hG]; unfold sg; split
    · omega
    · split <;> omega
  rw [hm] at hY
  obtain ⟨Y, hYy⟩ : ∃ Y, lft x raw = Y := ⟨_, rfl⟩
  rw [hYy] at hY hz
  have HYY := Lib.hid hYy
  have hsub : IntKind.i64.wrap (raw - x.r) = raw - x.r := IntWalk.i64_in _ (by omega)
  have hsub2 : IntKind.i64.wrap (x.l - m) = Y := by rw [IntWalk.i64_in _ (by omega)]; exact hY.symm
  have hsub5 : IntKind.i64.wrap Y = Y := IntWalk.i64_in _ (by omega)
  have hsub4 : IntKind.i64.wrap m = m := IntWalk.i64_in _ (by omega)
  have hsub3 : IntKind.i64.wrap (G * g) = m := by rw [hm]; exact IntWalk.i64_in _ (by omega)
  have hY3 : x.l - m = Y := hY.symm
  have HG := Lib.hid hG
  have y1 : (Y == 0) = false := by simpa using hz
  obtain ⟨r0, r1⟩ := hr
  obtain ⟨l0, l1⟩ := hl
  obtain ⟨q0, q1⟩ := hq
  obtain ⟨p0, p1⟩ := pb
  obtain ⟨x0, x1⟩ := xb
  obtain ⟨g0, g1⟩ := gb
  obtain ⟨m0, m1⟩ := mb
  obtain ⟨s0, s1⟩ := sb
  clear hk he hs hT hT' hY hYy hG hsw ht hp hlq hz
  have Nb1 : Hid (KB 23 (w.alloc (.cells #[.int .i64 0, .int .i64 0, .int .i64 0, .int .i64 0, .int .i64 0, .int .i64 0] 23)) w.heap.size ⟨0, 0, 0, 0, 0, 0⟩) := Lib.hid (kb_new _ w 0 0 0 0 0 0)
  have lC1 := KC.out.lt
  have NC1 := Lib.hid (KC.out.alloc (.cells #[.int .i64 0, .int .i64 0, .int .i64 0, .int .i64 0, .int .i64 0, .int .i64 0] 23))
  have E1 := Lib.hid (BB.out.alloc BB.out.size (.cells #[.int .i64 0, .int .i64 0, .int .i64 0, .int .i64 0, .int .i64 0, .int .i64 0] 23))
  have hs1 := BB.out.size
  obtain ⟨S1, hS1⟩ : ∃ W, w.alloc (.cells #[.int .i64 0, .int .i64 0, .int .i64 0, .int .i64 0, .int .i64 0, .int .i64 0] 23) = W := ⟨_, rfl⟩
  have hsz1 : S1.heap.size = w.heap.size + 1 := by rw [← hS1]; simp
  have HSZ1 := Lib.hid hsz1
  have hle1 : w.heap.size < S1.heap.size := by omega
  clear hsz1
  rw [hS1] at Nb1 NC1 E1
  clear KC BB
  go_enter Try.func40, Try.ntmps40
  go_wp2_with fail
  clear hS1
  refine (rnow_any C x raw _ HOK.out NC1.out).mono ?_
  rintro e w2 ⟨rfl, hb⟩
  have XC2 := Lib.hid (NC1.out.below hb NC1.out.lt)
  have Xb2 := Lib.hid (Nb1.out.below hb Nb1.out.lt)
  have B2 := Lib.hid (E1.out.trans (hb.mono E1.out.size))
  have hz2 := hb.size
  clear hb NC1 Nb1 E1
  rw [HM.out, HT.out]
  obtain ⟨c3_0, c3_1, c3_2, c3_3, c3_4, c3_5⟩ := XC2.out.cells
  have Nm4 : Hid (KB 23 (w2.alloc (.cells #[.int .i64 x.r, .int .i64 x.t, .int .i64 x.p, .int .i64 x.l, .int .i64 x.q, .int .i64 x.s] 23)) w2.heap.size ⟨x.r, x.t, x.p, x.l, x.q, x.s⟩) := Lib.hid (kb_new _ w2 x.r x.t x.p x.l x.q x.s)
  have lC4 := XC2.out.lt
  have NC4 := Lib.hid (XC2.out.alloc (.cells #[.int .i64 x.r, .int .i64 x.t, .int .i64 x.p, .int .i64 x.l, .int .i64 x.q, .int .i64 x.s] 23))
  have lb4 := Xb2.out.lt
  have Nb4 := Lib.hid (Xb2.out.alloc (.cells #[.int .i64 x.r, .int .i64 x.t, .int .i64 x.p, .int .i64 x.l, .int .i64 x.q, .int .i64 x.s] 23))
  have E4 := Lib.hid (B2.out.alloc B2.out.size (.cells #[.int .i64 x.r, .int .i64 x.t, .int .i64 x.p, .int .i64 x.l, .int .i64 x.q, .int .i64 x.s] 23))
  have hs4 := B2.out.size
  obtain ⟨S4, hS4⟩ : ∃ W, w2.alloc (.cells #[.int .i64 x.r, .int .i64 x.t, .int .i64 x.p, .int .i64 x.l, .int .i64 x.q, .int .i64 x.s] 23) = W := ⟨_, rfl⟩
  have hsz4 : S4.heap.size = w2.heap.size + 1 := by rw [← hS4]; simp
  have HSZ4 := Lib.hid hsz4
  have hle4 : w2.heap.size < S4.heap.size := by omega
  clear hsz4
  rw [hS4] at Nm4 NC4 Nb4 E4
  clear XC2 Xb2 B2
  obtain ⟨c5_0, c5_1, c5_2, c5_3, c5_4, c5_5⟩ := Nm4.out.cells
  go_wp2_with fail
  go_quiet ((go_at_call 44; exact Calls.quiet_of_same ((part_any _ _ _ (by omega) (by omega) (by omega) (by omega)).mono (by rintro e w' ⟨rfl, rfl⟩; exact ⟨rfl, rfl⟩))))
  clear c3_0 c3_1 c3_2 c3_3 c3_4 c3_5 hS4 c5_0 c5_1 c5_2 c5_3 c5_4 c5_5
  have QC := Lib.hid (NC4.out.drewN nq)
  have Qb := Lib.hid (Nb4.out.drewN nq)
  have Qm := Lib.hid (Nm4.out.drewN nq)
  have QB := Lib.hid (blwn E4.out nq)
  obtain ⟨Q, hQ⟩ : ∃ W, S4.drewN nq = W := ⟨_, rfl⟩
  have hqs : S4.heap.size ≤ Q.heap.size := by rw [← hQ]; exact Nat.le_refl _
  rw [hQ] at QC Qb Qm QB ⊢
  clear hQ NC4 Nb4 Nm4 E4
  obtain ⟨c6_0, c6_1, c6_2, c6_3, c6_4, c6_5⟩ := Qm.out.cells
  have gm := Qm.out.thaw.2.2.2.1
  go_wp2_with fail
  go_region_with ((go_at_call 45; refine (rsg_any _ _).mono ?_; rintro e w' ⟨rfl, rfl⟩; rw [HG.out]))
  all_goals
    clear hsub hsub2 hsub3 hsub4 hsub5 hY3 hm hP hX hg
    have r7 := Qm.out.cells.2.2.2.1
    have g7 := Qm.out.thaw.2.2.2.1
    have Nm7 : Hid (KB 23 (Q.setCell ⟨w2.heap.size, 3, none⟩ (.int .i64 Y)) w2.heap.size ⟨x.r, x.t, x.p, Y, x.q, x.s⟩) := Lib.hid (Qm.out.set3 Y)
    have NC7 := Lib.hid (QC.out.other (D := w2.heap.size) (i := 3) (by omega) (.int .i64 Y))
    have Nb7 := Lib.hid (Qb.out.other (D := w2.heap.size) (i := 3) (by omega) (.int .i64 Y))
    have E7 := Lib.hid (below_set (C := w2.heap.size) (i := 3) QB.out (by omega) (.int .i64 Y))
    obtain ⟨S7, hS7⟩ : ∃ W, Q.setCell ⟨w2.heap.size, 3, none⟩ (.int .i64 Y) = W := ⟨_, rfl⟩
    rw [hS7] at Nm7 NC7 Nb7 E7
    clear QC Qb Qm QB
    obtain ⟨c8_0, c8_1, c8_2, c8_3, c8_4, c8_5⟩ := Nm7.out.cells
    have r9 := Nm7.out.cells.1
    have g9 := Nm7.out.thaw.1
    have Nm9 : Hid (KB 23 (S7.setCell ⟨w2.heap.size, 0, none⟩ (.int .i64 raw)) w2.heap.size ⟨raw, x.t, x.p, Y, x.q, x.s⟩) := Lib.hid (Nm7.out.set0 raw)
    have NC9 := Lib.hid (NC7.out.other (D := w2.heap.size) (i := 0) (by omega) (.int .i64 raw))
    have Nb9 := Lib.hid (Nb7.out.other (D := w2.heap.size) (i := 0) (by omega) (.int .i64 raw))
    have E9 := Lib.hid (below_set (C := w2.heap.size) (i := 0) E7.out (by omega) (.int .i64 raw))
    obtain ⟨S9, hS9⟩ : ∃ W, S7.setCell ⟨w2.heap.size, 0, none⟩ (.int .i64 raw) = W := ⟨_, rfl⟩
    rw [hS9] at Nm9 NC9 Nb9 E9
    clear NC7 Nb7 Nm7 E7
    obtain ⟨c10_0, c10_1, c10_2, c10_3, c10_4, c10_5⟩ := Nm9.out.cells
    have r11 := Nm9.out.cells.2.1
    have g11 := Nm9.out.thaw.2.1
    have Nm11 : Hid (KB 23 (S9.setCell ⟨w2.heap.size, 1, none⟩ (.int .i64 T)) w2.heap.size ⟨raw, T, x.p, Y, x.q, x.s⟩) := Lib.hid (Nm9.out.set1 T)
    have NC11 := Lib.hid (NC9.out.other (D := w2.heap.size) (i := 1) (by omega) (.int .i64 T))
    have Nb11 := Lib.hid (Nb9.out.other (D := w2.heap.size) (i := 1) (by omega) (.int .i64 T))
    have E11 := Lib.hid (below_set (C := w2.heap.size) (i := 1) E9.out (by omega) (.int .i64 T))
    obtain ⟨S11, hS11⟩ : ∃ W, S9.setCell ⟨w2.heap.size, 1, none⟩ (.int .i64 T) = W := ⟨_, rfl⟩
    rw [hS11] at Nm11 NC11 Nb11 E11
    clear NC9 Nb9 Nm9 E9
    obtain ⟨c12_0, c12_1, c12_2, c12_3, c12_4, c12_5⟩ := Nm11.out.cells
    have r13 := Nb11.out.cells.1
    have g13 := Nb11.out.thaw.1
    have Nb13 : Hid (KB 23 (S11.setCell ⟨w.heap.size, 0, none⟩ (.int .i64 raw)) w.heap.size ⟨raw, 0, 0, 0, 0, 0⟩) := Lib.hid (Nb11.out.set0 raw)
    have NC13 := Lib.hid (NC11.out.other (D := w.heap.size) (i := 0) (by omega) (.int .i64 raw))
    have Nm13 := Lib.hid (Nm11.out.other (D := w.heap.size) (i := 0) (by omega) (.int .i64 raw))
    have E13 := Lib.hid (below_set (C := w.heap.size) (i := 0) E11.out (by omega) (.int .i64 raw))
    obtain ⟨S13, hS13⟩ : ∃ W, S11.setCell ⟨w.heap.size, 0, none⟩ (.int .i64 raw) = W := ⟨_, rfl⟩
    rw [hS13] at Nb13 NC13 Nm13 E13
    clear NC11 Nb11 Nm11 E11
    have r14 := Nb13.out.cells.2.1
    have g14 := Nb13.out.thaw.2.1
    have Nb14 : Hid (KB 23 (S13.setCell ⟨w.heap.size, 1, none⟩ (.int .i64 T)) w.heap.size ⟨raw, T, 0, 0, 0, 0⟩) := Lib.hid (Nb13.out.set1 T)
    have NC14 := Lib.hid (NC13.out.other (D := w.heap.size) (i := 1) (by omega) (.int .i64 T))
    have Nm14 := Lib.hid (Nm13.out.other (D := w.heap.size) (i := 1) (by omega) (.int .i64 T))
    have E14 := Lib.hid (below_set (C := w.heap.size) (i := 1) E13.out (by omega) (.int .i64 T))
    obtain ⟨S14, hS14⟩ : ∃ W, S13.setCell ⟨w.heap.size, 1, none⟩ (.int .i64 T) = W := ⟨_, rfl⟩
    rw [hS14] at Nb14 NC14 Nm14 E14
    clear NC13 Nb13 Nm13 E13
    have r15 := Nb14.out.cells.2.2.1
    have g15 := Nb14.out.thaw.2.2.1
    have Nb15 : Hid (KB 23 (S14.setCell ⟨w.heap.size, 2, none⟩ (.int .i64 x.p)) w.heap.size ⟨raw, T, x.p, 0, 0, 0⟩) := Lib.hid (Nb14.out.set2 x.p)
    have NC15 := Lib.hid (NC14.out.other (D := w.heap.size) (i := 2) (by omega) (.int .i64 x.p))
    have Nm15 := Lib.hid (Nm14.out.other (D := w.heap.size) (i := 2) (by omega) (.int .i64 x.p))
    have E15 := Lib.hid (below_set (C := w.heap.size) (i := 2) E14.out (by omega) (.int .i64 x.p))
    obtain ⟨S15, hS15⟩ : ∃ W, S14.setCell ⟨w.heap.size, 2, none⟩ (.int .i64 x.p) = W := ⟨_, rfl⟩
    rw [hS15] at Nb15 NC15 Nm15 E15
    clear NC14 Nb14 Nm14 E14
    have r16 := Nb15.out.cells.2.2.2.1
    have g16 := Nb15.out.thaw.2.2.2.1
    have Nb16 : Hid (KB 23 (S15.setCell ⟨w.heap.size, 3, none⟩ (.int .i64 Y)) w.heap.size ⟨raw, T, x.p, Y, 0, 0⟩) := Lib.hid (Nb15.out.set3 Y)
    have NC16 := Lib.hid (NC15.out.other (D := w.heap.size) (i := 3) (by omega) (.int .i64 Y))
    have Nm16 := Lib.hid (Nm15.out.other (D := w.heap.size) (i := 3) (by omega) (.int .i64 Y))
    have E16 := Lib.hid (below_set (C := w.heap.size) (i := 3) E15.out (by omega) (.int .i64 Y))
    obtain ⟨S16, hS16⟩ : ∃ W, S15.setCell ⟨w.heap.size, 3, none⟩ (.int .i64 Y) = W := ⟨_, rfl⟩
    rw [hS16] at Nb16 NC16 Nm16 E16
    clear NC15 Nb15 Nm15 E15
    have r17 := Nb16.out.cells.2.2.2.2.1
    have g17 := Nb16.out.thaw.2.2.2.2.1
    have Nb17 : Hid (KB 23 (S16.setCell ⟨w.heap.size, 4, none⟩ (.int .i64 x.q)) w.heap.size ⟨raw, T, x.p, Y, x.q, 0⟩) := Lib.hid (Nb16.out.set4 x.q)
    have NC17 := Lib.hid (NC16.out.other (D := w.heap.size) (i := 4) (by omega) (.int .i64 x.q))
    have Nm17 := Lib.hid (Nm16.out.other (D := w.heap.size) (i := 4) (by omega) (.int .i64 x.q))
    have E17 := Lib.hid (below_set (C := w.heap.size) (i := 4) E16.out (by omega) (.int .i64 x.q))
    obtain ⟨S17, hS17⟩ : ∃ W, S16.setCell ⟨w.heap.size, 4, none⟩ (.int .i64 x.q) = W := ⟨_, rfl⟩
    rw [hS17] at Nb17 NC17 Nm17 E17
    clear NC16 Nb16 Nm16 E16
    have r18 := Nb17.out.cells.2.2.2.2.2
    have g18 := Nb17.out.thaw.2.2.2.2.2
    have Nb18 : Hid (KB 23 (S17.setCell ⟨w.heap.size, 5, none⟩ (.int .i64 x.s)) w.heap.size ⟨raw, T, x.p, Y, x.q, x.s⟩) := Lib.hid (Nb17.out.set5 x.s)
    have NC18 := Lib.hid (NC17.out.other (D := w.heap.size) (i := 5) (by omega) (.int .i64 x.s))
    have Nm18 := Lib.hid (Nm17.out.other (D := w.heap.size) (i := 5) (by omega) (.int .i64 x.s))
    have E18 := Lib.hid (below_set (C := w.heap.size) (i := 5) E17.out (by omega) (.int .i64 x.s))
    obtain ⟨S18, hS18⟩ : ∃ W, S17.setCell ⟨w.heap.size, 5, none⟩ (.int .i64 x.s) = W := ⟨_, rfl⟩
    rw [hS18] at Nb18 NC18 Nm18 E18
    clear NC17 Nb17 Nm17 E17
    obtain ⟨c19_0, c19_1, c19_2, c19_3, c19_4, c19_5⟩ := Nb18.out.cells
    go_wp2_with fail
    rw [HYY.out, HT'.out]
    exact bodyPost_ret (v := .tuple #[.agg #[.int .i64 raw, .int .i64 T, .int .i64 x.p, .int .i64 Y, .int .i64 x.q, .int .i64 x.s], .int .i64 0]) (by simp [results, Try.results40, go_sem, c19_0, c19_1, c19_2, c19_3, c19_4, c19_5]) rfl ⟨rfl, E18.out.drew⟩
set_option maxRecDepth 100000 in
set_option maxHeartbeats 1000000 in
theorem rmoved_over (C : Nat) (x : St) (raw : Int) (w : World) (hx : Ok x) (hk : KB 53 w C x) (he : mvE x raw = 0) (hz : lft x raw = 0) :
    Calls Try.prog 40 #[.pointer (some ⟨C, 0, none⟩), .int .i64 raw] w fun e w' => e = .returned (.tuple #[.agg #[.int .i64 raw, .int .i64 ((at' x raw)), .int .i64 x.p, .int .i64 ((lft x raw)), .int .i64 0, .int .i64 x.s], .int .i64 0]) ∧ Below w.heap.size w w' := by
  have KC := Lib.hid hk
  have HOK := Lib.hid hx
  have BB := Lib.hid (Below.refl w.heap.size w)
  have HM := Lib.hid he
  obtain ⟨i0, i1, i2, i3⟩ := mvE_iff.1 he
  obtain ⟨hr, ht, hl, hp, hq, hlq, hs⟩ := hx
  have hT : (mvS x raw).t = at' x raw := by unfold mvS; rw [if_pos he]; rfl
  obtain ⟨T, hT'⟩ : ∃ T, at' x raw = T := ⟨_, rfl⟩
  rw [hT'] at hT
  have HT := Lib.hid hT
  have HT' := Lib.hid hT'
  have hsw := slw_gone (l := x.l) (q := x.q) (e := raw - x.r) (by omega) hq.1
  have pb := mst_bound (e := raw - x.r) (q := x.q) (by omega) (by omega) hq.1 hq.2
  have hY : lft x raw = x.l - sg x.l * min (max x.l (-x.l)) ((raw - x.r) * x.q / 1000000000) := by unfold lft; rw [hsw]
  obtain ⟨P, hP⟩ : ∃ P, (raw - x.r) * x.q / 1000000000 = P := ⟨_, rfl⟩
  obtain ⟨X, hX⟩ : ∃ X, max x.l (-x.l) = X := ⟨_, rfl⟩
  obtain ⟨g, hg⟩ : ∃ g, min X P = g := ⟨_, rfl⟩
  obtain ⟨G, hG⟩ : ∃ G, sg x.l = G := ⟨_, rfl⟩
  have sb : -1 ≤ G ∧ G ≤ 1 := by rw [← hG]; unfold sg; split <;> (try split) <;> omega
  rw [hP] at pb hY
  rw [hX, hg, hG] at hY
  have xb : 0 ≤ X ∧ X ≤ 4503599627370496 := by omega
  have gb : 0 ≤ g ∧ g ≤ 4503599627370496 := by omega
  obtain ⟨m, hm⟩ : ∃ m, G * g = m := ⟨_, rfl⟩
  have mb : -4503599627370496 ≤ m ∧ m ≤ 4503599627370496 := by
    rw [← hm, ← hG]; unfold sg; split
    · omega
    · split <;> omega
  rw [hm] at hY
  obtain ⟨Y, hYy⟩ : ∃ Y, lft x raw = Y := ⟨_, rfl⟩
  rw [hYy] at hY hz
  have HYY := Lib.hid hYy
  have hsub : IntKind.i64.wrap (raw - x.r) = raw - x.r := IntWalk.i64_in _ (by omega)
  have hsub2 : IntKind.i64.wrap (x.l - m) = Y := by rw [IntWalk.i64_in _ (by omega)]; exact hY.symm
  have hsub5 : IntKind.i64.wrap Y = Y := IntWalk.i64_in _ (by omega)
  have hsub4 : IntKind.i64.wrap m = m := IntWalk.i64_in _ (by omega)
  have hsub3 : IntKind.i64.wrap (G * g) = m := by rw [hm]; exact IntWalk.i64_in _ (by omega)
  have hY3 : x.l - m = Y := hY.symm
  have HG := Lib.hid hG
  subst hz; clear hsub5
  obtain ⟨r0, r1⟩ := hr
  obtain ⟨l0, l1⟩ := hl
  obtain ⟨q0, q1⟩ := hq
  obtain ⟨p0, p1⟩ := pb
  obtain ⟨x0, x1⟩ := xb
  obtain ⟨g0, g1⟩ := gb
  obtain ⟨m0, m1⟩ := mb
  obtain ⟨s0, s1⟩ := sb
  clear hk he hs hT hT' hY hYy hG hsw ht hp hlq
  have Nb1 : Hid (KB 23 (w.alloc (.cells #[.int .i64 0, .int .i64 0, .int .i64 0, .int .i64 0, .int .i64 0, .int .i64 0] 23)) w.heap.size ⟨0, 0, 0, 0, 0, 0⟩) := Lib.hid (kb_new _ w 0 0 0 0 0 0)
  have lC1 := KC.out.lt
  have NC1 := Lib.hid (KC.out.alloc (.cells #[.int .i64 0, .int .i64 0, .int .i64 0, .int .i64 0, .int .i64 0, .int .i64 0] 23))
  have E1 := Lib.hid (BB.out.alloc BB.out.size (.cells #[.int .i64 0, .int .i64 0, .int .i64 0, .int .i64 0, .int .i64 0, .int .i64 0] 23))
  have hs1 := BB.out.size
  obtain ⟨S1, hS1⟩ : ∃ W, w.alloc (.cells #[.int .i64 0, .int .i64 0, .int .i64 0, .int .i64 0, .int .i64 0, .int .i64 0] 23) = W := ⟨_, rfl⟩
  have hsz1 : S1.heap.size = w.heap.size + 1 := by rw [← hS1]; simp
  have HSZ1 := Lib.hid hsz1
  have hle1 : w.heap.size < S1.heap.size := by omega
  clear hsz1
  rw [hS1] at Nb1 NC1 E1
  clear KC BB
  go_enter Try.func40, Try.ntmps40
  go_wp2_with fail
  clear hS1
  refine (rnow_any C x raw _ HOK.out NC1.out).mono ?_
  rintro e w2 ⟨rfl, hb⟩
  have XC2 := Lib.hid (NC1.out.below hb NC1.out.lt)
  have Xb2 := Lib.hid (Nb1.out.below hb Nb1.out.lt)
  have B2 := Lib.hid (E1.out.trans (hb.mono E1.out.size))
  have hz2 := hb.size
  clear hb NC1 Nb1 E1
  rw [HM.out, HT.out]
  obtain ⟨c3_0, c3_1, c3_2, c3_3, c3_4, c3_5⟩ := XC2.out.cells
  have Nm4 : Hid (KB 23 (w2.alloc (.cells #[.int .i64 x.r, .int .i64 x.t, .int .i64 x.p, .int .i64 x.l, .int .i64 x.q, .int .i64 x.s] 23)) w2.heap.size ⟨x.r, x.t, x.p, x.l, x.q, x.s⟩) := Lib.hid (kb_new _ w2 x.r x.t x.p x.l x.q x.s)
  have lC4 := XC2.out.lt
  have NC4 := Lib.hid (XC2.out.alloc (.cells #[.int .i64 x.r, .int .i64 x.t, .int .i64 x.p, .int .i64 x.l, .int .i64 x.q, .int .i64 x.s] 23))
  have lb4 := Xb2.out.lt
  have Nb4 := Lib.hid (Xb2.out.alloc (.cells #[.int .i64 x.r, .int .i64 x.t, .int .i64 x.p, .int .i64 x.l, .int .i64 x.q, .int .i64 x.s] 23))
  have E4 := Lib.hid (B2.out.alloc B2.out.size (.cells #[.int .i64 x.r, .int .i64 x.t, .int .i64 x.p, .int .i64 x.l, .int .i64 x.q, .int .i64 x.s] 23))
  have hs4 := B2.out.size
  obtain ⟨S4, hS4⟩ : ∃ W, w2.alloc (.cells #[.int .i64 x.r, .int .i64 x.t, .int .i64 x.p, .int .i64 x.l, .int .i64 x.q, .int .i64 x.s] 23) = W := ⟨_, rfl⟩
  have hsz4 : S4.heap.size = w2.heap.size + 1 := by rw [← hS4]; simp
  have HSZ4 := Lib.hid hsz4
  have hle4 : w2.heap.size < S4.heap.size := by omega
  clear hsz4
  rw [hS4] at Nm4 NC4 Nb4 E4
  clear XC2 Xb2 B2
  obtain ⟨c5_0, c5_1, c5_2, c5_3, c5_4, c5_5⟩ := Nm4.out.cells
  go_wp2_with fail
  go_quiet ((go_at_call 44; exact Calls.quiet_of_same ((part_any _ _ _ (by omega) (by omega) (by omega) (by omega)).mono (by rintro e w' ⟨rfl, rfl⟩; exact ⟨rfl, rfl⟩))))
  clear c3_0 c3_1 c3_2 c3_3 c3_4 c3_5 hS4 c5_0 c5_1 c5_2 c5_3 c5_4 c5_5
  have QC := Lib.hid (NC4.out.drewN nq)
  have Qb := Lib.hid (Nb4.out.drewN nq)
  have Qm := Lib.hid (Nm4.out.drewN nq)
  have QB := Lib.hid (blwn E4.out nq)
  obtain ⟨Q, hQ⟩ : ∃ W, S4.drewN nq = W := ⟨_, rfl⟩
  have hqs : S4.heap.size ≤ Q.heap.size := by rw [← hQ]; exact Nat.le_refl _
  rw [hQ] at QC Qb Qm QB ⊢
  clear hQ NC4 Nb4 Nm4 E4
  obtain ⟨c6_0, c6_1, c6_2, c6_3, c6_4, c6_5⟩ := Qm.out.cells
  have gm := Qm.out.thaw.2.2.2.1
  go_wp2_with fail
  go_region_with ((go_at_call 45; refine (rsg_any _ _).mono ?_; rintro e w' ⟨rfl, rfl⟩; rw [HG.out]))
  all_goals
    clear hsub hsub2 hsub3 hsub4 hY3 hm hP hX hg
    have r7 := Qm.out.cells.2.2.2.1
    have g7 := Qm.out.thaw.2.2.2.1
    have Nm7 : Hid (KB 23 (Q.setCell ⟨w2.heap.size, 3, none⟩ (.int .i64 0)) w2.heap.size ⟨x.r, x.t, x.p, 0, x.q, x.s⟩) := Lib.hid (Qm.out.set3 0)
    have NC7 := Lib.hid (QC.out.other (D := w2.heap.size) (i := 3) (by omega) (.int .i64 0))
    have Nb7 := Lib.hid (Qb.out.other (D := w2.heap.size) (i := 3) (by omega) (.int .i64 0))
    have E7 := Lib.hid (below_set (C := w2.heap.size) (i := 3) QB.out (by omega) (.int .i64 0))
    obtain ⟨S7, hS7⟩ : ∃ W, Q.setCell ⟨w2.heap.size, 3, none⟩ (.int .i64 0) = W := ⟨_, rfl⟩
    rw [hS7] at Nm7 NC7 Nb7 E7
    clear QC Qb Qm QB
    obtain ⟨c8_0, c8_1, c8_2, c8_3, c8_4, c8_5⟩ := Nm7.out.cells
    have r9 := Nm7.out.cells.2.2.2.2.1
    have g9 := Nm7.out.thaw.2.2.2.2.1
    have Nm9 : Hid (KB 23 (S7.setCell ⟨w2.heap.size, 4, none⟩ (.int .i64 0)) w2.heap.size ⟨x.r, x.t, x.p, 0, 0, x.s⟩) := Lib.hid (Nm7.out.set4 0)
    have NC9 := Lib.hid (NC7.out.other (D := w2.heap.size) (i := 4) (by omega) (.int .i64 0))
    have Nb9 := Lib.hid (Nb7.out.other (D := w2.heap.size) (i := 4) (by omega) (.int .i64 0))
    have E9 := Lib.hid (below_set (C := w2.heap.size) (i := 4) E7.out (by omega) (.int .i64 0))
    obtain ⟨S9, hS9⟩ : ∃ W, S7.setCell ⟨w2.heap.size, 4, none⟩ (.int .i64 0) = W := ⟨_, rfl⟩
    rw [hS9] at Nm9 NC9 Nb9 E9
    clear NC7 Nb7 Nm7 E7
    obtain ⟨c10_0, c10_1, c10_2, c10_3, c10_4, c10_5⟩ := Nm9.out.cells
    have r11 := Nm9.out.cells.1
    have g11 := Nm9.out.thaw.1
    have Nm11 : Hid (KB 23 (S9.setCell ⟨w2.heap.size, 0, none⟩ (.int .i64 raw)) w2.heap.size ⟨raw, x.t, x.p, 0, 0, x.s⟩) := Lib.hid (Nm9.out.set0 raw)
    have NC11 := Lib.hid (NC9.out.other (D := w2.heap.size) (i := 0) (by omega) (.int .i64 raw))
    have Nb11 := Lib.hid (Nb9.out.other (D := w2.heap.size) (i := 0) (by omega) (.int .i64 raw))
    have E11 := Lib.hid (below_set (C := w2.heap.size) (i := 0) E9.out (by omega) (.int .i64 raw))
    obtain ⟨S11, hS11⟩ : ∃ W, S9.setCell ⟨w2.heap.size, 0, none⟩ (.int .i64 raw) = W := ⟨_, rfl⟩
    rw [hS11] at Nm11 NC11 Nb11 E11
    clear NC9 Nb9 Nm9 E9
    obtain ⟨c12_0, c12_1, c12_2, c12_3, c12_4, c12_5⟩ := Nm11.out.cells
    have r13 := Nm11.out.cells.2.1
    have g13 := Nm11.out.thaw.2.1
    have Nm13 : Hid (KB 23 (S11.setCell ⟨w2.heap.size, 1, none⟩ (.int .i64 T)) w2.heap.size ⟨raw, T, x.p, 0, 0, x.s⟩) := Lib.hid (Nm11.out.set1 T)
    have NC13 := Lib.hid (NC11.out.other (D := w2.heap.size) (i := 1) (by omega) (.int .i64 T))
    have Nb13 := Lib.hid (Nb11.out.other (D := w2.heap.size) (i := 1) (by omega) (.int .i64 T))
    have E13 := Lib.hid (below_set (C := w2.heap.size) (i := 1) E11.out (by omega) (.int .i64 T))
    obtain ⟨S13, hS13⟩ : ∃ W, S11.setCell ⟨w2.heap.size, 1, none⟩ (.int .i64 T) = W := ⟨_, rfl⟩
    rw [hS13] at Nm13 NC13 Nb13 E13
    clear NC11 Nb11 Nm11 E11
    obtain ⟨c14_0, c14_1, c14_2, c14_3, c14_4, c14_5⟩ := Nm13.out.cells
    have r15 := Nb13.out.cells.1
    have g15 := Nb13.out.thaw.1
    have Nb15 : Hid (KB 23 (S13.setCell ⟨w.heap.size, 0, none⟩ (.int .i64 raw)) w.heap.size ⟨raw, 0, 0, 0, 0, 0⟩) := Lib.hid (Nb13.out.set0 raw)
    have NC15 := Lib.hid (NC13.out.other (D := w.heap.size) (i := 0) (by omega) (.int .i64 raw))
    have Nm15 := Lib.hid (Nm13.out.other (D := w.heap.size) (i := 0) (by omega) (.int .i64 raw))
    have E15 := Lib.hid (below_set (C := w.heap.size) (i := 0) E13.out (by omega) (.int .i64 raw))
    obtain ⟨S15, hS15⟩ : ∃ W, S13.setCell ⟨w.heap.size, 0, none⟩ (.int .i64 raw) = W := ⟨_, rfl⟩
    rw [hS15] at Nb15 NC15 Nm15 E15
    clear NC13 Nb13 Nm13 E13
    have r16 := Nb15.out.cells.2.1
    have g16 := Nb15.out.thaw.2.1
    have Nb16 : Hid (KB 23 (S15.setCell ⟨w.heap.size, 1, none⟩ (.int .i64 T)) w.heap.size ⟨raw, T, 0, 0, 0, 0⟩) := Lib.hid (Nb15.out.set1 T)
    have NC16 := Lib.hid (NC15.out.other (D := w.heap.size) (i := 1) (by omega) (.int .i64 T))
    have Nm16 := Lib.hid (Nm15.out.other (D := w.heap.size) (i := 1) (by omega) (.int .i64 T))
    have E16 := Lib.hid (below_set (C := w.heap.size) (i := 1) E15.out (by omega) (.int .i64 T))
    obtain ⟨S16, hS16⟩ : ∃ W, S15.setCell ⟨w.heap.size, 1, none⟩ (.int .i64 T) = W := ⟨_, rfl⟩
    rw [hS16] at Nb16 NC16 Nm16 E16
    clear NC15 Nb15 Nm15 E15
    have r17 := Nb16.out.cells.2.2.1
    have g17 := Nb16.out.thaw.2.2.1
    have Nb17 : Hid (KB 23 (S16.setCell ⟨w.heap.size, 2, none⟩ (.int .i64 x.p)) w.heap.size ⟨raw, T, x.p, 0, 0, 0⟩) := Lib.hid (Nb16.out.set2 x.p)
    have NC17 := Lib.hid (NC16.out.other (D := w.heap.size) (i := 2) (by omega) (.int .i64 x.p))
    have Nm17 := Lib.hid (Nm16.out.other (D := w.heap.size) (i := 2) (by omega) (.int .i64 x.p))
    have E17 := Lib.hid (below_set (C := w.heap.size) (i := 2) E16.out (by omega) (.int .i64 x.p))
    obtain ⟨S17, hS17⟩ : ∃ W, S16.setCell ⟨w.heap.size, 2, none⟩ (.int .i64 x.p) = W := ⟨_, rfl⟩
    rw [hS17] at Nb17 NC17 Nm17 E17
    clear NC16 Nb16 Nm16 E16
    have r18 := Nb17.out.cells.2.2.2.1
    have g18 := Nb17.out.thaw.2.2.2.1
    have Nb18 : Hid (KB 23 (S17.setCell ⟨w.heap.size, 3, none⟩ (.int .i64 0)) w.heap.size ⟨raw, T, x.p, 0, 0, 0⟩) := Lib.hid (Nb17.out.set3 0)
    have NC18 := Lib.hid (NC17.out.other (D := w.heap.size) (i := 3) (by omega) (.int .i64 0))
    have Nm18 := Lib.hid (Nm17.out.other (D := w.heap.size) (i := 3) (by omega) (.int .i64 0))
    have E18 := Lib.hid (below_set (C := w.heap.size) (i := 3) E17.out (by omega) (.int .i64 0))
    obtain ⟨S18, hS18⟩ : ∃ W, S17.setCell ⟨w.heap.size, 3, none⟩ (.int .i64 0) = W := ⟨_, rfl⟩
    rw [hS18] at Nb18 NC18 Nm18 E18
    clear NC17 Nb17 Nm17 E17
    have r19 := Nb18.out.cells.2.2.2.2.1
    have g19 := Nb18.out.thaw.2.2.2.2.1
    have Nb19 : Hid (KB 23 (S18.setCell ⟨w.heap.size, 4, none⟩ (.int .i64 0)) w.heap.size ⟨raw, T, x.p, 0, 0, 0⟩) := Lib.hid (Nb18.out.set4 0)
    have NC19 := Lib.hid (NC18.out.other (D := w.heap.size) (i := 4) (by omega) (.int .i64 0))
    have Nm19 := Lib.hid (Nm18.out.other (D := w.heap.size) (i := 4) (by omega) (.int .i64 0))
    have E19 := Lib.hid (below_set (C := w.heap.size) (i := 4) E18.out (by omega) (.int .i64 0))
    obtain ⟨S19, hS19⟩ : ∃ W, S18.setCell ⟨w.heap.size, 4, none⟩ (.int .i64 0) = W := ⟨_, rfl⟩
    rw [hS19] at Nb19 NC19 Nm19 E19
    clear NC18 Nb18 Nm18 E18
    have r20 := Nb19.out.cells.2.2.2.2.2
    have g20 := Nb19.out.thaw.2.2.2.2.2
    have Nb20 : Hid (KB 23 (S19.setCell ⟨w.heap.size, 5, none⟩ (.int .i64 x.s)) w.heap.size ⟨raw, T, x.p, 0, 0, x.s⟩) := Lib.hid (Nb19.out.set5 x.s)
    have NC20 := Lib.hid (NC19.out.other (D := w.heap.size) (i := 5) (by omega) (.int .i64 x.s))
    have Nm20 := Lib.hid (Nm19.out.other (D := w.heap.size) (i := 5) (by omega) (.int .i64 x.s))
    have E20 := Lib.hid (below_set (C := w.heap.size) (i := 5) E19.out (by omega) (.int .i64 x.s))
    obtain ⟨S20, hS20⟩ : ∃ W, S19.setCell ⟨w.heap.size, 5, none⟩ (.int .i64 x.s) = W := ⟨_, rfl⟩
    rw [hS20] at Nb20 NC20 Nm20 E20
    clear NC19 Nb19 Nm19 E19
    obtain ⟨c21_0, c21_1, c21_2, c21_3, c21_4, c21_5⟩ := Nb20.out.cells
    go_wp2_with fail
    rw [HYY.out, HT'.out]
    exact bodyPost_ret (v := .tuple #[.agg #[.int .i64 raw, .int .i64 T, .int .i64 x.p, .int .i64 0, .int .i64 0, .int .i64 x.s], .int .i64 0]) (by simp [results, Try.results40, go_sem, c21_0, c21_1, c21_2, c21_3, c21_4, c21_5]) rfl ⟨rfl, E20.out.drew⟩
theorem rmoved_any (C : Nat) (x : St) (raw : Int) (w : World) (hx : Ok x) (hk : KB 53 w C x) :
    Calls Try.prog 40 #[.pointer (some ⟨C, 0, none⟩), .int .i64 raw] w fun e w' => e = .returned (.tuple #[.agg #[.int .i64 ((mvS x raw).r), .int .i64 ((mvS x raw).t), .int .i64 ((mvS x raw).p), .int .i64 ((mvS x raw).l), .int .i64 ((mvS x raw).q), .int .i64 ((mvS x raw).s)], .int .i64 (mvE x raw)]) ∧ Below w.heap.size w w' := by
  by_cases he : mvE x raw = 0
  · have e1 : mvS x raw = mvG x raw := if_pos he
    rw [e1, he]
    by_cases hz : lft x raw = 0
    · have e2 : mvG x raw = ⟨raw, at' x raw, x.p, lft x raw, 0, x.s⟩ := by unfold mvG; rw [if_pos hz]
      rw [e2]; exact rmoved_over C x raw w hx hk he hz
    · have e2 : mvG x raw = ⟨raw, at' x raw, x.p, lft x raw, x.q, x.s⟩ := by unfold mvG; rw [if_neg hz]
      rw [e2]; exact rmoved_left C x raw w hx hk he hz
  · have e1 : mvS x raw = zer := if_neg he
    rw [e1]; exact rmoved_no C x raw w hx hk he
end Go.Proofs.Ytjcpfkibaohjjaa
