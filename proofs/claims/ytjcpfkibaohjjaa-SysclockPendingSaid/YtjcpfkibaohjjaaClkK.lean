/- Contracts of layer 10: the specification's changes. -/
import Derived.Test.YtjcpfkibaohjjaaClkJ
namespace Go.Proofs.Ytjcpfkibaohjjaa
open Go.RowKit Fx Ck

set_option maxRecDepth 100000 in
set_option maxHeartbeats 1000000 in
theorem rfreq_bad (C : Nat) (x : St) (raw ppb : Int) (w : World) (hx : Ok x) (hk : KB 53 w C x) (hv : win ppb 500000 = false) :
    Calls Try.prog 28 #[.pointer (some ⟨C, 0, none⟩), .int .i64 raw, .int .i64 ppb] w (Done 53 C w 3 x) := by
  have KC := Lib.hid hk
  have HOK := Lib.hid hx
  have BB := Lib.hid (Below.refl w.heap.size w)
  have HC := hk.lt
  clear hk hx
  go_enter Try.func28, Try.ntmps28
  go_wp2_with (go_at_call 38; refine (rwin_any _ _ _ (by decide) (by decide)).mono ?_; rintro e w' ⟨rfl, rfl⟩)
  go_ret
  exact ⟨rfl, KC.out, grown_refl _ _⟩
set_option maxRecDepth 100000 in
set_option maxHeartbeats 1000000 in
theorem rfreq_no (C : Nat) (x : St) (raw ppb : Int) (w : World) (hx : Ok x) (hk : KB 53 w C x) (hv : win ppb 500000 = true) (he : ¬ mvE x raw = 0) :
    Calls Try.prog 28 #[.pointer (some ⟨C, 0, none⟩), .int .i64 raw, .int .i64 ppb] w (Done 53 C w (mvE x raw) x) := by
  have KC := Lib.hid hk
  have HOK := Lib.hid hx
  have BB := Lib.hid (Below.refl w.heap.size w)
  have HC := hk.lt
  obtain ⟨m, hm⟩ : ∃ m, mvE x raw = m := ⟨_, rfl⟩
  rw [hm] at he
  have m0 : (m == 0) = false := by simpa using he
  have m1 : (m != 0) = true := by simpa using he
  have HM := Lib.hid hm
  rw [hm]
  clear he hm
  clear hk hx
  go_enter Try.func28, Try.ntmps28
  go_wp2_with (go_at_call 38; refine (rwin_any _ _ _ (by decide) (by decide)).mono ?_; rintro e w' ⟨rfl, rfl⟩)
  refine (rmoved_any C x raw _ HOK.out KC.out).mono ?_
  rintro e w1 ⟨rfl, hb⟩
  have XC1 := Lib.hid (KC.out.below hb KC.out.lt)
  have B1 := Lib.hid (BB.out.trans (hb.mono BB.out.size))
  have hz1 := hb.size
  clear hb KC BB
  rw [HM.out]
  obtain ⟨y, hy⟩ : ∃ y, mvS x raw = y := ⟨_, rfl⟩
  rw [hy]
  clear hy
  have Nm2 : Hid (KB 23 (w1.alloc (.cells #[.int .i64 y.r, .int .i64 y.t, .int .i64 y.p, .int .i64 y.l, .int .i64 y.q, .int .i64 y.s] 23)) w1.heap.size ⟨y.r, y.t, y.p, y.l, y.q, y.s⟩) := Lib.hid (kb_new _ w1 y.r y.t y.p y.l y.q y.s)
  have lC2 := XC1.out.lt
  have NC2 := Lib.hid (XC1.out.alloc (.cells #[.int .i64 y.r, .int .i64 y.t, .int .i64 y.p, .int .i64 y.l, .int .i64 y.q, .int .i64 y.s] 23))
  have E2 := Lib.hid (B1.out.alloc B1.out.size (.cells #[.int .i64 y.r, .int .i64 y.t, .int .i64 y.p, .int .i64 y.l, .int .i64 y.q, .int .i64 y.s] 23))
  have hs2 := B1.out.size
  obtain ⟨S2, hS2⟩ : ∃ W, w1.alloc (.cells #[.int .i64 y.r, .int .i64 y.t, .int .i64 y.p, .int .i64 y.l, .int .i64 y.q, .int .i64 y.s] 23) = W := ⟨_, rfl⟩
  have hsz2 : S2.heap.size = w1.heap.size + 1 := by rw [← hS2]; simp
  have HSZ2 := Lib.hid hsz2
  have hle2 : w1.heap.size < S2.heap.size := by omega
  clear hsz2
  rw [hS2] at Nm2 NC2 E2
  clear XC1 B1
  obtain ⟨c3_0, c3_1, c3_2, c3_3, c3_4, c3_5⟩ := Nm2.out.cells
  go_wp2_with fail
  go_ret
  exact ⟨rfl, NC2.out, grown_of_below E2.out⟩
set_option maxRecDepth 100000 in
set_option maxHeartbeats 1000000 in
theorem rfreq_yes (C : Nat) (x : St) (raw ppb : Int) (w : World) (hx : Ok x) (hk : KB 53 w C x) (hv : win ppb 500000 = true) (he : mvE x raw = 0) :
    Calls Try.prog 28 #[.pointer (some ⟨C, 0, none⟩), .int .i64 raw, .int .i64 ppb] w (Done 53 C w 0 (frZ x raw ppb)) := by
  have KC := Lib.hid hk
  have HOK := Lib.hid hx
  have BB := Lib.hid (Below.refl w.heap.size w)
  have HC := hk.lt
  have HM := Lib.hid he
  clear he
  clear hk hx
  go_enter Try.func28, Try.ntmps28
  go_wp2_with (go_at_call 38; refine (rwin_any _ _ _ (by decide) (by decide)).mono ?_; rintro e w' ⟨rfl, rfl⟩)
  refine (rmoved_any C x raw _ HOK.out KC.out).mono ?_
  rintro e w1 ⟨rfl, hb⟩
  have XC1 := Lib.hid (KC.out.below hb KC.out.lt)
  have B1 := Lib.hid (BB.out.trans (hb.mono BB.out.size))
  have hz1 := hb.size
  clear hb KC BB
  rw [HM.out]
  obtain ⟨y, hy⟩ : ∃ y, mvS x raw = y := ⟨_, rfl⟩
  rw [hy]
  have hy2 : y = mvG x raw := by rw [← hy]; exact if_pos HM.out
  have HR : Hid (y.r = raw) := Lib.hid (by rw [hy2]; rfl)
  have HTT : Hid (y.t = at' x raw) := Lib.hid (by rw [hy2]; rfl)
  have HPP : Hid (y.p = x.p) := Lib.hid (by rw [hy2]; rfl)
  have HLL : Hid (y.l = lft x raw) := Lib.hid (by rw [hy2]; rfl)
  have HQQ : Hid (y.q = if lft x raw = 0 then 0 else x.q) := Lib.hid (by rw [hy2]; rfl)
  have HSS : Hid (y.s = x.s) := Lib.hid (by rw [hy2]; rfl)
  have hyo : Ok y := by rw [hy2]; exact mv_ok HOK.out HM.out
  obtain ⟨yt0, yt1⟩ := hyo.2.1
  obtain ⟨ys0, ys1⟩ := hyo.2.2.2.2.2.2
  clear hy hy2 hyo
  have Nm2 : Hid (KB 23 (w1.alloc (.cells #[.int .i64 y.r, .int .i64 y.t, .int .i64 y.p, .int .i64 y.l, .int .i64 y.q, .int .i64 y.s] 23)) w1.heap.size ⟨y.r, y.t, y.p, y.l, y.q, y.s⟩) := Lib.hid (kb_new _ w1 y.r y.t y.p y.l y.q y.s)
  have lC2 := XC1.out.lt
  have NC2 := Lib.hid (XC1.out.alloc (.cells #[.int .i64 y.r, .int .i64 y.t, .int .i64 y.p, .int .i64 y.l, .int .i64 y.q, .int .i64 y.s] 23))
  have E2 := Lib.hid (B1.out.alloc B1.out.size (.cells #[.int .i64 y.r, .int .i64 y.t, .int .i64 y.p, .int .i64 y.l, .int .i64 y.q, .int .i64 y.s] 23))
  have hs2 := B1.out.size
  obtain ⟨S2, hS2⟩ : ∃ W, w1.alloc (.cells #[.int .i64 y.r, .int .i64 y.t, .int .i64 y.p, .int .i64 y.l, .int .i64 y.q, .int .i64 y.s] 23) = W := ⟨_, rfl⟩
  have hsz2 : S2.heap.size = w1.heap.size + 1 := by rw [← hS2]; simp
  have HSZ2 := Lib.hid hsz2
  have hle2 : w1.heap.size < S2.heap.size := by omega
  clear hsz2
  rw [hS2] at Nm2 NC2 E2
  clear XC1 B1
  obtain ⟨c3_0, c3_1, c3_2, c3_3, c3_4, c3_5⟩ := Nm2.out.cells
  have r4 := Nm2.out.cells.2.2.1
  have g4 := Nm2.out.thaw.2.2.1
  have Nm4 : Hid (KB 23 (S2.setCell ⟨w1.heap.size, 2, none⟩ (.int .i64 ppb)) w1.heap.size ⟨y.r, y.t, ppb, y.l, y.q, y.s⟩) := Lib.hid (Nm2.out.set2 ppb)
  have NC4 := Lib.hid (NC2.out.other (D := w1.heap.size) (i := 2) (by omega) (.int .i64 ppb))
  have E4 := Lib.hid (below_set (C := w1.heap.size) (i := 2) E2.out (by omega) (.int .i64 ppb))
  obtain ⟨S4, hS4⟩ : ∃ W, S2.setCell ⟨w1.heap.size, 2, none⟩ (.int .i64 ppb) = W := ⟨_, rfl⟩
  rw [hS4] at Nm4 NC4 E4
  clear NC2 Nm2 E2
  obtain ⟨c5_0, c5_1, c5_2, c5_3, c5_4, c5_5⟩ := Nm4.out.cells
  have GG := Lib.hid (grown_of_below (r := some C) E4.out)
  have r6 := NC4.out.cells.1
  have g6 := NC4.out.thaw.1
  have NC6 : Hid (KB 53 (S4.setCell ⟨C, 0, none⟩ (.int .i64 y.r)) C ⟨y.r, x.t, x.p, x.l, x.q, x.s⟩) := Lib.hid (NC4.out.set0 y.r)
  have NG6 := Lib.hid (grown_set (i := 0) GG.out (.int .i64 y.r))
  obtain ⟨S6, hS6⟩ : ∃ W, S4.setCell ⟨C, 0, none⟩ (.int .i64 y.r) = W := ⟨_, rfl⟩
  rw [hS6] at NC6 NG6
  clear NC4 GG
  have r7 := NC6.out.cells.2.1
  have g7 := NC6.out.thaw.2.1
  have NC7 : Hid (KB 53 (S6.setCell ⟨C, 1, none⟩ (.int .i64 y.t)) C ⟨y.r, y.t, x.p, x.l, x.q, x.s⟩) := Lib.hid (NC6.out.set1 y.t)
  have NG7 := Lib.hid (grown_set (i := 1) NG6.out (.int .i64 y.t))
  obtain ⟨S7, hS7⟩ : ∃ W, S6.setCell ⟨C, 1, none⟩ (.int .i64 y.t) = W := ⟨_, rfl⟩
  rw [hS7] at NC7 NG7
  clear NC6 NG6
  have r8 := NC7.out.cells.2.2.1
  have g8 := NC7.out.thaw.2.2.1
  have NC8 : Hid (KB 53 (S7.setCell ⟨C, 2, none⟩ (.int .i64 ppb)) C ⟨y.r, y.t, ppb, x.l, x.q, x.s⟩) := Lib.hid (NC7.out.set2 ppb)
  have NG8 := Lib.hid (grown_set (i := 2) NG7.out (.int .i64 ppb))
  obtain ⟨S8, hS8⟩ : ∃ W, S7.setCell ⟨C, 2, none⟩ (.int .i64 ppb) = W := ⟨_, rfl⟩
  rw [hS8] at NC8 NG8
  clear NC7 NG7
  have r9 := NC8.out.cells.2.2.2.1
  have g9 := NC8.out.thaw.2.2.2.1
  have NC9 : Hid (KB 53 (S8.setCell ⟨C, 3, none⟩ (.int .i64 y.l)) C ⟨y.r, y.t, ppb, y.l, x.q, x.s⟩) := Lib.hid (NC8.out.set3 y.l)
  have NG9 := Lib.hid (grown_set (i := 3) NG8.out (.int .i64 y.l))
  obtain ⟨S9, hS9⟩ : ∃ W, S8.setCell ⟨C, 3, none⟩ (.int .i64 y.l) = W := ⟨_, rfl⟩
  rw [hS9] at NC9 NG9
  clear NC8 NG8
  have r10 := NC9.out.cells.2.2.2.2.1
  have g10 := NC9.out.thaw.2.2.2.2.1
  have NC10 : Hid (KB 53 (S9.setCell ⟨C, 4, none⟩ (.int .i64 y.q)) C ⟨y.r, y.t, ppb, y.l, y.q, x.s⟩) := Lib.hid (NC9.out.set4 y.q)
  have NG10 := Lib.hid (grown_set (i := 4) NG9.out (.int .i64 y.q))
  obtain ⟨S10, hS10⟩ : ∃ W, S9.setCell ⟨C, 4, none⟩ (.int .i64 y.q) = W := ⟨_, rfl⟩
  rw [hS10] at NC10 NG10
  clear NC9 NG9
  have r11 := NC10.out.cells.2.2.2.2.2
  have g11 := NC10.out.thaw.2.2.2.2.2
  have NC11 : Hid (KB 53 (S10.setCell ⟨C, 5, none⟩ (.int .i64 y.s)) C ⟨y.r, y.t, ppb, y.l, y.q, y.s⟩) := Lib.hid (NC10.out.set5 y.s)
  have NG11 := Lib.hid (grown_set (i := 5) NG10.out (.int .i64 y.s))
  obtain ⟨S11, hS11⟩ : ∃ W, S10.setCell ⟨C, 5, none⟩ (.int .i64 y.s) = W := ⟨_, rfl⟩
  rw [hS11] at NC11 NG11
  clear NC10 NG10
  go_wp2_with fail
  go_ret
  have e : (⟨y.r, y.t, ppb, y.l, y.q, y.s⟩ : St) = frZ x raw ppb := by unfold frZ; rw [HR.out, HTT.out, HLL.out, HQQ.out, HSS.out]
  exact ⟨rfl, by rw [← e]; exact NC11.out, NG11.out⟩
set_option maxRecDepth 100000 in
set_option maxHeartbeats 1000000 in
theorem rslew_bad1 (C : Nat) (x : St) (raw d q : Int) (w : World) (hx : Ok x) (hk : KB 53 w C x) (hv : win d 4503599627370496 = false) :
    Calls Try.prog 29 #[.pointer (some ⟨C, 0, none⟩), .int .i64 raw, .int .i64 d, .int .i64 q] w (Done 53 C w 3 x) := by
  have KC := Lib.hid hk
  have HOK := Lib.hid hx
  have BB := Lib.hid (Below.refl w.heap.size w)
  have HC := hk.lt
  clear hk hx
  go_enter Try.func29, Try.ntmps29
  go_wp2_with (go_at_call 38; refine (rwin_any _ _ _ (by decide) (by decide)).mono ?_; rintro e w' ⟨rfl, rfl⟩)
  go_ret
  exact ⟨rfl, KC.out, grown_refl _ _⟩
set_option maxRecDepth 100000 in
set_option maxHeartbeats 1000000 in
theorem rslew_bad2 (C : Nat) (x : St) (raw d q : Int) (w : World) (hx : Ok x) (hk : KB 53 w C x) (hv : win d 4503599627370496 = true) (g : q < 1) :
    Calls Try.prog 29 #[.pointer (some ⟨C, 0, none⟩), .int .i64 raw, .int .i64 d, .int .i64 q] w (Done 53 C w 3 x) := by
  have KC := Lib.hid hk
  have HOK := Lib.hid hx
  have BB := Lib.hid (Below.refl w.heap.size w)
  have HC := hk.lt
  have g1 : decide (q < 1) = true := decide_eq_true g
  clear hk hx
  go_enter Try.func29, Try.ntmps29
  go_wp2_with (go_at_call 38; refine (rwin_any _ _ _ (by decide) (by decide)).mono ?_; rintro e w' ⟨rfl, rfl⟩)
  go_ret
  exact ⟨rfl, KC.out, grown_refl _ _⟩
set_option maxRecDepth 100000 in
set_option maxHeartbeats 1000000 in
theorem rslew_bad3 (C : Nat) (x : St) (raw d q : Int) (w : World) (hx : Ok x) (hk : KB 53 w C x) (hv : win d 4503599627370496 = true) (g1 : 1 ≤ q) (g : 500000 < q) :
    Calls Try.prog 29 #[.pointer (some ⟨C, 0, none⟩), .int .i64 raw, .int .i64 d, .int .i64 q] w (Done 53 C w 3 x) := by
  have KC := Lib.hid hk
  have HOK := Lib.hid hx
  have BB := Lib.hid (Below.refl w.heap.size w)
  have HC := hk.lt
  have gq0 : decide (q < 1) = false := decide_eq_false (by omega)
  have g2 : decide (500000 < q) = true := decide_eq_true g
  clear hk hx
  go_enter Try.func29, Try.ntmps29
  go_wp2_with (go_at_call 38; refine (rwin_any _ _ _ (by decide) (by decide)).mono ?_; rintro e w' ⟨rfl, rfl⟩)
  go_ret
  exact ⟨rfl, KC.out, grown_refl _ _⟩
set_option maxRecDepth 100000 in
set_option maxHeartbeats 1000000 in
theorem rslew_no (C : Nat) (x : St) (raw d q : Int) (w : World) (hx : Ok x) (hk : KB 53 w C x) (hv : win d 4503599627370496 = true) (g1 : 1 ≤ q) (g2 : q ≤ 500000) (he : ¬ mvE x raw = 0) :
    Calls Try.prog 29 #[.pointer (some ⟨C, 0, none⟩), .int .i64 raw, .int .i64 d, .int .i64 q] w (Done 53 C w (mvE x raw) x) := by
  have KC := Lib.hid hk
  have HOK := Lib.hid hx
  have BB := Lib.hid (Below.refl w.heap.size w)
  have HC := hk.lt
  have gq0 : decide (q < 1) = false := decide_eq_false (by omega)
  have gq1 : decide (500000 < q) = false := decide_eq_false (by omega)
  obtain ⟨m, hm⟩ : ∃ m, mvE x raw = m := ⟨_, rfl⟩
  rw [hm] at he
  have m0 : (m == 0) = false := by simpa using he
  have m1 : (m != 0) = true := by simpa using he
  have HM := Lib.hid hm
  rw [hm]
  clear he hm
  clear hk hx
  go_enter Try.func29, Try.ntmps29
  go_wp2_with (go_at_call 38; refine (rwin_any _ _ _ (by decide) (by decide)).mono ?_; rintro e w' ⟨rfl, rfl⟩)
  refine (rmoved_any C x raw _ HOK.out KC.out).mono ?_
  rintro e w1 ⟨rfl, hb⟩
  have XC1 := Lib.hid (KC.out.below hb KC.out.lt)
  have B1 := Lib.hid (BB.out.trans (hb.mono BB.out.size))
  have hz1 := hb.size
  clear hb KC BB
  rw [HM.out]
  obtain ⟨y, hy⟩ : ∃ y, mvS x raw = y := ⟨_, rfl⟩
  rw [hy]
  clear hy
  have Nm2 : Hid (KB 23 (w1.alloc (.cells #[.int .i64 y.r, .int .i64 y.t, .int .i64 y.p, .int .i64 y.l, .int .i64 y.q, .int .i64 y.s] 23)) w1.heap.size ⟨y.r, y.t, y.p, y.l, y.q, y.s⟩) := Lib.hid (kb_new _ w1 y.r y.t y.p y.l y.q y.s)
  have lC2 := XC1.out.lt
  have NC2 := Lib.hid (XC1.out.alloc (.cells #[.int .i64 y.r, .int .i64 y.t, .int .i64 y.p, .int .i64 y.l, .int .i64 y.q, .int .i64 y.s] 23))
  have E2 := Lib.hid (B1.out.alloc B1.out.size (.cells #[.int .i64 y.r, .int .i64 y.t, .int .i64 y.p, .int .i64 y.l, .int .i64 y.q, .int .i64 y.s] 23))
  have hs2 := B1.out.size
  obtain ⟨S2, hS2⟩ : ∃ W, w1.alloc (.cells #[.int .i64 y.r, .int .i64 y.t, .int .i64 y.p, .int .i64 y.l, .int .i64 y.q, .int .i64 y.s] 23) = W := ⟨_, rfl⟩
  have hsz2 : S2.heap.size = w1.heap.size + 1 := by rw [← hS2]; simp
  have HSZ2 := Lib.hid hsz2
  have hle2 : w1.heap.size < S2.heap.size := by omega
  clear hsz2
  rw [hS2] at Nm2 NC2 E2
  clear XC1 B1
  obtain ⟨c3_0, c3_1, c3_2, c3_3, c3_4, c3_5⟩ := Nm2.out.cells
  go_wp2_with fail
  go_ret
  exact ⟨rfl, NC2.out, grown_of_below E2.out⟩
set_option maxRecDepth 100000 in
set_option maxHeartbeats 1000000 in
theorem rslew_yes (C : Nat) (x : St) (raw d q : Int) (w : World) (hx : Ok x) (hk : KB 53 w C x) (hv : win d 4503599627370496 = true) (g1 : 1 ≤ q) (g2 : q ≤ 500000) (he : mvE x raw = 0) (hd : ¬ d = 0) :
    Calls Try.prog 29 #[.pointer (some ⟨C, 0, none⟩), .int .i64 raw, .int .i64 d, .int .i64 q] w (Done 53 C w 0 ⟨raw, at' x raw, x.p, d, q, x.s⟩) := by
  have KC := Lib.hid hk
  have HOK := Lib.hid hx
  have BB := Lib.hid (Below.refl w.heap.size w)
  have HC := hk.lt
  have HM := Lib.hid he
  clear he
  have gq0 : decide (q < 1) = false := decide_eq_false (by omega)
  have gq1 : decide (500000 < q) = false := decide_eq_false (by omega)
  have hd0 : (d == 0) = false := by simpa using hd
  clear hd
  clear hk hx
  go_enter Try.func29, Try.ntmps29
  go_wp2_with (go_at_call 38; refine (rwin_any _ _ _ (by decide) (by decide)).mono ?_; rintro e w' ⟨rfl, rfl⟩)
  refine (rmoved_any C x raw _ HOK.out KC.out).mono ?_
  rintro e w1 ⟨rfl, hb⟩
  have XC1 := Lib.hid (KC.out.below hb KC.out.lt)
  have B1 := Lib.hid (BB.out.trans (hb.mono BB.out.size))
  have hz1 := hb.size
  clear hb KC BB
  rw [HM.out]
  obtain ⟨y, hy⟩ : ∃ y, mvS x raw = y := ⟨_, rfl⟩
  rw [hy]
  have hy2 : y = mvG x raw := by rw [← hy]; exact if_pos HM.out
  have HR : Hid (y.r = raw) := Lib.hid (by rw [hy2]; rfl)
  have HTT : Hid (y.t = at' x raw) := Lib.hid (by rw [hy2]; rfl)
  have HPP : Hid (y.p = x.p) := Lib.hid (by rw [hy2]; rfl)
  have HLL : Hid (y.l = lft x raw) := Lib.hid (by rw [hy2]; rfl)
  have HQQ : Hid (y.q = if lft x raw = 0 then 0 else x.q) := Lib.hid (by rw [hy2]; rfl)
  have HSS : Hid (y.s = x.s) := Lib.hid (by rw [hy2]; rfl)
  have hyo : Ok y := by rw [hy2]; exact mv_ok HOK.out HM.out
  obtain ⟨yt0, yt1⟩ := hyo.2.1
  obtain ⟨ys0, ys1⟩ := hyo.2.2.2.2.2.2
  clear hy hy2 hyo
  have Nm2 : Hid (KB 23 (w1.alloc (.cells #[.int .i64 y.r, .int .i64 y.t, .int .i64 y.p, .int .i64 y.l, .int .i64 y.q, .int .i64 y.s] 23)) w1.heap.size ⟨y.r, y.t, y.p, y.l, y.q, y.s⟩) := Lib.hid (kb_new _ w1 y.r y.t y.p y.l y.q y.s)
  have lC2 := XC1.out.lt
  have NC2 := Lib.hid (XC1.out.alloc (.cells #[.int .i64 y.r, .int .i64 y.t, .int .i64 y.p, .int .i64 y.l, .int .i64 y.q, .int .i64 y.s] 23))
  have E2 := Lib.hid (B1.out.alloc B1.out.size (.cells #[.int .i64 y.r, .int .i64 y.t, .int .i64 y.p, .int .i64 y.l, .int .i64 y.q, .int .i64 y.s] 23))
  have hs2 := B1.out.size
  obtain ⟨S2, hS2⟩ : ∃ W, w1.alloc (.cells #[.int .i64 y.r, .int .i64 y.t, .int .i64 y.p, .int .i64 y.l, .int .i64 y.q, .int .i64 y.s] 23) = W := ⟨_, rfl⟩
  have hsz2 : S2.heap.size = w1.heap.size + 1 := by rw [← hS2]; simp
  have HSZ2 := Lib.hid hsz2
  have hle2 : w1.heap.size < S2.heap.size := by omega
  clear hsz2
  rw [hS2] at Nm2 NC2 E2
  clear XC1 B1
  obtain ⟨c3_0, c3_1, c3_2, c3_3, c3_4, c3_5⟩ := Nm2.out.cells
  have r4 := Nm2.out.cells.2.2.2.1
  have g4 := Nm2.out.thaw.2.2.2.1
  have Nm4 : Hid (KB 23 (S2.setCell ⟨w1.heap.size, 3, none⟩ (.int .i64 d)) w1.heap.size ⟨y.r, y.t, y.p, d, y.q, y.s⟩) := Lib.hid (Nm2.out.set3 d)
  have NC4 := Lib.hid (NC2.out.other (D := w1.heap.size) (i := 3) (by omega) (.int .i64 d))
  have E4 := Lib.hid (below_set (C := w1.heap.size) (i := 3) E2.out (by omega) (.int .i64 d))
  obtain ⟨S4, hS4⟩ : ∃ W, S2.setCell ⟨w1.heap.size, 3, none⟩ (.int .i64 d) = W := ⟨_, rfl⟩
  rw [hS4] at Nm4 NC4 E4
  clear NC2 Nm2 E2
  have r5 := Nm4.out.cells.2.2.2.2.1
  have g5 := Nm4.out.thaw.2.2.2.2.1
  have Nm5 : Hid (KB 23 (S4.setCell ⟨w1.heap.size, 4, none⟩ (.int .i64 q)) w1.heap.size ⟨y.r, y.t, y.p, d, q, y.s⟩) := Lib.hid (Nm4.out.set4 q)
  have NC5 := Lib.hid (NC4.out.other (D := w1.heap.size) (i := 4) (by omega) (.int .i64 q))
  have E5 := Lib.hid (below_set (C := w1.heap.size) (i := 4) E4.out (by omega) (.int .i64 q))
  obtain ⟨S5, hS5⟩ : ∃ W, S4.setCell ⟨w1.heap.size, 4, none⟩ (.int .i64 q) = W := ⟨_, rfl⟩
  rw [hS5] at Nm5 NC5 E5
  clear NC4 Nm4 E4
  obtain ⟨c6_0, c6_1, c6_2, c6_3, c6_4, c6_5⟩ := Nm5.out.cells
  have GG := Lib.hid (grown_of_below (r := some C) E5.out)
  have r7 := NC5.out.cells.1
  have g7 := NC5.out.thaw.1
  have NC7 : Hid (KB 53 (S5.setCell ⟨C, 0, none⟩ (.int .i64 y.r)) C ⟨y.r, x.t, x.p, x.l, x.q, x.s⟩) := Lib.hid (NC5.out.set0 y.r)
  have NG7 := Lib.hid (grown_set (i := 0) GG.out (.int .i64 y.r))
  obtain ⟨S7, hS7⟩ : ∃ W, S5.setCell ⟨C, 0, none⟩ (.int .i64 y.r) = W := ⟨_, rfl⟩
  rw [hS7] at NC7 NG7
  clear NC5 GG
  have r8 := NC7.out.cells.2.1
  have g8 := NC7.out.thaw.2.1
  have NC8 : Hid (KB 53 (S7.setCell ⟨C, 1, none⟩ (.int .i64 y.t)) C ⟨y.r, y.t, x.p, x.l, x.q, x.s⟩) := Lib.hid (NC7.out.set1 y.t)
  have NG8 := Lib.hid (grown_set (i := 1) NG7.out (.int .i64 y.t))
  obtain ⟨S8, hS8⟩ : ∃ W, S7.setCell ⟨C, 1, none⟩ (.int .i64 y.t) = W := ⟨_, rfl⟩
  rw [hS8] at NC8 NG8
  clear NC7 NG7
  have r9 := NC8.out.cells.2.2.1
  have g9 := NC8.out.thaw.2.2.1
  have NC9 : Hid (KB 53 (S8.setCell ⟨C, 2, none⟩ (.int .i64 y.p)) C ⟨y.r, y.t, y.p, x.l, x.q, x.s⟩) := Lib.hid (NC8.out.set2 y.p)
  have NG9 := Lib.hid (grown_set (i := 2) NG8.out (.int .i64 y.p))
  obtain ⟨S9, hS9⟩ : ∃ W, S8.setCell ⟨C, 2, none⟩ (.int .i64 y.p) = W := ⟨_, rfl⟩
  rw [hS9] at NC9 NG9
  clear NC8 NG8
  have r10 := NC9.out.cells.2.2.2.1
  have g10 := NC9.out.thaw.2.2.2.1
  have NC10 : Hid (KB 53 (S9.setCell ⟨C, 3, none⟩ (.int .i64 d)) C ⟨y.r, y.t, y.p, d, x.q, x.s⟩) := Lib.hid (NC9.out.set3 d)
  have NG10 := Lib.hid (grown_set (i := 3) NG9.out (.int .i64 d))
  obtain ⟨S10, hS10⟩ : ∃ W, S9.setCell ⟨C, 3, none⟩ (.int .i64 d) = W := ⟨_, rfl⟩
  rw [hS10] at NC10 NG10
  clear NC9 NG9
  have r11 := NC10.out.cells.2.2.2.2.1
  have g11 := NC10.out.thaw.2.2.2.2.1
  have NC11 : Hid (KB 53 (S10.setCell ⟨C, 4, none⟩ (.int .i64 q)) C ⟨y.r, y.t, y.p, d, q, x.s⟩) := Lib.hid (NC10.out.set4 q)
  have NG11 := Lib.hid (grown_set (i := 4) NG10.out (.int .i64 q))
  obtain ⟨S11, hS11⟩ : ∃ W, S10.setCell ⟨C, 4, none⟩ (.int .i64 q) = W := ⟨_, rfl⟩
  rw [hS11] at NC11 NG11
  clear NC10 NG10
  have r12 := NC11.out.cells.2.2.2.2.2
  have g12 := NC11.out.thaw.2.2.2.2.2
  have NC12 : Hid (KB 53 (S11.setCell ⟨C, 5, none⟩ (.int .i64 y.s)) C ⟨y.r, y.t, y.p, d, q, y.s⟩) := Lib.hid (NC11.out.set5 y.s)
  have NG12 := Lib.hid (grown_set (i := 5) NG11.out (.int .i64 y.s))
  obtain ⟨S12, hS12⟩ : ∃ W, S11.setCell ⟨C, 5, none⟩ (.int .i64 y.s) = W := ⟨_, rfl⟩
  rw [hS12] at NC12 NG12
  clear NC11 NG11
  go_wp2_with fail
  go_ret
  have e : (⟨y.r, y.t, y.p, d, q, y.s⟩ : St) = ⟨raw, at' x raw, x.p, d, q, x.s⟩ := by rw [HR.out, HTT.out, HPP.out, HSS.out]
  exact ⟨rfl, by rw [← e]; exact NC12.out, NG12.out⟩
set_option maxRecDepth 100000 in
set_option maxHeartbeats 1000000 in
theorem rslew_yes0 (C : Nat) (x : St) (raw q : Int) (w : World) (hx : Ok x) (hk : KB 53 w C x) (g1 : 1 ≤ q) (g2 : q ≤ 500000) (he : mvE x raw = 0) :
    Calls Try.prog 29 #[.pointer (some ⟨C, 0, none⟩), .int .i64 raw, .int .i64 0, .int .i64 q] w (Done 53 C w 0 ⟨raw, at' x raw, x.p, 0, 0, x.s⟩) := by
  have KC := Lib.hid hk
  have HOK := Lib.hid hx
  have BB := Lib.hid (Below.refl w.heap.size w)
  have HC := hk.lt
  have HM := Lib.hid he
  clear he
  have gq0 : decide (q < 1) = false := decide_eq_false (by omega)
  have gq1 : decide (500000 < q) = false := decide_eq_false (by omega)
  have hv : win 0 4503599627370496 = true := rfl
  clear hk hx
  go_enter Try.func29, Try.ntmps29
  go_wp2_with (go_at_call 38; refine (rwin_any _ _ _ (by decide) (by decide)).mono ?_; rintro e w' ⟨rfl, rfl⟩)
  refine (rmoved_any C x raw _ HOK.out KC.out).mono ?_
  rintro e w1 ⟨rfl, hb⟩
  have XC1 := Lib.hid (KC.out.below hb KC.out.lt)
  have B1 := Lib.hid (BB.out.trans (hb.mono BB.out.size))
  have hz1 := hb.size
  clear hb KC BB
  rw [HM.out]
  obtain ⟨y, hy⟩ : ∃ y, mvS x raw = y := ⟨_, rfl⟩
  rw [hy]
  have hy2 : y = mvG x raw := by rw [← hy]; exact if_pos HM.out
  have HR : Hid (y.r = raw) := Lib.hid (by rw [hy2]; rfl)
  have HTT : Hid (y.t = at' x raw) := Lib.hid (by rw [hy2]; rfl)
  have HPP : Hid (y.p = x.p) := Lib.hid (by rw [hy2]; rfl)
  have HLL : Hid (y.l = lft x raw) := Lib.hid (by rw [hy2]; rfl)
  have HQQ : Hid (y.q = if lft x raw = 0 then 0 else x.q) := Lib.hid (by rw [hy2]; rfl)
  have HSS : Hid (y.s = x.s) := Lib.hid (by rw [hy2]; rfl)
  have hyo : Ok y := by rw [hy2]; exact mv_ok HOK.out HM.out
  obtain ⟨yt0, yt1⟩ := hyo.2.1
  obtain ⟨ys0, ys1⟩ := hyo.2.2.2.2.2.2
  clear hy hy2 hyo
  have Nm2 : Hid (KB 23 (w1.alloc (.cells #[.int .i64 y.r, .int .i64 y.t, .int .i64 y.p, .int .i64 y.l, .int .i64 y.q, .int .i64 y.s] 23)) w1.heap.size ⟨y.r, y.t, y.p, y.l, y.q, y.s⟩) := Lib.hid (kb_new _ w1 y.r y.t y.p y.l y.q y.s)
  have lC2 := XC1.out.lt
  have NC2 := Lib.hid (XC1.out.alloc (.cells #[.int .i64 y.r, .int .i64 y.t, .int .i64 y.p, .int .i64 y.l, .int .i64 y.q, .int .i64 y.s] 23))
  have E2 := Lib.hid (B1.out.alloc B1.out.size (.cells #[.int .i64 y.r, .int .i64 y.t, .int .i64 y.p, .int .i64 y.l, .int .i64 y.q, .int .i64 y.s] 23))
  have hs2 := B1.out.size
  obtain ⟨S2, hS2⟩ : ∃ W, w1.alloc (.cells #[.int .i64 y.r, .int .i64 y.t, .int .i64 y.p, .int .i64 y.l, .int .i64 y.q, .int .i64 y.s] 23) = W := ⟨_, rfl⟩
  have hsz2 : S2.heap.size = w1.heap.size + 1 := by rw [← hS2]; simp
  have HSZ2 := Lib.hid hsz2
  have hle2 : w1.heap.size < S2.heap.size := by omega
  clear hsz2
  rw [hS2] at Nm2 NC2 E2
  clear XC1 B1
  obtain ⟨c3_0, c3_1, c3_2, c3_3, c3_4, c3_5⟩ := Nm2.out.cells
  have r4 := Nm2.out.cells.2.2.2.1
  have g4 := Nm2.out.thaw.2.2.2.1
  have Nm4 : Hid (KB 23 (S2.setCell ⟨w1.heap.size, 3, none⟩ (.int .i64 0)) w1.heap.size ⟨y.r, y.t, y.p, 0, y.q, y.s⟩) := Lib.hid (Nm2.out.set3 0)
  have NC4 := Lib.hid (NC2.out.other (D := w1.heap.size) (i := 3) (by omega) (.int .i64 0))
  have E4 := Lib.hid (below_set (C := w1.heap.size) (i := 3) E2.out (by omega) (.int .i64 0))
  obtain ⟨S4, hS4⟩ : ∃ W, S2.setCell ⟨w1.heap.size, 3, none⟩ (.int .i64 0) = W := ⟨_, rfl⟩
  rw [hS4] at Nm4 NC4 E4
  clear NC2 Nm2 E2
  have r5 := Nm4.out.cells.2.2.2.2.1
  have g5 := Nm4.out.thaw.2.2.2.2.1
  have Nm5 : Hid (KB 23 (S4.setCell ⟨w1.heap.size, 4, none⟩ (.int .i64 q)) w1.heap.size ⟨y.r, y.t, y.p, 0, q, y.s⟩) := Lib.hid (Nm4.out.set4 q)
  have NC5 := Lib.hid (NC4.out.other (D := w1.heap.size) (i := 4) (by omega) (.int .i64 q))
  have E5 := Lib.hid (below_set (C := w1.heap.size) (i := 4) E4.out (by omega) (.int .i64 q))
  obtain ⟨S5, hS5⟩ : ∃ W, S4.setCell ⟨w1.heap.size, 4, none⟩ (.int .i64 q) = W := ⟨_, rfl⟩
  rw [hS5] at Nm5 NC5 E5
  clear NC4 Nm4 E4
  obtain ⟨c6_0, c6_1, c6_2, c6_3, c6_4, c6_5⟩ := Nm5.out.cells
  have r7 := Nm5.out.cells.2.2.2.2.1
  have g7 := Nm5.out.thaw.2.2.2.2.1
  have Nm7 : Hid (KB 23 (S5.setCell ⟨w1.heap.size, 4, none⟩ (.int .i64 0)) w1.heap.size ⟨y.r, y.t, y.p, 0, 0, y.s⟩) := Lib.hid (Nm5.out.set4 0)
  have NC7 := Lib.hid (NC5.out.other (D := w1.heap.size) (i := 4) (by omega) (.int .i64 0))
  have E7 := Lib.hid (below_set (C := w1.heap.size) (i := 4) E5.out (by omega) (.int .i64 0))
  obtain ⟨S7, hS7⟩ : ∃ W, S5.setCell ⟨w1.heap.size, 4, none⟩ (.int .i64 0) = W := ⟨_, rfl⟩
  rw [hS7] at Nm7 NC7 E7
  clear NC5 Nm5 E5
  obtain ⟨c8_0, c8_1, c8_2, c8_3, c8_4, c8_5⟩ := Nm7.out.cells
  have GG := Lib.hid (grown_of_below (r := some C) E7.out)
  have r9 := NC7.out.cells.1
  have g9 := NC7.out.thaw.1
  have NC9 : Hid (KB 53 (S7.setCell ⟨C, 0, none⟩ (.int .i64 y.r)) C ⟨y.r, x.t, x.p, x.l, x.q, x.s⟩) := Lib.hid (NC7.out.set0 y.r)
  have NG9 := Lib.hid (grown_set (i := 0) GG.out (.int .i64 y.r))
  obtain ⟨S9, hS9⟩ : ∃ W, S7.setCell ⟨C, 0, none⟩ (.int .i64 y.r) = W := ⟨_, rfl⟩
  rw [hS9] at NC9 NG9
  clear NC7 GG
  have r10 := NC9.out.cells.2.1
  have g10 := NC9.out.thaw.2.1
  have NC10 : Hid (KB 53 (S9.setCell ⟨C, 1, none⟩ (.int .i64 y.t)) C ⟨y.r, y.t, x.p, x.l, x.q, x.s⟩) := Lib.hid (NC9.out.set1 y.t)
  have NG10 := Lib.hid (grown_set (i := 1) NG9.out (.int .i64 y.t))
  obtain ⟨S10, hS10⟩ : ∃ W, S9.setCell ⟨C, 1, none⟩ (.int .i64 y.t) = W := ⟨_, rfl⟩
  rw [hS10] at NC10 NG10
  clear NC9 NG9
  have r11 := NC10.out.cells.2.2.1
  have g11 := NC10.out.thaw.2.2.1
  have NC11 : Hid (KB 53 (S10.setCell ⟨C, 2, none⟩ (.int .i64 y.p)) C ⟨y.r, y.t, y.p, x.l, x.q, x.s⟩) := Lib.hid (NC10.out.set2 y.p)
  have NG11 := Lib.hid (grown_set (i := 2) NG10.out (.int .i64 y.p))
  obtain ⟨S11, hS11⟩ : ∃ W, S10.setCell ⟨C, 2, none⟩ (.int .i64 y.p) = W := ⟨_, rfl⟩
  rw [hS11] at NC11 NG11
  clear NC10 NG10
  have r12 := NC11.out.cells.2.2.2.1
  have g12 := NC11.out.thaw.2.2.2.1
  have NC12 : Hid (KB 53 (S11.setCell ⟨C, 3, none⟩ (.int .i64 0)) C ⟨y.r, y.t, y.p, 0, x.q, x.s⟩) := Lib.hid (NC11.out.set3 0)
  have NG12 := Lib.hid (grown_set (i := 3) NG11.out (.int .i64 0))
  obtain ⟨S12, hS12⟩ : ∃ W, S11.setCell ⟨C, 3, none⟩ (.int .i64 0) = W := ⟨_, rfl⟩
  rw [hS12] at NC12 NG12
  clear NC11 NG11
  have r13 := NC12.out.cells.2.2.2.2.1
  have g13 := NC12.out.thaw.2.2.2.2.1
  have NC13 : Hid (KB 53 (S12.setCell ⟨C, 4, none⟩ (.int .i64 0)) C ⟨y.r, y.t, y.p, 0, 0, x.s⟩) := Lib.hid (NC12.out.set4 0)
  have NG13 := Lib.hid (grown_set (i := 4) NG12.out (.int .i64 0))
  obtain ⟨S13, hS13⟩ : ∃ W, S12.setCell ⟨C, 4, none⟩ (.int .i64 0) = W := ⟨_, rfl⟩
  rw [hS13] at NC13 NG13
  clear NC12 NG12
  have r14 := NC13.out.cells.2.2.2.2.2
  have g14 := NC13.out.thaw.2.2.2.2.2
  have NC14 : Hid (KB 53 (S13.setCell ⟨C, 5, none⟩ (.int .i64 y.s)) C ⟨y.r, y.t, y.p, 0, 0, y.s⟩) := Lib.hid (NC13.out.set5 y.s)
  have NG14 := Lib.hid (grown_set (i := 5) NG13.out (.int .i64 y.s))
  obtain ⟨S14, hS14⟩ : ∃ W, S13.setCell ⟨C, 5, none⟩ (.int .i64 y.s) = W := ⟨_, rfl⟩
  rw [hS14] at NC14 NG14
  clear NC13 NG13
  go_wp2_with fail
  go_ret
  have e : (⟨y.r, y.t, y.p, 0, 0, y.s⟩ : St) = ⟨raw, at' x raw, x.p, 0, 0, x.s⟩ := by rw [HR.out, HTT.out, HPP.out, HSS.out]
  exact ⟨rfl, by rw [← e]; exact NC14.out, NG14.out⟩
set_option maxRecDepth 100000 in
set_option maxHeartbeats 1000000 in
theorem rstep_bad (C : Nat) (x : St) (raw d : Int) (w : World) (hx : Ok x) (hk : KB 53 w C x) (hv : win d 4503599627370496 = false) :
    Calls Try.prog 30 #[.pointer (some ⟨C, 0, none⟩), .int .i64 raw, .int .i64 d] w (Done 53 C w 3 x) := by
  have KC := Lib.hid hk
  have HOK := Lib.hid hx
  have BB := Lib.hid (Below.refl w.heap.size w)
  have HC := hk.lt
  clear hk hx
  go_enter Try.func30, Try.ntmps30
  go_wp2_with (go_at_call 38; refine (rwin_any _ _ _ (by decide) (by decide)).mono ?_; rintro e w' ⟨rfl, rfl⟩)
  go_ret
  exact ⟨rfl, KC.out, grown_refl _ _⟩
set_option maxRecDepth 100000 in
set_option maxHeartbeats 1000000 in
theorem rstep_no (C : Nat) (x : St) (raw d : Int) (w : World) (hx : Ok x) (hk : KB 53 w C x) (hv : win d 4503599627370496 = true) (he : ¬ mvE x raw = 0) :
    Calls Try.prog 30 #[.pointer (some ⟨C, 0, none⟩), .int .i64 raw, .int .i64 d] w (Done 53 C w (mvE x raw) x) := by
  have KC := Lib.hid hk
  have HOK := Lib.hid hx
  have BB := Lib.hid (Below.refl w.heap.size w)
  have HC := hk.lt
  obtain ⟨m, hm⟩ : ∃ m, mvE x raw = m := ⟨_, rfl⟩
  rw [hm] at he
  have m0 : (m == 0) = false := by simpa using he
  have m1 : (m != 0) = true := by simpa using he
  have HM := Lib.hid hm
  rw [hm]
  clear he hm
  clear hk hx
  go_enter Try.func30, Try.ntmps30
  go_wp2_with (go_at_call 38; refine (rwin_any _ _ _ (by decide) (by decide)).mono ?_; rintro e w' ⟨rfl, rfl⟩)
  refine (rmoved_any C x raw _ HOK.out KC.out).mono ?_
  rintro e w1 ⟨rfl, hb⟩
  have XC1 := Lib.hid (KC.out.below hb KC.out.lt)
  have B1 := Lib.hid (BB.out.trans (hb.mono BB.out.size))
  have hz1 := hb.size
  clear hb KC BB
  rw [HM.out]
  obtain ⟨y, hy⟩ : ∃ y, mvS x raw = y := ⟨_, rfl⟩
  rw [hy]
  clear hy
  have Nm2 : Hid (KB 23 (w1.alloc (.cells #[.int .i64 y.r, .int .i64 y.t, .int .i64 y.p, .int .i64 y.l, .int .i64 y.q, .int .i64 y.s] 23)) w1.heap.size ⟨y.r, y.t, y.p, y.l, y.q, y.s⟩) := Lib.hid (kb_new _ w1 y.r y.t y.p y.l y.q y.s)
  have lC2 := XC1.out.lt
  have NC2 := Lib.hid (XC1.out.alloc (.cells #[.int .i64 y.r, .int .i64 y.t, .int .i64 y.p, .int .i64 y.l, .int .i64 y.q, .int .i64 y.s] 23))
  have E2 := Lib.hid (B1.out.alloc B1.out.size (.cells #[.int .i64 y.r, .int .i64 y.t, .int .i64 y.p, .int .i64 y.l, .int .i64 y.q, .int .i64 y.s] 23))
  have hs2 := B1.out.size
  obtain ⟨S2, hS2⟩ : ∃ W, w1.alloc (.cells #[.int .i64 y.r, .int .i64 y.t, .int .i64 y.p, .int .i64 y.l, .int .i64 y.q, .int .i64 y.s] 23) = W := ⟨_, rfl⟩
  have hsz2 : S2.heap.size = w1.heap.size + 1 := by rw [← hS2]; simp
  have HSZ2 := Lib.hid hsz2
  have hle2 : w1.heap.size < S2.heap.size := by omega
  clear hsz2
  rw [hS2] at Nm2 NC2 E2
  clear XC1 B1
  obtain ⟨c3_0, c3_1, c3_2, c3_3, c3_4, c3_5⟩ := Nm2.out.cells
  go_wp2_with fail
  go_ret
  exact ⟨rfl, NC2.out, grown_of_below E2.out⟩
set_option maxRecDepth 100000 in
set_option maxHeartbeats 1000000 in
theorem rstep_far (C : Nat) (x : St) (raw d : Int) (w : World) (hx : Ok x) (hk : KB 53 w C x) (hv : win d 4503599627370496 = true) (he : mvE x raw = 0) (hb : win (at' x raw + d) 4503599627370496 = false) :
    Calls Try.prog 30 #[.pointer (some ⟨C, 0, none⟩), .int .i64 raw, .int .i64 d] w (Done 53 C w 3 x) := by
  have KC := Lib.hid hk
  have HOK := Lib.hid hx
  have BB := Lib.hid (Below.refl w.heap.size w)
  have HC := hk.lt
  have HM := Lib.hid he
  have HB := Lib.hid hb
  obtain ⟨d0, d1⟩ := win_iff.1 hv
  clear he hb
  clear hk hx
  go_enter Try.func30, Try.ntmps30
  go_wp2_with (go_at_call 38; refine (rwin_any _ _ _ (by decide) (by decide)).mono ?_; rintro e w' ⟨rfl, rfl⟩)
  refine (rmoved_any C x raw _ HOK.out KC.out).mono ?_
  rintro e w1 ⟨rfl, hb⟩
  have XC1 := Lib.hid (KC.out.below hb KC.out.lt)
  have B1 := Lib.hid (BB.out.trans (hb.mono BB.out.size))
  have hz1 := hb.size
  clear hb KC BB
  rw [HM.out]
  obtain ⟨y, hy⟩ : ∃ y, mvS x raw = y := ⟨_, rfl⟩
  rw [hy]
  have hy2 : y = mvG x raw := by rw [← hy]; exact if_pos HM.out
  have HR : Hid (y.r = raw) := Lib.hid (by rw [hy2]; rfl)
  have HTT : Hid (y.t = at' x raw) := Lib.hid (by rw [hy2]; rfl)
  have HPP : Hid (y.p = x.p) := Lib.hid (by rw [hy2]; rfl)
  have HLL : Hid (y.l = lft x raw) := Lib.hid (by rw [hy2]; rfl)
  have HQQ : Hid (y.q = if lft x raw = 0 then 0 else x.q) := Lib.hid (by rw [hy2]; rfl)
  have HSS : Hid (y.s = x.s) := Lib.hid (by rw [hy2]; rfl)
  have hyo : Ok y := by rw [hy2]; exact mv_ok HOK.out HM.out
  obtain ⟨yt0, yt1⟩ := hyo.2.1
  obtain ⟨ys0, ys1⟩ := hyo.2.2.2.2.2.2
  clear hy hy2 hyo
  have Nm2 : Hid (KB 23 (w1.alloc (.cells #[.int .i64 y.r, .int .i64 y.t, .int .i64 y.p, .int .i64 y.l, .int .i64 y.q, .int .i64 y.s] 23)) w1.heap.size ⟨y.r, y.t, y.p, y.l, y.q, y.s⟩) := Lib.hid (kb_new _ w1 y.r y.t y.p y.l y.q y.s)
  have lC2 := XC1.out.lt
  have NC2 := Lib.hid (XC1.out.alloc (.cells #[.int .i64 y.r, .int .i64 y.t, .int .i64 y.p, .int .i64 y.l, .int .i64 y.q, .int .i64 y.s] 23))
  have E2 := Lib.hid (B1.out.alloc B1.out.size (.cells #[.int .i64 y.r, .int .i64 y.t, .int .i64 y.p, .int .i64 y.l, .int .i64 y.q, .int .i64 y.s] 23))
  have hs2 := B1.out.size
  obtain ⟨S2, hS2⟩ : ∃ W, w1.alloc (.cells #[.int .i64 y.r, .int .i64 y.t, .int .i64 y.p, .int .i64 y.l, .int .i64 y.q, .int .i64 y.s] 23) = W := ⟨_, rfl⟩
  have hsz2 : S2.heap.size = w1.heap.size + 1 := by rw [← hS2]; simp
  have HSZ2 := Lib.hid hsz2
  have hle2 : w1.heap.size < S2.heap.size := by omega
  clear hsz2
  rw [hS2] at Nm2 NC2 E2
  clear XC1 B1
  obtain ⟨c3_0, c3_1, c3_2, c3_3, c3_4, c3_5⟩ := Nm2.out.cells
  have hby := HB.out
  rw [← HTT.out] at hby
  go_wp2_with (go_at_call 38; refine (rwin_any _ _ _ (by decide) (by decide)).mono ?_; rintro e w' ⟨rfl, rfl⟩)
  go_ret
  exact ⟨rfl, NC2.out, grown_of_below E2.out⟩
set_option maxRecDepth 100000 in
set_option maxHeartbeats 1000000 in
theorem rstep_full (C : Nat) (x : St) (raw d : Int) (w : World) (hx : Ok x) (hk : KB 53 w C x) (hv : win d 4503599627370496 = true) (he : mvE x raw = 0) (hb : win (at' x raw + d) 4503599627370496 = true) (hs : x.s = 9223372036854775807) :
    Calls Try.prog 30 #[.pointer (some ⟨C, 0, none⟩), .int .i64 raw, .int .i64 d] w (Done 53 C w 4 x) := by
  have KC := Lib.hid hk
  have HOK := Lib.hid hx
  have BB := Lib.hid (Below.refl w.heap.size w)
  have HC := hk.lt
  have HM := Lib.hid he
  have HB := Lib.hid hb
  obtain ⟨d0, d1⟩ := win_iff.1 hv
  clear he hb
  have HS := Lib.hid hs
  clear hs
  clear hk hx
  go_enter Try.func30, Try.ntmps30
  go_wp2_with (go_at_call 38; refine (rwin_any _ _ _ (by decide) (by decide)).mono ?_; rintro e w' ⟨rfl, rfl⟩)
  refine (rmoved_any C x raw _ HOK.out KC.out).mono ?_
  rintro e w1 ⟨rfl, hb⟩
  have XC1 := Lib.hid (KC.out.below hb KC.out.lt)
  have B1 := Lib.hid (BB.out.trans (hb.mono BB.out.size))
  have hz1 := hb.size
  clear hb KC BB
  rw [HM.out]
  obtain ⟨y, hy⟩ : ∃ y, mvS x raw = y := ⟨_, rfl⟩
  rw [hy]
  have hy2 : y = mvG x raw := by rw [← hy]; exact if_pos HM.out
  have HR : Hid (y.r = raw) := Lib.hid (by rw [hy2]; rfl)
  have HTT : Hid (y.t = at' x raw) := Lib.hid (by rw [hy2]; rfl)
  have HPP : Hid (y.p = x.p) := Lib.hid (by rw [hy2]; rfl)
  have HLL : Hid (y.l = lft x raw) := Lib.hid (by rw [hy2]; rfl)
  have HQQ : Hid (y.q = if lft x raw = 0 then 0 else x.q) := Lib.hid (by rw [hy2]; rfl)
  have HSS : Hid (y.s = x.s) := Lib.hid (by rw [hy2]; rfl)
  have hyo : Ok y := by rw [hy2]; exact mv_ok HOK.out HM.out
  obtain ⟨yt0, yt1⟩ := hyo.2.1
  obtain ⟨ys0, ys1⟩ := hyo.2.2.2.2.2.2
  clear hy hy2 hyo
  have Nm2 : Hid (KB 23 (w1.alloc (.cells #[.int .i64 y.r, .int .i64 y.t, .int .i64 y.p, .int .i64 y.l, .int .i64 y.q, .int .i64 y.s] 23)) w1.heap.size ⟨y.r, y.t, y.p, y.l, y.q, y.s⟩) := Lib.hid (kb_new _ w1 y.r y.t y.p y.l y.q y.s)
  have lC2 := XC1.out.lt
  have NC2 := Lib.hid (XC1.out.alloc (.cells #[.int .i64 y.r, .int .i64 y.t, .int .i64 y.p, .int .i64 y.l, .int .i64 y.q, .int .i64 y.s] 23))
  have E2 := Lib.hid (B1.out.alloc B1.out.size (.cells #[.int .i64 y.r, .int .i64 y.t, .int .i64 y.p, .int .i64 y.l, .int .i64 y.q, .int .i64 y.s] 23))
  have hs2 := B1.out.size
  obtain ⟨S2, hS2⟩ : ∃ W, w1.alloc (.cells #[.int .i64 y.r, .int .i64 y.t, .int .i64 y.p, .int .i64 y.l, .int .i64 y.q, .int .i64 y.s] 23) = W := ⟨_, rfl⟩
  have hsz2 : S2.heap.size = w1.heap.size + 1 := by rw [← hS2]; simp
  have HSZ2 := Lib.hid hsz2
  have hle2 : w1.heap.size < S2.heap.size := by omega
  clear hsz2
  rw [hS2] at Nm2 NC2 E2
  clear XC1 B1
  obtain ⟨c3_0, c3_1, c3_2, c3_3, c3_4, c3_5⟩ := Nm2.out.cells
  have hby := HB.out
  rw [← HTT.out] at hby
  have hs0 : (y.s == 9223372036854775807) = true := by rw [HSS.out]; simpa using HS.out
  go_wp2_with (go_at_call 38; refine (rwin_any _ _ _ (by decide) (by decide)).mono ?_; rintro e w' ⟨rfl, rfl⟩)
  go_ret
  exact ⟨rfl, NC2.out, grown_of_below E2.out⟩
set_option maxRecDepth 100000 in
set_option maxHeartbeats 1000000 in
theorem rstep_yes (C : Nat) (x : St) (raw d : Int) (w : World) (hx : Ok x) (hk : KB 53 w C x) (hv : win d 4503599627370496 = true) (he : mvE x raw = 0) (hb : win (at' x raw + d) 4503599627370496 = true) (hs : ¬ x.s = 9223372036854775807) :
    Calls Try.prog 30 #[.pointer (some ⟨C, 0, none⟩), .int .i64 raw, .int .i64 d] w (Done 53 C w 0 (spZ x raw d)) := by
  have KC := Lib.hid hk
  have HOK := Lib.hid hx
  have BB := Lib.hid (Below.refl w.heap.size w)
  have HC := hk.lt
  have HM := Lib.hid he
  have HB := Lib.hid hb
  obtain ⟨d0, d1⟩ := win_iff.1 hv
  clear he hb
  have HS := Lib.hid hs
  clear hs
  clear hk hx
  go_enter Try.func30, Try.ntmps30
  go_wp2_with (go_at_call 38; refine (rwin_any _ _ _ (by decide) (by decide)).mono ?_; rintro e w' ⟨rfl, rfl⟩)
  refine (rmoved_any C x raw _ HOK.out KC.out).mono ?_
  rintro e w1 ⟨rfl, hb⟩
  have XC1 := Lib.hid (KC.out.below hb KC.out.lt)
  have B1 := Lib.hid (BB.out.trans (hb.mono BB.out.size))
  have hz1 := hb.size
  clear hb KC BB
  rw [HM.out]
  obtain ⟨y, hy⟩ : ∃ y, mvS x raw = y := ⟨_, rfl⟩
  rw [hy]
  have hy2 : y = mvG x raw := by rw [← hy]; exact if_pos HM.out
  have HR : Hid (y.r = raw) := Lib.hid (by rw [hy2]; rfl)
  have HTT : Hid (y.t = at' x raw) := Lib.hid (by rw [hy2]; rfl)
  have HPP : Hid (y.p = x.p) := Lib.hid (by rw [hy2]; rfl)
  have HLL : Hid (y.l = lft x raw) := Lib.hid (by rw [hy2]; rfl)
  have HQQ : Hid (y.q = if lft x raw = 0 then 0 else x.q) := Lib.hid (by rw [hy2]; rfl)
  have HSS : Hid (y.s = x.s) := Lib.hid (by rw [hy2]; rfl)
  have hyo : Ok y := by rw [hy2]; exact mv_ok HOK.out HM.out
  obtain ⟨yt0, yt1⟩ := hyo.2.1
  obtain ⟨ys0, ys1⟩ := hyo.2.2.2.2.2.2
  clear hy hy2 hyo
  have Nm2 : Hid (KB 23 (w1.alloc (.cells #[.int .i64 y.r, .int .i64 y.t, .int .i64 y.p, .int .i64 y.l, .int .i64 y.q, .int .i64 y.s] 23)) w1.heap.size ⟨y.r, y.t, y.p, y.l, y.q, y.s⟩) := Lib.hid (kb_new _ w1 y.r y.t y.p y.l y.q y.s)
  have lC2 := XC1.out.lt
  have NC2 := Lib.hid (XC1.out.alloc (.cells #[.int .i64 y.r, .int .i64 y.t, .int .i64 y.p, .int .i64 y.l, .int .i64 y.q, .int .i64 y.s] 23))
  have E2 := Lib.hid (B1.out.alloc B1.out.size (.cells #[.int .i64 y.r, .int .i64 y.t, .int .i64 y.p, .int .i64 y.l, .int .i64 y.q, .int .i64 y.s] 23))
  have hs2 := B1.out.size
  obtain ⟨S2, hS2⟩ : ∃ W, w1.alloc (.cells #[.int .i64 y.r, .int .i64 y.t, .int .i64 y.p, .int .i64 y.l, .int .i64 y.q, .int .i64 y.s] 23) = W := ⟨_, rfl⟩
  have hsz2 : S2.heap.size = w1.heap.size + 1 := by rw [← hS2]; simp
  have HSZ2 := Lib.hid hsz2
  have hle2 : w1.heap.size < S2.heap.size := by omega
  clear hsz2
  rw [hS2] at Nm2 NC2 E2
  clear XC1 B1
  obtain ⟨c3_0, c3_1, c3_2, c3_3, c3_4, c3_5⟩ := Nm2.out.cells
  have hby := HB.out
  rw [← HTT.out] at hby
  have hs0 : (y.s == 9223372036854775807) = false := by rw [HSS.out]; simpa using HS.out
  have hs1 : y.s ≤ 9223372036854775806 := by have := HS.out; have h2 := HSS.out; rw [h2] at ys1 ⊢; omega
  have r4 := Nm2.out.cells.2.1
  have g4 := Nm2.out.thaw.2.1
  have Nm4 : Hid (KB 23 (S2.setCell ⟨w1.heap.size, 1, none⟩ (.int .i64 (y.t + d))) w1.heap.size ⟨y.r, y.t + d, y.p, y.l, y.q, y.s⟩) := Lib.hid (Nm2.out.set1 (y.t + d))
  have NC4 := Lib.hid (NC2.out.other (D := w1.heap.size) (i := 1) (by omega) (.int .i64 (y.t + d)))
  have E4 := Lib.hid (below_set (C := w1.heap.size) (i := 1) E2.out (by omega) (.int .i64 (y.t + d)))
  obtain ⟨S4, hS4⟩ : ∃ W, S2.setCell ⟨w1.heap.size, 1, none⟩ (.int .i64 (y.t + d)) = W := ⟨_, rfl⟩
  rw [hS4] at Nm4 NC4 E4
  clear NC2 Nm2 E2
  obtain ⟨c5_0, c5_1, c5_2, c5_3, c5_4, c5_5⟩ := Nm4.out.cells
  have r6 := Nm4.out.cells.2.2.2.1
  have g6 := Nm4.out.thaw.2.2.2.1
  have Nm6 : Hid (KB 23 (S4.setCell ⟨w1.heap.size, 3, none⟩ (.int .i64 0)) w1.heap.size ⟨y.r, y.t + d, y.p, 0, y.q, y.s⟩) := Lib.hid (Nm4.out.set3 0)
  have NC6 := Lib.hid (NC4.out.other (D := w1.heap.size) (i := 3) (by omega) (.int .i64 0))
  have E6 := Lib.hid (below_set (C := w1.heap.size) (i := 3) E4.out (by omega) (.int .i64 0))
  obtain ⟨S6, hS6⟩ : ∃ W, S4.setCell ⟨w1.heap.size, 3, none⟩ (.int .i64 0) = W := ⟨_, rfl⟩
  rw [hS6] at Nm6 NC6 E6
  clear NC4 Nm4 E4
  obtain ⟨c7_0, c7_1, c7_2, c7_3, c7_4, c7_5⟩ := Nm6.out.cells
  have r8 := Nm6.out.cells.2.2.2.2.1
  have g8 := Nm6.out.thaw.2.2.2.2.1
  have Nm8 : Hid (KB 23 (S6.setCell ⟨w1.heap.size, 4, none⟩ (.int .i64 0)) w1.heap.size ⟨y.r, y.t + d, y.p, 0, 0, y.s⟩) := Lib.hid (Nm6.out.set4 0)
  have NC8 := Lib.hid (NC6.out.other (D := w1.heap.size) (i := 4) (by omega) (.int .i64 0))
  have E8 := Lib.hid (below_set (C := w1.heap.size) (i := 4) E6.out (by omega) (.int .i64 0))
  obtain ⟨S8, hS8⟩ : ∃ W, S6.setCell ⟨w1.heap.size, 4, none⟩ (.int .i64 0) = W := ⟨_, rfl⟩
  rw [hS8] at Nm8 NC8 E8
  clear NC6 Nm6 E6
  obtain ⟨c9_0, c9_1, c9_2, c9_3, c9_4, c9_5⟩ := Nm8.out.cells
  have r10 := Nm8.out.cells.2.2.2.2.2
  have g10 := Nm8.out.thaw.2.2.2.2.2
  have Nm10 : Hid (KB 23 (S8.setCell ⟨w1.heap.size, 5, none⟩ (.int .i64 (y.s + 1))) w1.heap.size ⟨y.r, y.t + d, y.p, 0, 0, y.s + 1⟩) := Lib.hid (Nm8.out.set5 (y.s + 1))
  have NC10 := Lib.hid (NC8.out.other (D := w1.heap.size) (i := 5) (by omega) (.int .i64 (y.s + 1)))
  have E10 := Lib.hid (below_set (C := w1.heap.size) (i := 5) E8.out (by omega) (.int .i64 (y.s + 1)))
  obtain ⟨S10, hS10⟩ : ∃ W, S8.setCell ⟨w1.heap.size, 5, none⟩ (.int .i64 (y.s + 1)) = W := ⟨_, rfl⟩
  rw [hS10] at Nm10 NC10 E10
  clear NC8 Nm8 E8
  obtain ⟨c11_0, c11_1, c11_2, c11_3, c11_4, c11_5⟩ := Nm10.out.cells
  have GG := Lib.hid (grown_of_below (r := some C) E10.out)
  have r12 := NC10.out.cells.1
  have g12 := NC10.out.thaw.1
  have NC12 : Hid (KB 53 (S10.setCell ⟨C, 0, none⟩ (.int .i64 y.r)) C ⟨y.r, x.t, x.p, x.l, x.q, x.s⟩) := Lib.hid (NC10.out.set0 y.r)
  have NG12 := Lib.hid (grown_set (i := 0) GG.out (.int .i64 y.r))
  obtain ⟨S12, hS12⟩ : ∃ W, S10.setCell ⟨C, 0, none⟩ (.int .i64 y.r) = W := ⟨_, rfl⟩
  rw [hS12] at NC12 NG12
  clear NC10 GG
  have r13 := NC12.out.cells.2.1
  have g13 := NC12.out.thaw.2.1
  have NC13 : Hid (KB 53 (S12.setCell ⟨C, 1, none⟩ (.int .i64 (y.t + d))) C ⟨y.r, y.t + d, x.p, x.l, x.q, x.s⟩) := Lib.hid (NC12.out.set1 (y.t + d))
  have NG13 := Lib.hid (grown_set (i := 1) NG12.out (.int .i64 (y.t + d)))
  obtain ⟨S13, hS13⟩ : ∃ W, S12.setCell ⟨C, 1, none⟩ (.int .i64 (y.t + d)) = W := ⟨_, rfl⟩
  rw [hS13] at NC13 NG13
  clear NC12 NG12
  have r14 := NC13.out.cells.2.2.1
  have g14 := NC13.out.thaw.2.2.1
  have NC14 : Hid (KB 53 (S13.setCell ⟨C, 2, none⟩ (.int .i64 y.p)) C ⟨y.r, y.t + d, y.p, x.l, x.q, x.s⟩) := Lib.hid (NC13.out.set2 y.p)
  have NG14 := Lib.hid (grown_set (i := 2) NG13.out (.int .i64 y.p))
  obtain ⟨S14, hS14⟩ : ∃ W, S13.setCell ⟨C, 2, none⟩ (.int .i64 y.p) = W := ⟨_, rfl⟩
  rw [hS14] at NC14 NG14
  clear NC13 NG13
  have r15 := NC14.out.cells.2.2.2.1
  have g15 := NC14.out.thaw.2.2.2.1
  have NC15 : Hid (KB 53 (S14.setCell ⟨C, 3, none⟩ (.int .i64 0)) C ⟨y.r, y.t + d, y.p, 0, x.q, x.s⟩) := Lib.hid (NC14.out.set3 0)
  have NG15 := Lib.hid (grown_set (i := 3) NG14.out (.int .i64 0))
  obtain ⟨S15, hS15⟩ : ∃ W, S14.setCell ⟨C, 3, none⟩ (.int .i64 0) = W := ⟨_, rfl⟩
  rw [hS15] at NC15 NG15
  clear NC14 NG14
  have r16 := NC15.out.cells.2.2.2.2.1
  have g16 := NC15.out.thaw.2.2.2.2.1
  have NC16 : Hid (KB 53 (S15.setCell ⟨C, 4, none⟩ (.int .i64 0)) C ⟨y.r, y.t + d, y.p, 0, 0, x.s⟩) := Lib.hid (NC15.out.set4 0)
  have NG16 := Lib.hid (grown_set (i := 4) NG15.out (.int .i64 0))
  obtain ⟨S16, hS16⟩ : ∃ W, S15.setCell ⟨C, 4, none⟩ (.int .i64 0) = W := ⟨_, rfl⟩
  rw [hS16] at NC16 NG16
  clear NC15 NG15
  have r17 := NC16.out.cells.2.2.2.2.2
  have g17 := NC16.out.thaw.2.2.2.2.2
  have NC17 : Hid (KB 53 (S16.setCell ⟨C, 5, none⟩ (.int .i64 (y.s + 1))) C ⟨y.r, y.t + d, y.p, 0, 0, y.s + 1⟩) := Lib.hid (NC16.out.set5 (y.s + 1))
  have NG17 := Lib.hid (grown_set (i := 5) NG16.out (.int .i64 (y.s + 1)))
  obtain ⟨S17, hS17⟩ : ∃ W, S16.setCell ⟨C, 5, none⟩ (.int .i64 (y.s + 1)) = W := ⟨_, rfl⟩
  rw [hS17] at NC17 NG17
  clear NC16 NG16
  go_wp2_with (go_at_call 38; refine (rwin_any _ _ _ (by decide) (by decide)).mono ?_; rintro e w' ⟨rfl, rfl⟩)
  go_ret
  have e : (⟨y.r, y.t + d, y.p, 0, 0, y.s + 1⟩ : St) = spZ x raw d := by unfold spZ; rw [HR.out, HTT.out, HPP.out, HSS.out]
  exact ⟨rfl, by rw [← e]; exact NC17.out, NG17.out⟩
set_option maxRecDepth 100000 in
theorem rpend_any (C : Nat) (x : St) (raw : Int) (w : World) (hx : Ok x) (hk : KB 53 w C x) :
    Calls Try.prog 31 #[.pointer (some ⟨C, 0, none⟩), .int .i64 raw] w fun e w' => e = .returned (.int .i64 (mvS x raw).l) ∧ Below w.heap.size w w' := by
  have KC := Lib.hid hk
  have HOK := Lib.hid hx
  have BB := Lib.hid (Below.refl w.heap.size w)
  clear hk hx
  go_enter Try.func31, Try.ntmps31
  go_wp2_with fail
  refine (rmoved_any C x raw _ HOK.out KC.out).mono ?_
  rintro e w1 ⟨rfl, hb⟩
  have XC1 := Lib.hid (KC.out.below hb KC.out.lt)
  have B1 := Lib.hid (BB.out.trans (hb.mono BB.out.size))
  have hz1 := hb.size
  clear hb KC BB
  obtain ⟨y, hy⟩ : ∃ y, mvS x raw = y := ⟨_, rfl⟩
  rw [hy]
  have HY := Lib.hid hy
  clear hy
  have Nm2 : Hid (KB 23 (w1.alloc (.cells #[.int .i64 y.r, .int .i64 y.t, .int .i64 y.p, .int .i64 y.l, .int .i64 y.q, .int .i64 y.s] 23)) w1.heap.size ⟨y.r, y.t, y.p, y.l, y.q, y.s⟩) := Lib.hid (kb_new _ w1 y.r y.t y.p y.l y.q y.s)
  have lC2 := XC1.out.lt
  have NC2 := Lib.hid (XC1.out.alloc (.cells #[.int .i64 y.r, .int .i64 y.t, .int .i64 y.p, .int .i64 y.l, .int .i64 y.q, .int .i64 y.s] 23))
  have E2 := Lib.hid (B1.out.alloc B1.out.size (.cells #[.int .i64 y.r, .int .i64 y.t, .int .i64 y.p, .int .i64 y.l, .int .i64 y.q, .int .i64 y.s] 23))
  have hs2 := B1.out.size
  obtain ⟨S2, hS2⟩ : ∃ W, w1.alloc (.cells #[.int .i64 y.r, .int .i64 y.t, .int .i64 y.p, .int .i64 y.l, .int .i64 y.q, .int .i64 y.s] 23) = W := ⟨_, rfl⟩
  have hsz2 : S2.heap.size = w1.heap.size + 1 := by rw [← hS2]; simp
  have HSZ2 := Lib.hid hsz2
  have hle2 : w1.heap.size < S2.heap.size := by omega
  clear hsz2
  rw [hS2] at Nm2 NC2 E2
  clear XC1 B1
  obtain ⟨c3_0, c3_1, c3_2, c3_3, c3_4, c3_5⟩ := Nm2.out.cells
  go_wp2_with fail
  go_ret
  rw [HY.out]
  exact ⟨rfl, E2.out⟩
theorem rfreq_any (C : Nat) (x : St) (raw ppb : Int) (w : World) (hx : Ok x) (hk : KB 53 w C x) :
    Calls Try.prog 28 #[.pointer (some ⟨C, 0, none⟩), .int .i64 raw, .int .i64 ppb] w (Done 53 C w (frE x raw ppb) (frS x raw ppb)) := by
  cases hv : win ppb 500000 with
  | false =>
    have e0 : frE x raw ppb = 3 := if_neg (by rw [hv]; decide)
    have e1 : frS x raw ppb = x := if_neg (by rw [e0]; decide)
    rw [e0, e1]; exact rfreq_bad C x raw ppb w hx hk hv
  | true =>
    have e0 : frE x raw ppb = mvE x raw := if_pos hv
    by_cases he : mvE x raw = 0
    · have e1 : frS x raw ppb = frZ x raw ppb := if_pos (by rw [e0, he])
      rw [e0, e1, he]; exact rfreq_yes C x raw ppb w hx hk hv he
    · have e1 : frS x raw ppb = x := if_neg (by rw [e0]; exact he)
      rw [e0, e1]; exact rfreq_no C x raw ppb w hx hk hv he
theorem rslew_any (C : Nat) (x : St) (raw d q : Int) (w : World) (hx : Ok x) (hk : KB 53 w C x) :
    Calls Try.prog 29 #[.pointer (some ⟨C, 0, none⟩), .int .i64 raw, .int .i64 d, .int .i64 q] w (Done 53 C w (slE x raw d q) (slS x raw d q)) := by
  by_cases ho : -4503599627370496 ≤ d ∧ d ≤ 4503599627370496 ∧ 1 ≤ q ∧ q ≤ 500000
  · have hv := win_yes ho.1 ho.2.1
    have e0 : slE x raw d q = mvE x raw := if_pos (slOk_iff.2 ho)
    by_cases he : mvE x raw = 0
    · have e1 : slS x raw d q = slZ x raw d q := if_pos (by rw [e0, he])
      rw [e0, e1, he]
      by_cases hd : d = 0
      · subst hd; exact rslew_yes0 C x raw q w hx hk ho.2.2.1 ho.2.2.2 he
      · have e2 : slZ x raw d q = ⟨raw, at' x raw, x.p, d, q, x.s⟩ := by unfold slZ; rw [if_neg hd]
        rw [e2]; exact rslew_yes C x raw d q w hx hk hv ho.2.2.1 ho.2.2.2 he hd
    · have e1 : slS x raw d q = x := if_neg (by rw [e0]; exact he)
      rw [e0, e1]; exact rslew_no C x raw d q w hx hk hv ho.2.2.1 ho.2.2.2 he
  · have e0 : slE x raw d q = 3 := if_neg (by rw [slOk_iff]; exact ho)
    have e1 : slS x raw d q = x := if_neg (by rw [e0]; decide)
    rw [e0, e1]
    cases hv : win d 4503599627370496 with
    | false => exact rslew_bad1 C x raw d q w hx hk hv
    | true =>
      have := win_iff.1 hv
      rcases Int.lt_or_le q 1 with g | g
      · exact rslew_bad2 C x raw d q w hx hk hv g
      · exact rslew_bad3 C x raw d q w hx hk hv g (by omega)
theorem rstep_any (C : Nat) (x : St) (raw d : Int) (w : World) (hx : Ok x) (hk : KB 53 w C x) :
    Calls Try.prog 30 #[.pointer (some ⟨C, 0, none⟩), .int .i64 raw, .int .i64 d] w (Done 53 C w (spE x raw d) (spS x raw d)) := by
  cases hv : win d 4503599627370496 with
  | false =>
    have e0 : spE x raw d = 3 := if_neg (by rw [hv]; decide)
    have e1 : spS x raw d = x := if_neg (by rw [e0]; decide)
    rw [e0, e1]; exact rstep_bad C x raw d w hx hk hv
  | true =>
    by_cases he : mvE x raw = 0
    · have e0 : spE x raw d = spI x raw d := (if_pos hv).trans (if_pos he)
      cases hb : win (at' x raw + d) 4503599627370496 with
      | false =>
        have e2 : spI x raw d = 3 := if_neg (by rw [hb]; decide)
        have e1 : spS x raw d = x := if_neg (by rw [e0, e2]; decide)
        rw [e0, e1, e2]; exact rstep_far C x raw d w hx hk hv he hb
      | true =>
        by_cases hs : x.s = 9223372036854775807
        · have e2 : spI x raw d = 4 := (if_pos hb).trans (if_pos hs)
          have e1 : spS x raw d = x := if_neg (by rw [e0, e2]; decide)
          rw [e0, e1, e2]; exact rstep_full C x raw d w hx hk hv he hb hs
        · have e2 : spI x raw d = 0 := (if_pos hb).trans (if_neg hs)
          have e1 : spS x raw d = spZ x raw d := if_pos (by rw [e0, e2])
          rw [e0, e1, e2]; exact rstep_yes C x raw d w hx hk hv he hb hs
    · have e0 : spE x raw d = mvE x raw := (if_pos hv).trans (if_neg he)
      have e1 : spS x raw d = x := if_neg (by rw [e0]; exact he)
      rw [e0, e1]; exact rstep_no C x raw d w hx hk hv he
end Go.Proofs.Ytjcpfkibaohjjaa
