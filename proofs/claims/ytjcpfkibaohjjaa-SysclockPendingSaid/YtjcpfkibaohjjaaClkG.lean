/- Contracts of layer 10: Freq, Slew, Step of the program. -/
import Derived.Test.YtjcpfkibaohjjaaClkF
import Derived.Test.YtjcpfkibaohjjaaClkN
namespace Go.Proofs.Ytjcpfkibaohjjaa
open Go.RowKit Fx Ck

theorem Ck.grown_set' (w : World) (g i : Nat) (v : Value) : w.grownBy (w.setCell ⟨g, i, none⟩ v) (some g) := grown_set (grown_refl w _) v
theorem Ck.grown_drew {w w1 : World} {r : Option Nat} (h : w.grownBy w1 r) : w.grownBy w1.drew r := ⟨h.os, h.tape, h.output, h.size, h.block⟩
theorem Ck.grown_drewN {w w1 : World} {r : Option Nat} (h : w.grownBy w1 r) (n : Nat) : w.grownBy (w1.drewN n) r := ⟨h.os, h.tape, h.output, h.size, h.block⟩
set_option maxRecDepth 100000 in
theorem frc_any (M P : Nat) (y : St) (ppb : Int) (w : World) (hk : KB 23 w M y) (hp : w.cell? ⟨P, 0, none⟩ = some (.int .i64 ppb)) :
    Calls Try.prog 35 #[.pointer (some ⟨M, 0, none⟩), .pointer (some ⟨P, 0, none⟩)] w (Done 23 M w 0 ⟨y.r, y.t, ppb, y.l, y.q, y.s⟩) := by
  have KM := Lib.hid hk
  obtain ⟨c0, c1, c2, c3, c4, c5⟩ := hk.cells
  obtain ⟨g0, g1, g2, g3, g4, g5⟩ := hk.thaw
  clear hk
  go_enter Try.func35, Try.ntmps35
  go_wp2
  go_ret
  exact ⟨rfl, KM.out.set2 _, grown_set' _ _ _ _⟩
set_option maxRecDepth 100000 in
theorem slc_nz (M P Q : Nat) (y : St) (d : Int) (hd : ¬ d = 0) (q : Int) (w : World) (hk : KB 23 w M y) (hp : w.cell? ⟨P, 0, none⟩ = some (.int .i64 d)) (hq : w.cell? ⟨Q, 0, none⟩ = some (.int .i64 q)) (hP : P ≠ M) :
    Calls Try.prog 36 #[.pointer (some ⟨M, 0, none⟩), .pointer (some ⟨P, 0, none⟩), .pointer (some ⟨Q, 0, none⟩)] w (Done 23 M w 0 ⟨y.r, y.t, y.p, d, q, y.s⟩) := by
  have KM := Lib.hid hk
  obtain ⟨c0, c1, c2, c3, c4, c5⟩ := hk.cells
  obtain ⟨g0, g1, g2, g3, g4, g5⟩ := hk.thaw
  clear hk
  have hd0 : (d == 0) = false := by simpa using hd
  have hp1 : ∀ u, (w.drew.setCell ⟨M, 3, none⟩ u).cell? ⟨P, 0, none⟩ = some (.int .i64 d) := fun u => (World.cell?_of_block (w := w.drew) (Below.heap_setCell w.drew ⟨M, 3, none⟩ u P hP)).trans hp
  go_enter Try.func36, Try.ntmps36
  go_wp2
  go_region
  all_goals
    go_wp2
    go_ret
    exact ⟨rfl, (KM.out.set3 d).set4 q, grown_drew (grown_set (grown_set' _ _ _ _) _)⟩
set_option maxRecDepth 100000 in
theorem slc_z (M P Q : Nat) (y : St) (q : Int) (w : World) (hk : KB 23 w M y) (hp : w.cell? ⟨P, 0, none⟩ = some (.int .i64 0)) (hq : w.cell? ⟨Q, 0, none⟩ = some (.int .i64 q)) (hP : P ≠ M) :
    Calls Try.prog 36 #[.pointer (some ⟨M, 0, none⟩), .pointer (some ⟨P, 0, none⟩), .pointer (some ⟨Q, 0, none⟩)] w (Done 23 M w 0 ⟨y.r, y.t, y.p, 0, 0, y.s⟩) := by
  have KM := Lib.hid hk
  obtain ⟨c0, c1, c2, c3, c4, c5⟩ := hk.cells
  obtain ⟨g0, g1, g2, g3, g4, g5⟩ := hk.thaw
  clear hk
  have hp1 : ∀ u, (w.drew.setCell ⟨M, 3, none⟩ u).cell? ⟨P, 0, none⟩ = some (.int .i64 0) := fun u => (World.cell?_of_block (w := w.drew) (Below.heap_setCell w.drew ⟨M, 3, none⟩ u P hP)).trans hp
  go_enter Try.func36, Try.ntmps36
  go_wp2
  go_region
  all_goals
    go_wp2
    go_ret
    exact ⟨rfl, ((KM.out.set3 0).set4 q).set4 0, grown_drew (grown_set (grown_set (grown_set' _ _ _ _) _) _)⟩
set_option maxRecDepth 100000 in
theorem spc_far (M P : Nat) (y : St) (d : Int) (w : World) (hk : KB 23 w M y) (hm : w.cell? ⟨P, 0, none⟩ = some (.int .i64 d)) (hP : P ≠ M) (d0 : -4503599627370496 ≤ d) (d1 : d ≤ 4503599627370496) (t0 : -4503599627370496 ≤ y.t) (t1 : y.t ≤ 4503599627370496) (hb : win (y.t + d) 4503599627370496 = false) :
    Calls Try.prog 37 #[.pointer (some ⟨M, 0, none⟩), .pointer (some ⟨P, 0, none⟩)] w (Done 23 M w 3 y) := by
  have KM := Lib.hid hk
  obtain ⟨c0, c1, c2, c3, c4, c5⟩ := hk.cells
  obtain ⟨g0, g1, g2, g3, g4, g5⟩ := hk.thaw
  clear hk
  have hs0 : IntKind.i64.wrap (y.t + d) = y.t + d := IntWalk.i64_in _ (by omega)
  have HB := Lib.hid hb
  clear hb
  go_enter Try.func37, Try.ntmps37
  go_wp2_with fail
  go_quiet ((go_at_call 33; exact Calls.quiet_of_same ((win_any _ _ _ (by decide) (by decide)).mono (by rintro e w' ⟨rfl, rfl⟩; rw [HB.out]; exact ⟨rfl, rfl⟩))))
  go_wp2_with fail
  go_ret
  exact ⟨rfl, KM.out, grown_drewN (grown_refl _ _) _⟩
set_option maxRecDepth 100000 in
theorem spc_full (M P : Nat) (y : St) (d : Int) (w : World) (hk : KB 23 w M y) (hm : w.cell? ⟨P, 0, none⟩ = some (.int .i64 d)) (hP : P ≠ M) (d0 : -4503599627370496 ≤ d) (d1 : d ≤ 4503599627370496) (t0 : -4503599627370496 ≤ y.t) (t1 : y.t ≤ 4503599627370496) (hb : win (y.t + d) 4503599627370496 = true) (hs : y.s = 9223372036854775807) :
    Calls Try.prog 37 #[.pointer (some ⟨M, 0, none⟩), .pointer (some ⟨P, 0, none⟩)] w (Done 23 M w 4 y) := by
  have KM := Lib.hid hk
  obtain ⟨c0, c1, c2, c3, c4, c5⟩ := hk.cells
  obtain ⟨g0, g1, g2, g3, g4, g5⟩ := hk.thaw
  clear hk
  have hs0 : IntKind.i64.wrap (y.t + d) = y.t + d := IntWalk.i64_in _ (by omega)
  have HB := Lib.hid hb
  have e0 : (y.s == 9223372036854775807) = true := by simpa using hs
  clear hb hs
  go_enter Try.func37, Try.ntmps37
  go_wp2_with fail
  go_quiet ((go_at_call 33; exact Calls.quiet_of_same ((win_any _ _ _ (by decide) (by decide)).mono (by rintro e w' ⟨rfl, rfl⟩; rw [HB.out]; exact ⟨rfl, rfl⟩))))
  go_wp2_with fail
  go_ret
  exact ⟨rfl, KM.out, grown_drewN (grown_refl _ _) _⟩
set_option maxRecDepth 100000 in
theorem spc_yes (M P : Nat) (y : St) (d : Int) (w : World) (hk : KB 23 w M y) (hm : w.cell? ⟨P, 0, none⟩ = some (.int .i64 d)) (hP : P ≠ M) (d0 : -4503599627370496 ≤ d) (d1 : d ≤ 4503599627370496) (t0 : -4503599627370496 ≤ y.t) (t1 : y.t ≤ 4503599627370496) (hb : win (y.t + d) 4503599627370496 = true) (hs : ¬ y.s = 9223372036854775807) (s0 : 0 ≤ y.s) (s1 : y.s ≤ 9223372036854775807) :
    Calls Try.prog 37 #[.pointer (some ⟨M, 0, none⟩), .pointer (some ⟨P, 0, none⟩)] w (Done 23 M w 0 ⟨y.r, y.t + d, y.p, 0, 0, y.s + 1⟩) := by
  have KM := Lib.hid hk
  obtain ⟨c0, c1, c2, c3, c4, c5⟩ := hk.cells
  obtain ⟨g0, g1, g2, g3, g4, g5⟩ := hk.thaw
  clear hk
  have hs0 : IntKind.i64.wrap (y.t + d) = y.t + d := IntWalk.i64_in _ (by omega)
  have HB := Lib.hid hb
  have e0 : (y.s == 9223372036854775807) = false := by simpa using hs
  have hs2 : y.s ≤ 9223372036854775806 := by omega
  have hs1 : IntKind.i64.wrap (y.s + 1) = y.s + 1 := IntWalk.i64_in _ (by omega)
  clear hb hs
  go_enter Try.func37, Try.ntmps37
  go_wp2_with fail
  go_quiet ((go_at_call 33; exact Calls.quiet_of_same ((win_any _ _ _ (by decide) (by decide)).mono (by rintro e w' ⟨rfl, rfl⟩; rw [HB.out]; exact ⟨rfl, rfl⟩))))
  go_wp2_with fail
  go_region
  all_goals
    go_wp2_with fail
    go_ret
    exact ⟨rfl, ((((KM.out.drewN (nq + 1)).set1 (y.t + d)).set3 0).set4 0).set5 (y.s + 1), grown_set (grown_set (grown_set (grown_set (grown_drewN (grown_refl _ _) _) _) _) _) _⟩
theorem freq_nil (raw ppb : Int) (w : World) :
    Calls Try.prog 21 #[.pointer none, .int .i64 raw, .int .i64 ppb] w fun e w' => e = .returned (.int .i64 1) ∧ Below w.heap.size w w' := by
  go_enter Try.func21, Try.ntmps21
  go_wp2_with (go_at_call 33; refine (win_any _ _ _ (by decide) (by decide)).mono ?_; rintro e w' ⟨rfl, rfl⟩)
  refine (change_nil _ _ _ _ _).mono ?_
  rintro e w' ⟨rfl, rfl⟩
  go_wp2
  go_ret
  exact ⟨rfl, (Below.refl _ _).alloc (Nat.le_refl _) _⟩
set_option maxRecDepth 100000 in
theorem freq_bad (C : Nat) (x : St) (raw ppb : Int) (w : World) (hx : Ok x) (hk : KB 51 w C x) (hv : win ppb 500000 = false) :
    Calls Try.prog 21 #[.pointer (some ⟨C, 0, none⟩), .int .i64 raw, .int .i64 ppb] w (Done 51 C w 3 x) := by
  have KC := Lib.hid hk
  have HOK := Lib.hid hx
  clear hk hx
  go_enter Try.func21, Try.ntmps21
  go_wp2_with (go_at_call 33; refine (win_any _ _ _ (by decide) (by decide)).mono ?_; rintro e w' ⟨rfl, rfl⟩)
  refine (change_bad _ _ C raw _).mono ?_
  rintro e w' ⟨rfl, rfl⟩
  go_wp2_with fail
  go_ret
  exact ⟨rfl, KC.out.alloc _, grown_of_below ((Below.refl _ _).alloc (Nat.le_refl _) _)⟩
set_option maxRecDepth 100000 in
theorem freq_no (C : Nat) (x : St) (raw ppb : Int) (w : World) (hx : Ok x) (hk : KB 51 w C x) (hv : win ppb 500000 = true) (he : ¬ mvE x raw = 0) :
    Calls Try.prog 21 #[.pointer (some ⟨C, 0, none⟩), .int .i64 raw, .int .i64 ppb] w (Done 51 C w (mvE x raw) x) := by
  have KC := Lib.hid hk
  have HOK := Lib.hid hx
  clear hk hx
  have HE := Lib.hid he
  clear he
  go_enter Try.func21, Try.ntmps21
  go_wp2_with (go_at_call 33; refine (win_any _ _ _ (by decide) (by decide)).mono ?_; rintro e w' ⟨rfl, rfl⟩)
  refine (change_no _ _ C x raw _ HOK.out (KC.out.alloc _) HE.out).mono ?_
  rintro e w1 ⟨rfl, hk1, hg1⟩
  have K1 := Lib.hid hk1
  have G1 := Lib.hid hg1
  clear hk1 hg1
  go_wp2_with fail
  go_ret
  exact ⟨rfl, K1.out, below_grown ((Below.refl _ _).alloc (Nat.le_refl _) _) G1.out⟩
set_option maxRecDepth 100000 in
theorem freq_yes (C : Nat) (x : St) (raw ppb : Int) (w : World) (hx : Ok x) (hk : KB 51 w C x) (hv : win ppb 500000 = true) (he : mvE x raw = 0) :
    Calls Try.prog 21 #[.pointer (some ⟨C, 0, none⟩), .int .i64 raw, .int .i64 ppb] w (Done 51 C w 0 (frZ x raw ppb)) := by
  have KC := Lib.hid hk
  have HOK := Lib.hid hx
  clear hk hx
  have HE := Lib.hid he
  clear he
  go_enter Try.func21, Try.ntmps21
  go_wp2_with (go_at_call 33; refine (win_any _ _ _ (by decide) (by decide)).mono ?_; rintro e w' ⟨rfl, rfl⟩)
  refine (changeFreq_yes (some ⟨w.heap.size, 0, none⟩) C x (frZ x raw ppb) raw _ HOK.out (KC.out.alloc _) HE.out (fun w1 M hb hM hk => frc_any M w.heap.size (mvG x raw) ppb w1 hk ((hb.cell (p := ⟨w.heap.size, 0, none⟩) (by simp)).trans (by simp)))).mono ?_
  rintro e w1 ⟨rfl, hk1, hg1⟩
  have K1 := Lib.hid hk1
  have G1 := Lib.hid hg1
  clear hk1 hg1
  go_wp2_with fail
  go_ret
  exact ⟨rfl, K1.out, below_grown ((Below.refl _ _).alloc (Nat.le_refl _) _) G1.out⟩
end Go.Proofs.Ytjcpfkibaohjjaa
