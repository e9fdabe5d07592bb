/- Contracts of layer 10: Slew and Step of the program; the methods that write. -/
import Derived.Test.YtjcpfkibaohjjaaClkG
namespace Go.Proofs.Ytjcpfkibaohjjaa
open Go.RowKit Fx Ck

theorem slew_nil (raw d q : Int) (w : World) :
    Calls Try.prog 22 #[.pointer none, .int .i64 raw, .int .i64 d, .int .i64 q] w fun e w' => e = .returned (.int .i64 1) ∧ Below w.heap.size w w' := by
  cases hv : win d 4503599627370496 <;> cases hg : decide (1 ≤ q) <;> cases hh : decide (q ≤ 500000)
  all_goals
    go_enter Try.func22, Try.ntmps22
    go_wp2_with (go_at_call 33; refine (win_any _ _ _ (by decide) (by decide)).mono ?_; rintro e w' ⟨rfl, rfl⟩)
    refine (change_nil _ _ _ _ _).mono ?_
    rintro e w' ⟨rfl, rfl⟩
    go_wp2
    go_ret
    exact ⟨rfl, ((Below.refl _ _).alloc (Nat.le_refl _) _).alloc (by simp) _⟩
set_option maxRecDepth 100000 in
theorem slew_bad1 (C : Nat) (x : St) (raw d q : Int) (w : World) (hx : Ok x) (hk : KB 51 w C x) (hv : win d 4503599627370496 = false) :
    Calls Try.prog 22 #[.pointer (some ⟨C, 0, none⟩), .int .i64 raw, .int .i64 d, .int .i64 q] w (Done 51 C w 3 x) := by
  have KC := Lib.hid hk
  have HOK := Lib.hid hx
  clear hk hx
  go_enter Try.func22, Try.ntmps22
  go_wp2_with (go_at_call 33; refine (win_any _ _ _ (by decide) (by decide)).mono ?_; rintro e w' ⟨rfl, rfl⟩)
  refine (change_bad _ _ C raw _).mono ?_
  rintro e w' ⟨rfl, rfl⟩
  go_wp2_with fail
  go_ret
  exact ⟨rfl, (KC.out.alloc _).alloc _, grown_of_below (((Below.refl _ _).alloc (Nat.le_refl _) _).alloc (by simp) _)⟩
set_option maxRecDepth 100000 in
theorem slew_bad2 (C : Nat) (x : St) (raw d q : Int) (w : World) (hx : Ok x) (hk : KB 51 w C x) (hv : win d 4503599627370496 = true) (g : q < 1) :
    Calls Try.prog 22 #[.pointer (some ⟨C, 0, none⟩), .int .i64 raw, .int .i64 d, .int .i64 q] w (Done 51 C w 3 x) := by
  have KC := Lib.hid hk
  have HOK := Lib.hid hx
  clear hk hx
  have g1 : decide (1 ≤ q) = false := decide_eq_false (by omega)
  go_enter Try.func22, Try.ntmps22
  go_wp2_with (go_at_call 33; refine (win_any _ _ _ (by decide) (by decide)).mono ?_; rintro e w' ⟨rfl, rfl⟩)
  refine (change_bad _ _ C raw _).mono ?_
  rintro e w' ⟨rfl, rfl⟩
  go_wp2_with fail
  go_ret
  exact ⟨rfl, (KC.out.alloc _).alloc _, grown_of_below (((Below.refl _ _).alloc (Nat.le_refl _) _).alloc (by simp) _)⟩
set_option maxRecDepth 100000 in
theorem slew_bad3 (C : Nat) (x : St) (raw d q : Int) (w : World) (hx : Ok x) (hk : KB 51 w C x) (hv : win d 4503599627370496 = true) (g1 : 1 ≤ q) (g : 500000 < q) :
    Calls Try.prog 22 #[.pointer (some ⟨C, 0, none⟩), .int .i64 raw, .int .i64 d, .int .i64 q] w (Done 51 C w 3 x) := by
  have KC := Lib.hid hk
  have HOK := Lib.hid hx
  clear hk hx
  have gq0 : decide (1 ≤ q) = true := decide_eq_true g1
  have g2 : decide (q ≤ 500000) = false := decide_eq_false (by omega)
  go_enter Try.func22, Try.ntmps22
  go_wp2_with (go_at_call 33; refine (win_any _ _ _ (by decide) (by decide)).mono ?_; rintro e w' ⟨rfl, rfl⟩)
  refine (change_bad _ _ C raw _).mono ?_
  rintro e w' ⟨rfl, rfl⟩
  go_wp2_with fail
  go_ret
  exact ⟨rfl, (KC.out.alloc _).alloc _, grown_of_below (((Below.refl _ _).alloc (Nat.le_refl _) _).alloc (by simp) _)⟩
set_option maxRecDepth 100000 in
theorem slew_no (C : Nat) (x : St) (raw d q : Int) (w : World) (hx : Ok x) (hk : KB 51 w C x) (hv : win d 4503599627370496 = true) (g1 : 1 ≤ q) (g2 : q ≤ 500000) (he : ¬ mvE x raw = 0) :
    Calls Try.prog 22 #[.pointer (some ⟨C, 0, none⟩), .int .i64 raw, .int .i64 d, .int .i64 q] w (Done 51 C w (mvE x raw) x) := by
  have KC := Lib.hid hk
  have HOK := Lib.hid hx
  clear hk hx
  have HE := Lib.hid he
  have gq0 : decide (1 ≤ q) = true := decide_eq_true g1
  have gq1 : decide (q ≤ 500000) = true := decide_eq_true g2
  clear he
  go_enter Try.func22, Try.ntmps22
  go_wp2_with (go_at_call 33; refine (win_any _ _ _ (by decide) (by decide)).mono ?_; rintro e w' ⟨rfl, rfl⟩)
  refine (change_no _ _ C x raw _ HOK.out ((KC.out.alloc _).alloc _) HE.out).mono ?_
  rintro e w1 ⟨rfl, hk1, hg1⟩
  have K1 := Lib.hid hk1
  have G1 := Lib.hid hg1
  clear hk1 hg1
  go_wp2_with fail
  go_ret
  exact ⟨rfl, K1.out, below_grown (((Below.refl _ _).alloc (Nat.le_refl _) _).alloc (by simp) _) G1.out⟩
set_option maxRecDepth 100000 in
theorem slew_yes (C : Nat) (x : St) (raw d q : Int) (w : World) (hx : Ok x) (hk : KB 51 w C x) (hv : win d 4503599627370496 = true) (g1 : 1 ≤ q) (g2 : q ≤ 500000) (he : mvE x raw = 0) (hd : ¬ d = 0) :
    Calls Try.prog 22 #[.pointer (some ⟨C, 0, none⟩), .int .i64 raw, .int .i64 d, .int .i64 q] w (Done 51 C w 0 ⟨raw, at' x raw, x.p, d, q, x.s⟩) := by
  have KC := Lib.hid hk
  have HOK := Lib.hid hx
  clear hk hx
  have HE := Lib.hid he
  have gq0 : decide (1 ≤ q) = true := decide_eq_true g1
  have gq1 : decide (q ≤ 500000) = true := decide_eq_true g2
  have HD := Lib.hid hd
  clear he hd
  go_enter Try.func22, Try.ntmps22
  go_wp2_with (go_at_call 33; refine (win_any _ _ _ (by decide) (by decide)).mono ?_; rintro e w' ⟨rfl, rfl⟩)
  refine (changeSlew_yes (some ⟨w.heap.size, 0, none⟩) (some ⟨w.heap.size + 1, 0, none⟩) C x ⟨raw, at' x raw, x.p, d, q, x.s⟩ raw _ HOK.out ((KC.out.alloc _).alloc _) HE.out (fun w1 M hb hM hk => slc_nz M w.heap.size (w.heap.size + 1) (mvG x raw) d HD.out q w1 hk ((hb.cell (p := ⟨w.heap.size, 0, none⟩) (by simp; omega)).trans (by simp)) ((hb.cell (p := ⟨w.heap.size + 1, 0, none⟩) (by simp)).trans (by simp)) (by simp at hM; omega))).mono ?_
  rintro e w1 ⟨rfl, hk1, hg1⟩
  have K1 := Lib.hid hk1
  have G1 := Lib.hid hg1
  clear hk1 hg1
  go_wp2_with fail
  go_ret
  exact ⟨rfl, K1.out, below_grown (((Below.refl _ _).alloc (Nat.le_refl _) _).alloc (by simp) _) G1.out⟩
set_option maxRecDepth 100000 in
theorem slew0_yes (C : Nat) (x : St) (raw q : Int) (w : World) (hx : Ok x) (hk : KB 51 w C x) (g1 : 1 ≤ q) (g2 : q ≤ 500000) (he : mvE x raw = 0) :
    Calls Try.prog 22 #[.pointer (some ⟨C, 0, none⟩), .int .i64 raw, .int .i64 0, .int .i64 q] w (Done 51 C w 0 ⟨raw, at' x raw, x.p, 0, 0, x.s⟩) := by
  have KC := Lib.hid hk
  have HOK := Lib.hid hx
  clear hk hx
  have HE := Lib.hid he
  have gq0 : decide (1 ≤ q) = true := decide_eq_true g1
  have gq1 : decide (q ≤ 500000) = true := decide_eq_true g2
  have hv : win 0 4503599627370496 = true := rfl
  clear he
  go_enter Try.func22, Try.ntmps22
  go_wp2_with (go_at_call 33; refine (win_any _ _ _ (by decide) (by decide)).mono ?_; rintro e w' ⟨rfl, rfl⟩)
  refine (changeSlew_yes (some ⟨w.heap.size, 0, none⟩) (some ⟨w.heap.size + 1, 0, none⟩) C x ⟨raw, at' x raw, x.p, 0, 0, x.s⟩ raw _ HOK.out ((KC.out.alloc _).alloc _) HE.out (fun w1 M hb hM hk => slc_z M w.heap.size (w.heap.size + 1) (mvG x raw) q w1 hk ((hb.cell (p := ⟨w.heap.size, 0, none⟩) (by simp; omega)).trans (by simp)) ((hb.cell (p := ⟨w.heap.size + 1, 0, none⟩) (by simp)).trans (by simp)) (by simp at hM; omega))).mono ?_
  rintro e w1 ⟨rfl, hk1, hg1⟩
  have K1 := Lib.hid hk1
  have G1 := Lib.hid hg1
  clear hk1 hg1
  go_wp2_with fail
  go_ret
  exact ⟨rfl, K1.out, below_grown (((Below.refl _ _).alloc (Nat.le_refl _) _).alloc (by simp) _) G1.out⟩
theorem step_nil (raw d : Int) (w : World) :
    Calls Try.prog 24 #[.pointer none, .int .i64 raw, .int .i64 d] w fun e w' => e = .returned (.int .i64 1) ∧ Below w.heap.size w w' := by
  skip
  all_goals
    go_enter Try.func24, Try.ntmps24
    go_wp2_with (go_at_call 33; refine (win_any _ _ _ (by decide) (by decide)).mono ?_; rintro e w' ⟨rfl, rfl⟩)
    refine (change_nil _ _ _ _ _).mono ?_
    rintro e w' ⟨rfl, rfl⟩
    go_wp2
    go_ret
    exact ⟨rfl, (Below.refl _ _).alloc (Nat.le_refl _) _⟩
set_option maxRecDepth 100000 in
theorem step_bad (C : Nat) (x : St) (raw d : Int) (w : World) (hx : Ok x) (hk : KB 51 w C x) (hv : win d 4503599627370496 = false) :
    Calls Try.prog 24 #[.pointer (some ⟨C, 0, none⟩), .int .i64 raw, .int .i64 d] w (Done 51 C w 3 x) := by
  have KC := Lib.hid hk
  have HOK := Lib.hid hx
  clear hk hx
  go_enter Try.func24, Try.ntmps24
  go_wp2_with (go_at_call 33; refine (win_any _ _ _ (by decide) (by decide)).mono ?_; rintro e w' ⟨rfl, rfl⟩)
  refine (change_bad _ _ C raw _).mono ?_
  rintro e w' ⟨rfl, rfl⟩
  go_wp2_with fail
  go_ret
  exact ⟨rfl, KC.out.alloc _, grown_of_below ((Below.refl _ _).alloc (Nat.le_refl _) _)⟩
set_option maxRecDepth 100000 in
theorem step_no (C : Nat) (x : St) (raw d : Int) (w : World) (hx : Ok x) (hk : KB 51 w C x) (hv : win d 4503599627370496 = true) (he : ¬ mvE x raw = 0) :
    Calls Try.prog 24 #[.pointer (some ⟨C, 0, none⟩), .int .i64 raw, .int .i64 d] w (Done 51 C w (mvE x raw) x) := by
  have KC := Lib.hid hk
  have HOK := Lib.hid hx
  clear hk hx
  have HE := Lib.hid he
  clear he
  go_enter Try.func24, Try.ntmps24
  go_wp2_with (go_at_call 33; refine (win_any _ _ _ (by decide) (by decide)).mono ?_; rintro e w' ⟨rfl, rfl⟩)
  refine (change_no _ _ C x raw _ HOK.out (KC.out.alloc _) HE.out).mono ?_
  rintro e w1 ⟨rfl, hk1, hg1⟩
  have K1 := Lib.hid hk1
  have G1 := Lib.hid hg1
  clear hk1 hg1
  go_wp2_with fail
  go_ret
  exact ⟨rfl, K1.out, below_grown ((Below.refl _ _).alloc (Nat.le_refl _) _) G1.out⟩
set_option maxRecDepth 100000 in
theorem step_far (C : Nat) (x : St) (raw d : Int) (w : World) (hx : Ok x) (hk : KB 51 w C x) (hv : win d 4503599627370496 = true) (he : mvE x raw = 0) (hb : win (at' x raw + d) 4503599627370496 = false) :
    Calls Try.prog 24 #[.pointer (some ⟨C, 0, none⟩), .int .i64 raw, .int .i64 d] w (Done 51 C w 3 x) := by
  have KC := Lib.hid hk
  have HOK := Lib.hid hx
  clear hk hx
  have HE := Lib.hid he
  have HD := Lib.hid (win_iff.1 hv)
  have HB := Lib.hid hb
  clear he hb
  go_enter Try.func24, Try.ntmps24
  go_wp2_with (go_at_call 33; refine (win_any _ _ _ (by decide) (by decide)).mono ?_; rintro e w' ⟨rfl, rfl⟩)
  refine (changeStep_then (some ⟨w.heap.size, 0, none⟩) C x (mvG x raw) raw 3 _ HOK.out (KC.out.alloc _) HE.out (by decide) (fun w1 M hb hM hk => spc_far M w.heap.size (mvG x raw) d w1 hk ((hb.cell (p := ⟨w.heap.size, 0, none⟩) (by simp)).trans (by simp)) (by simp at hM; omega) HD.out.1 HD.out.2 (mvE_iff.1 HE.out).2.2.1 (mvE_iff.1 HE.out).2.2.2 HB.out)).mono ?_
  rintro e w1 ⟨rfl, hk1, hg1⟩
  have K1 := Lib.hid hk1
  have G1 := Lib.hid hg1
  clear hk1 hg1
  go_wp2_with fail
  go_ret
  exact ⟨rfl, K1.out, below_grown ((Below.refl _ _).alloc (Nat.le_refl _) _) G1.out⟩
set_option maxRecDepth 100000 in
theorem step_full (C : Nat) (x : St) (raw d : Int) (w : World) (hx : Ok x) (hk : KB 51 w C x) (hv : win d 4503599627370496 = true) (he : mvE x raw = 0) (hb : win (at' x raw + d) 4503599627370496 = true) (hs : x.s = 9223372036854775807) :
    Calls Try.prog 24 #[.pointer (some ⟨C, 0, none⟩), .int .i64 raw, .int .i64 d] w (Done 51 C w 4 x) := by
  have KC := Lib.hid hk
  have HOK := Lib.hid hx
  clear hk hx
  have HE := Lib.hid he
  have HD := Lib.hid (win_iff.1 hv)
  have HB := Lib.hid hb
  have HS := Lib.hid hs
  clear he hb hs
  go_enter Try.func24, Try.ntmps24
  go_wp2_with (go_at_call 33; refine (win_any _ _ _ (by decide) (by decide)).mono ?_; rintro e w' ⟨rfl, rfl⟩)
  refine (changeStep_then (some ⟨w.heap.size, 0, none⟩) C x (mvG x raw) raw 4 _ HOK.out (KC.out.alloc _) HE.out (by decide) (fun w1 M hb hM hk => spc_full M w.heap.size (mvG x raw) d w1 hk ((hb.cell (p := ⟨w.heap.size, 0, none⟩) (by simp)).trans (by simp)) (by simp at hM; omega) HD.out.1 HD.out.2 (mvE_iff.1 HE.out).2.2.1 (mvE_iff.1 HE.out).2.2.2 HB.out HS.out)).mono ?_
  rintro e w1 ⟨rfl, hk1, hg1⟩
  have K1 := Lib.hid hk1
  have G1 := Lib.hid hg1
  clear hk1 hg1
  go_wp2_with fail
  go_ret
  exact ⟨rfl, K1.out, below_grown ((Below.refl _ _).alloc (Nat.le_refl _) _) G1.out⟩
set_option maxRecDepth 100000 in
theorem step_yes (C : Nat) (x : St) (raw d : Int) (w : World) (hx : Ok x) (hk : KB 51 w C x) (hv : win d 4503599627370496 = true) (he : mvE x raw = 0) (hb : win (at' x raw + d) 4503599627370496 = true) (hs : ¬ x.s = 9223372036854775807) :
    Calls Try.prog 24 #[.pointer (some ⟨C, 0, none⟩), .int .i64 raw, .int .i64 d] w (Done 51 C w 0 (spZ x raw d)) := by
  have KC := Lib.hid hk
  have HOK := Lib.hid hx
  clear hk hx
  have HE := Lib.hid he
  have HD := Lib.hid (win_iff.1 hv)
  have HB := Lib.hid hb
  have HS := Lib.hid hs
  clear he hb hs
  go_enter Try.func24, Try.ntmps24
  go_wp2_with (go_at_call 33; refine (win_any _ _ _ (by decide) (by decide)).mono ?_; rintro e w' ⟨rfl, rfl⟩)
  refine (changeStep_yes (some ⟨w.heap.size, 0, none⟩) C x (spZ x raw d) raw _ HOK.out (KC.out.alloc _) HE.out (fun w1 M hb hM hk => spc_yes M w.heap.size (mvG x raw) d w1 hk ((hb.cell (p := ⟨w.heap.size, 0, none⟩) (by simp)).trans (by simp)) (by simp at hM; omega) HD.out.1 HD.out.2 (mvE_iff.1 HE.out).2.2.1 (mvE_iff.1 HE.out).2.2.2 HB.out HS.out HOK.out.2.2.2.2.2.2.1 HOK.out.2.2.2.2.2.2.2)).mono ?_
  rintro e w1 ⟨rfl, hk1, hg1⟩
  have K1 := Lib.hid hk1
  have G1 := Lib.hid hg1
  clear hk1 hg1
  go_wp2_with fail
  go_ret
  exact ⟨rfl, K1.out, below_grown ((Below.refl _ _).alloc (Nat.le_refl _) _) G1.out⟩
theorem freq_any (C : Nat) (x : St) (raw ppb : Int) (w : World) (hx : Ok x) (hk : KB 51 w C x) :
    Calls Try.prog 21 #[.pointer (some ⟨C, 0, none⟩), .int .i64 raw, .int .i64 ppb] w (Done 51 C w (frE x raw ppb) (frS x raw ppb)) := by
  cases hv : win ppb 500000 with
  | false =>
    have e0 : frE x raw ppb = 3 := if_neg (by rw [hv]; decide)
    have e1 : frS x raw ppb = x := if_neg (by rw [e0]; decide)
    rw [e0, e1]; exact freq_bad C x raw ppb w hx hk hv
  | true =>
    have e0 : frE x raw ppb = mvE x raw := if_pos hv
    by_cases he : mvE x raw = 0
    · have e1 : frS x raw ppb = frZ x raw ppb := if_pos (by rw [e0, he])
      rw [e0, e1, he]; exact freq_yes C x raw ppb w hx hk hv he
    · have e1 : frS x raw ppb = x := if_neg (by rw [e0]; exact he)
      rw [e0, e1]; exact freq_no C x raw ppb w hx hk hv he
theorem slew_any (C : Nat) (x : St) (raw d q : Int) (w : World) (hx : Ok x) (hk : KB 51 w C x) :
    Calls Try.prog 22 #[.pointer (some ⟨C, 0, none⟩), .int .i64 raw, .int .i64 d, .int .i64 q] w (Done 51 C w (slE x raw d q) (slS x raw d q)) := by
  by_cases ho : -4503599627370496 ≤ d ∧ d ≤ 4503599627370496 ∧ 1 ≤ q ∧ q ≤ 500000
  · have hv := win_yes ho.1 ho.2.1
    have e0 : slE x raw d q = mvE x raw := if_pos (slOk_iff.2 ho)
    by_cases he : mvE x raw = 0
    · have e1 : slS x raw d q = slZ x raw d q := if_pos (by rw [e0, he])
      rw [e0, e1, he]
      by_cases hd : d = 0
      · subst hd; exact slew0_yes C x raw q w hx hk ho.2.2.1 ho.2.2.2 he
      · have e2 : slZ x raw d q = ⟨raw, at' x raw, x.p, d, q, x.s⟩ := by unfold slZ; rw [if_neg hd]
        rw [e2]; exact slew_yes C x raw d q w hx hk hv ho.2.2.1 ho.2.2.2 he hd
    · have e1 : slS x raw d q = x := if_neg (by rw [e0]; exact he)
      rw [e0, e1]; exact slew_no C x raw d q w hx hk hv ho.2.2.1 ho.2.2.2 he
  · have e0 : slE x raw d q = 3 := if_neg (by rw [slOk_iff]; exact ho)
    have e1 : slS x raw d q = x := if_neg (by rw [e0]; decide)
    rw [e0, e1]
    cases hv : win d 4503599627370496 with
    | false => exact slew_bad1 C x raw d q w hx hk hv
    | true =>
      have := win_iff.1 hv
      rcases Int.lt_or_le q 1 with g | g
      · exact slew_bad2 C x raw d q w hx hk hv g
      · exact slew_bad3 C x raw d q w hx hk hv g (by omega)
theorem step_any (C : Nat) (x : St) (raw d : Int) (w : World) (hx : Ok x) (hk : KB 51 w C x) :
    Calls Try.prog 24 #[.pointer (some ⟨C, 0, none⟩), .int .i64 raw, .int .i64 d] w (Done 51 C w (spE x raw d) (spS x raw d)) := by
  cases hv : win d 4503599627370496 with
  | false =>
    have e0 : spE x raw d = 3 := if_neg (by rw [hv]; decide)
    have e1 : spS x raw d = x := if_neg (by rw [e0]; decide)
    rw [e0, e1]; exact step_bad C x raw d w hx hk hv
  | true =>
    by_cases he : mvE x raw = 0
    · have e0 : spE x raw d = spI x raw d := (if_pos hv).trans (if_pos he)
      cases hb : win (at' x raw + d) 4503599627370496 with
      | false =>
        have e2 : spI x raw d = 3 := if_neg (by rw [hb]; decide)
        have e1 : spS x raw d = x := if_neg (by rw [e0, e2]; decide)
        rw [e0, e1, e2]; exact step_far C x raw d w hx hk hv he hb
      | true =>
        by_cases hs : x.s = 9223372036854775807
        · have e2 : spI x raw d = 4 := (if_pos hb).trans (if_pos hs)
          have e1 : spS x raw d = x := if_neg (by rw [e0, e2]; decide)
          rw [e0, e1, e2]; exact step_full C x raw d w hx hk hv he hb hs
        · have e2 : spI x raw d = 0 := (if_pos hb).trans (if_neg hs)
          have e1 : spS x raw d = spZ x raw d := if_pos (by rw [e0, e2])
          rw [e0, e1, e2]; exact step_yes C x raw d w hx hk hv he hb hs
    · have e0 : spE x raw d = mvE x raw := (if_pos hv).trans (if_neg he)
      have e1 : spS x raw d = x := if_neg (by rw [e0]; exact he)
      rw [e0, e1]; exact step_no C x raw d w hx hk hv he
end Go.Proofs.Ytjcpfkibaohjjaa
