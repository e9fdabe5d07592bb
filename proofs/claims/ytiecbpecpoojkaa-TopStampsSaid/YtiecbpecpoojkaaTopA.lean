/- The walk of TopStamps. -/
import Derived.Test.YtiecbpecpoojkaaStaD
import Derived.Test.YtiecbpecpoojkaaPtmVa
namespace Go.Proofs.Ytiecbpecpoojkaa
open Go.RowKit Fx Wi

theorem Pt.fit8 {s : Int} (h0 : 0 ≤ s) (h1 : s ≤ 18446744073709551615) : s / 2 ^ (8 * 8) = 0 := by
  rw [show (2 : Int) ^ (8 * 8) = 18446744073709551616 from by decide]; omega
theorem Pt.get8 {s : Int} (h0 : 0 ≤ s) (h1 : s ≤ 18446744073709551615) : getV (beB s 8) 0 8 = s := by
  have l8 : (beB s 8).length = 8 := beB_length s 8
  unfold getV getE
  rw [if_pos (by rw [l8]; decide)]
  show beVal (((beB s 8).drop 0).take 8) = s
  rw [List.drop_zero, List.take_of_length_le (by omega), Pt.val_be]
  show s % 18446744073709551616 = s
  omega

theorem topOut (t a : Int) (w : World) (h : t < -4000000000000000000 ∨ 4000000000000000000 < t ∨ a < -2000000000000000000 ∨ 2000000000000000000 < a) :
    Calls Try.prog 3 #[.int .i64 t, .int .i64 a] w fun e w' => e = .returned (.bool true) ∧ Below w.heap.size w w' := by
  by_cases h1 : t < -4000000000000000000
  · clear h
    go_enter Try.func3, Try.ntmps3
    go_wp2_with fail
    all_goals (go_ret; exact ⟨rfl, Below.refl _ _⟩)
  · have d1 : decide (t < -4000000000000000000) = false := decide_eq_false h1
    by_cases h2 : 4000000000000000000 < t
    · clear h
      go_enter Try.func3, Try.ntmps3
      go_wp2_with fail
      all_goals (go_ret; exact ⟨rfl, Below.refl _ _⟩)
    · have d2 : decide (4000000000000000000 < t) = false := decide_eq_false h2
      by_cases h3 : a < -2000000000000000000
      · clear h
        go_enter Try.func3, Try.ntmps3
        go_wp2_with fail
        all_goals (go_ret; exact ⟨rfl, Below.refl _ _⟩)
      · have d3 : decide (a < -2000000000000000000) = false := decide_eq_false h3
        have h4 : 2000000000000000000 < a := by omega
        clear h
        go_enter Try.func3, Try.ntmps3
        go_wp2_with fail
        all_goals (go_ret; exact ⟨rfl, Below.refl _ _⟩)

set_option maxRecDepth 100000 in
theorem topStamps_walk (t a : Int) (w : World) :
    Calls Try.prog 3 #[.int .i64 t, .int .i64 a] w fun e w' => e = .returned (.bool true) ∧ Below w.heap.size w w' := by
  by_cases h : t < -4000000000000000000 ∨ 4000000000000000000 < t ∨ a < -2000000000000000000 ∨ 2000000000000000000 < a
  · exact topOut t a w h
  · have t0 : -4000000000000000000 ≤ t := by omega
    have t1 : t ≤ 4000000000000000000 := by omega
    have a0 : -2000000000000000000 ≤ a := by omega
    have a1 : a ≤ 2000000000000000000 := by omega
    clear h
    by_cases he : t < 2208988800000000000
    · have HE : Hid (Pt.ofS t = 0 ∧ Pt.ofN t = 0 ∧ Pt.ofE t = 3) := Lib.hid ⟨if_pos he, if_pos he, if_pos he⟩
      have d1 : decide (t < -4000000000000000000) = false := decide_eq_false (by omega)
      have d2 : decide (4000000000000000000 < t) = false := decide_eq_false (by omega)
      have d3 : decide (a < -2000000000000000000) = false := decide_eq_false (by omega)
      have d4 : decide (2000000000000000000 < a) = false := decide_eq_false (by omega)
      have ub : 0 ≤ St.ofI t ∧ St.ofI t ≤ 18446744073709551615 := by unfold St.ofI; omega
      have hb := St.tim_back (t := t) (p := t + a) (by omega) (by omega)
      have HT := Lib.hid (St.timE_yes (s := St.ofI t) (p := t + a) (by omega) (by omega) (by rw [hb]; omega) (by rw [hb]; omega))
      have HB := Lib.hid hb
      obtain ⟨U, hU⟩ : ∃ U, St.ofI t = U := ⟨_, rfl⟩
      rw [hU] at ub HT HB
      obtain ⟨u0, u1⟩ := ub
      have HU := Lib.hid hU
      have F8 := Lib.hid (Pt.fit8 u0 u1)
      have G8 := Lib.hid (Pt.get8 u0 u1)
      clear hb hU
      go_enter Try.func3, Try.ntmps3
      go_wp2_with fail
      refine (of_any t _ (by omega) (by omega)).mono ?_
      rintro e w' ⟨rfl, rfl⟩
      rw [HU.out]
      go_wp2_with fail
      refine (append_ok none 0 0 [] U 8 w BReads.nil (by omega) (by decide) (by decide) F8.out).mono ?_
      rintro e w1 ⟨rfl, hB1, hw1⟩
      rw [List.nil_append] at hB1
      have hr := hB1.reads (Pt.beB_bytes U 8) hB1.lt
      rw [beB_length] at hr
      have R1 := Lib.hid hr
      have B1 := Lib.hid hw1
      clear hB1 hr hw1
      go_wp2_with fail
      refine (get_any (some ⟨w.heap.size, 0, none⟩) 8 8 (beB U 8) 0 8 w1 _ R1.out (by decide) (by decide) (by decide)).mono ?_
      rintro e w' ⟨rfl, rfl⟩
      rw [G8.out, show getE 8 0 8 = 0 from by decide]
      go_wp2_with fail
      refine (time_any U (t + a) _).mono ?_
      rintro e w' ⟨rfl, k, rfl⟩
      rw [HT.out.1, HT.out.2, HB.out]
      have B1d : Hid (Below w.heap.size w (w1.drewN k)) := Lib.hid (below_drewN B1.out k)
      obtain ⟨W1, hW1⟩ : ∃ W, w1.drewN k = W := ⟨_, rfl⟩
      rw [hW1] at B1d
      have HW1 := Lib.hid hW1
      clear hW1 B1 R1
      go_wp2_with fail
      rw [HW1.out]
      refine (pof_any t _ (by omega) (by omega)).mono ?_
      rintro e w2 ⟨rfl, hw2'⟩
      rw [HE.out.1, HE.out.2.1, HE.out.2.2]
      have B3 := Lib.hid (B1d.out.trans ((hw2'.alloc hw2'.size (.cells #[.int .i64 0, .int .i64 0] 33)).mono B1d.out.size))
      clear hw2'
      go_wp2_with fail
      go_ret
      exact ⟨rfl, B3.out⟩
    · obtain ⟨s, hs⟩ : ∃ s, t / 1000000000 - 2208988800 = s := ⟨_, rfl⟩
      obtain ⟨n, hn⟩ : ∃ n, t % 1000000000 = n := ⟨_, rfl⟩
      have HE : Hid (Pt.ofS t = s ∧ Pt.ofN t = n ∧ Pt.ofE t = 0) := Lib.hid ⟨(if_neg he).trans hs, (if_neg he).trans hn, if_neg he⟩
      have s0 : 0 ≤ s := by omega
      have s1 : s ≤ 281474976710655 := by omega
      have n0 : 0 ≤ n := by omega
      have n1 : n < 1000000000 := by omega
      have ho : Pt.ok s n = true := Pt.ok_iff.2 ⟨s0, s1, n0, n1⟩
      have hi : Pt.ins s n = t := by unfold Pt.ins; omega
      have HO := Lib.hid ho
      have HV : Hid (Pt.timV s n = t ∧ Pt.timE s n = 0) := Lib.hid ⟨(if_pos ⟨ho, by rw [hi]; omega⟩).trans hi, if_pos ⟨ho, by rw [hi]; omega⟩⟩
      have HD := Lib.hid (show Pt.decS (Pt.enc s n) = s ∧ Pt.decN (Pt.enc s n) = n ∧ Pt.decE (Pt.enc s n) = 0 from ⟨(Pt.dec_enc s0 s1 n0 n1).2.1, (Pt.dec_enc s0 s1 n0 n1).2.2, (Pt.dec_enc s0 s1 n0 n1).1⟩)
      clear hs hn ho hi
      have d1 : decide (t < -4000000000000000000) = false := decide_eq_false (by omega)
      have d2 : decide (4000000000000000000 < t) = false := decide_eq_false (by omega)
      have d3 : decide (a < -2000000000000000000) = false := decide_eq_false (by omega)
      have d4 : decide (2000000000000000000 < a) = false := decide_eq_false (by omega)
      have ub : 0 ≤ St.ofI t ∧ St.ofI t ≤ 18446744073709551615 := by unfold St.ofI; omega
      have hb := St.tim_back (t := t) (p := t + a) (by omega) (by omega)
      have HT := Lib.hid (St.timE_yes (s := St.ofI t) (p := t + a) (by omega) (by omega) (by rw [hb]; omega) (by rw [hb]; omega))
      have HB := Lib.hid hb
      obtain ⟨U, hU⟩ : ∃ U, St.ofI t = U := ⟨_, rfl⟩
      rw [hU] at ub HT HB
      obtain ⟨u0, u1⟩ := ub
      have HU := Lib.hid hU
      have F8 := Lib.hid (Pt.fit8 u0 u1)
      have G8 := Lib.hid (Pt.get8 u0 u1)
      clear hb hU
      go_enter Try.func3, Try.ntmps3
      go_wp2_with fail
      refine (of_any t _ (by omega) (by omega)).mono ?_
      rintro e w' ⟨rfl, rfl⟩
      rw [HU.out]
      go_wp2_with fail
      refine (append_ok none 0 0 [] U 8 w BReads.nil (by omega) (by decide) (by decide) F8.out).mono ?_
      rintro e w1 ⟨rfl, hB1, hw1⟩
      rw [List.nil_append] at hB1
      have hr := hB1.reads (Pt.beB_bytes U 8) hB1.lt
      rw [beB_length] at hr
      have R1 := Lib.hid hr
      have B1 := Lib.hid hw1
      clear hB1 hr hw1
      go_wp2_with fail
      refine (get_any (some ⟨w.heap.size, 0, none⟩) 8 8 (beB U 8) 0 8 w1 _ R1.out (by decide) (by decide) (by decide)).mono ?_
      rintro e w' ⟨rfl, rfl⟩
      rw [G8.out, show getE 8 0 8 = 0 from by decide]
      go_wp2_with fail
      refine (time_any U (t + a) _).mono ?_
      rintro e w' ⟨rfl, k, rfl⟩
      rw [HT.out.1, HT.out.2, HB.out]
      have B1d : Hid (Below w.heap.size w (w1.drewN k)) := Lib.hid (below_drewN B1.out k)
      obtain ⟨W1, hW1⟩ : ∃ W, w1.drewN k = W := ⟨_, rfl⟩
      rw [hW1] at B1d
      have HW1 := Lib.hid hW1
      clear hW1 B1 R1
      go_wp2_with fail
      rw [HW1.out]
      refine (pof_any t _ (by omega) (by omega)).mono ?_
      rintro e w2 ⟨rfl, hw2'⟩
      rw [HE.out.1, HE.out.2.1, HE.out.2.2]
      have hw2 := hw2'.alloc hw2'.size (.cells #[.int .i64 s, .int .i64 n] 33)
      have X2 := Lib.hid (Pt.bx_new w2 s n)
      obtain ⟨W2, hW2⟩ : ∃ W, w2.alloc (.cells #[.int .i64 s, .int .i64 n] 33) = W := ⟨_, rfl⟩
      rw [hW2] at hw2 X2
      have HW2 := Lib.hid hW2
      have B2 := Lib.hid (B1d.out.trans (hw2.mono B1d.out.size))
      have z2 := X2.out.lt
      clear hw2 hw2' hW2
      go_wp2_with fail
      rw [HW2.out]
      refine (encode_ok s n _ HO.out).mono ?_
      rintro e w3 ⟨g, rfl, hg, hB3, hw3⟩
      have X3 := Lib.hid (X2.out.below hw3 X2.out.lt)
      have B3 := Lib.hid (B2.out.trans (hw3.mono B2.out.size))
      have Z3 := Lib.hid hB3
      clear hB3 hw3 X2 z2
      go_wp2_with fail
      refine (decode_any' (some ⟨g, 0, none⟩) 10 10 (Pt.enc s n) _ (by have h := Z3.out.reads (Pt.enc_bytes s n) Z3.out.lt; rw [Pt.enc_len] at h; exact h) (by decide)).mono ?_
      rintro e w4 ⟨rfl, hw4'⟩
      rw [HD.out.1, HD.out.2.1, HD.out.2.2]
      have hw4 := hw4'.alloc hw4'.size (.cells #[.int .i64 s, .int .i64 n] 33)
      have Y4 := Lib.hid (Pt.bx_new w4 s n)
      obtain ⟨W4, hW4⟩ : ∃ W, w4.alloc (.cells #[.int .i64 s, .int .i64 n] 33) = W := ⟨_, rfl⟩
      rw [hW4] at hw4 Y4
      have HW4 := Lib.hid hW4
      have X4 := Lib.hid (X3.out.below hw4 X3.out.lt)
      have B4 := Lib.hid (B3.out.trans (hw4.mono B3.out.size))
      clear hw4 hw4' hW4 X3 Z3
      go_wp2_with fail
      rw [HW4.out]
      refine (ptime_any s n _).mono ?_
      rintro e w5 ⟨rfl, hw5⟩
      rw [HV.out.1, HV.out.2]
      have X5 := Lib.hid (X4.out.below hw5 X4.out.lt)
      have Y5 := Lib.hid (Y4.out.below hw5 Y4.out.lt)
      have B5 := Lib.hid (B4.out.trans (hw5.mono B4.out.size))
      clear hw5 X4 Y4
      obtain ⟨x0, x1, _, _, _⟩ := two_cells X5.out
      obtain ⟨y0, y1, _, _, _⟩ := two_cells Y5.out
      go_wp2_with fail
      go_ret
      exact ⟨rfl, B5.out⟩
end Go.Proofs.Ytiecbpecpoojkaa
