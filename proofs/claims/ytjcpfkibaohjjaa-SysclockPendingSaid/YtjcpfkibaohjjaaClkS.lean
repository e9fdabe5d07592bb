/- Laws of layer 10: slews. -/
import Derived.Test.YtjcpfkibaohjjaaClkR
namespace Go.Proofs.Ytjcpfkibaohjjaa
open Go.RowKit Fx Ck

theorem Ck.shn_zero {t p e : Int} : shn t p 0 0 e = t + cnt e p := by
  have hs : slw 0 0 e = 0 := by unfold slw clm; rw [Int.mul_zero]; rfl
  unfold shn
  rw [if_pos hs, ln_zero, cnt_nil]
  rw [show e - 0 = e by omega]; omega
/-- Two floors and the floor of the sum. -/
theorem Ck.fl_sum (X Y d : Int) (h0 : 0 ≤ d) (h1 : d < 1000000000) : -1 ≤ (X + d) / 1000000000 + Y / 1000000000 - (X + Y) / 1000000000 ∧ (X + d) / 1000000000 + Y / 1000000000 - (X + Y) / 1000000000 ≤ 1 := by omega
theorem Ck.fl_sub (X Y d : Int) (h0 : 0 ≤ d) (h1 : d < 1000000000) : -2 ≤ (X - d) / 1000000000 + Y / 1000000000 - (X + Y) / 1000000000 ∧ (X - d) / 1000000000 + Y / 1000000000 - (X + Y) / 1000000000 ≤ 0 := by omega
/-- The length of a slew, times the rate. -/
theorem Ck.ln_rate {l q : Int} (hq : 0 < q) : ∃ d, 0 ≤ d ∧ d < q ∧ ln l q * q = mag l * 1000000000 + d := by
  have key : ln l q = -(-(mag l) * 1000000000 / q) := by
    unfold ln
    by_cases hl : l = 0
    · subst hl; rw [if_pos rfl]; simp [mag]
    · rw [if_neg hl]
      have hm : sg l * l = mag l := by
        unfold mag
        split
        · rename_i h; rw [sg_neg h]; omega
        · rename_i h; rw [sg_pos (by omega)]; omega
      rw [hm]
  rw [key]
  have e1 := Int.mul_ediv_add_emod (-(mag l) * 1000000000) q
  have e2 := Int.emod_nonneg (-(mag l) * 1000000000) (show q ≠ 0 by omega)
  have e3 := Int.emod_lt_of_pos (-(mag l) * 1000000000) hq
  refine ⟨-(mag l) * 1000000000 % q, e2, e3, ?_⟩
  rw [Int.neg_mul, Int.mul_comm (-(mag l) * 1000000000 / q) q]
  omega
theorem Ck.slew_math {T p A q e : Int} (h0 : 0 ≤ e) (hq : 0 ≤ q ∧ q ≤ 500000) (hAq : A = 0 ∨ 0 < q) (hd : slw A q e = A) :
    A - 2 ≤ shn T p A q e - shn T p 0 0 e ∧ shn T p A q e - shn T p 0 0 e ≤ A + 1 := by
  rw [shn_zero]
  unfold shn
  rw [if_pos hd]
  rcases hAq with rfl | hq0
  · rw [ln_zero, cnt_nil, show e - 0 = e by omega]; omega
  · obtain ⟨d, d0, d1, hdq⟩ := ln_rate (l := A) hq0
    obtain ⟨n, hn⟩ : ∃ n, ln A q = n := ⟨_, rfl⟩
    rw [hn] at hdq ⊢
    unfold cnt
    have hs : e * p = n * p + (e - n) * p := by rw [Int.sub_mul]; omega
    obtain ⟨X, hX⟩ : ∃ X, n * p = X := ⟨_, rfl⟩
    obtain ⟨Y, hY⟩ : ∃ Y, (e - n) * p = Y := ⟨_, rfl⟩
    rw [hX, hY] at hs
    rw [hY, hs]
    have hm : n * (p + sg A * q) = X + sg A * (n * q) := by
      rw [Int.mul_add, hX, ← Int.mul_assoc, Int.mul_comm n (sg A), Int.mul_assoc]
    rw [hm, hdq]
    rcases Int.lt_trichotomy 0 A with h | h | h
    · rw [sg_pos h, show mag A = A from if_neg (by omega)]
      have := fl_sum X Y d d0 (by omega)
      omega
    · subst h
      rw [sg_zero, Int.zero_mul]
      have := fl_sum X Y 0 (by omega) (by omega)
      omega
    · rw [sg_neg h, show mag A = -A from if_pos h]
      have := fl_sub X Y d d0 (by omega)
      omega
/-- The law: the two clocks, later. -/
theorem Ck.slew_fin {y : St} {raw A q later : Int} (hy : Ok y) (hz : slE y raw A q = 0) (h1 : slE y raw 0 1 = 0) (hl : raw ≤ later)
    (hp : (mvS (slS y raw A q) later).l = 0) (he : mvE (slS y raw A q) later = 0) (hf : mvE (slS y raw 0 1) later = 0) :
    A - 2 ≤ (mvS (slS y raw A q) later).t - (mvS (slS y raw 0 1) later).t ∧ (mvS (slS y raw A q) later).t - (mvS (slS y raw 0 1) later).t ≤ A + 1 := by
  have e1 : slS y raw A q = slZ y raw A q := if_pos hz
  have e2 : slS y raw 0 1 = slZ y raw 0 1 := if_pos h1
  have ho := sl_ok (raw := raw) (d := A) (rate := q) hy
  obtain ⟨a0, a1, q0, q1⟩ := (slE_iff.1 hz).1
  rw [mvS_t he, mvS_t hf]
  have hL : lft (slS y raw A q) later = 0 := by
    rw [show mvS (slS y raw A q) later = mvG (slS y raw A q) later from if_pos he] at hp
    exact hp
  rw [e1] at hL ⊢
  rw [e2]
  have hd : slw A (if A = 0 then 0 else q) (later - raw) = A := by
    have : A - slw A (if A = 0 then 0 else q) (later - raw) = 0 := hL
    omega
  exact slew_math (T := at' y raw) (p := y.p) (A := A) (q := if A = 0 then 0 else q) (e := later - raw) (by omega) (by split <;> omega) (by split <;> omega) hd
set_option maxRecDepth 100000 in
set_option maxHeartbeats 2000000 in
theorem slews_no (x : St) (k r a b u : Int) (w : World) (hs : x.s ≤ 9223372036854775807) (hn : ¬ Ok ⟨x.r, x.t, x.p, 0, 0, x.s⟩) :
    Calls Try.prog 7 #[.agg #[.int .i64 x.r, .int .i64 x.t, .int .i64 x.p, .int .i64 x.l, .int .i64 x.q, .int .i64 x.s], .agg #[.int .i64 k, .int .i64 r, .int .i64 a, .int .i64 b], .int .i64 u] w fun e w' => e = .returned (.bool true) ∧ Below w.heap.size w w' := by
  have BB := Lib.hid (Below.refl w.heap.size w)
  have HS : Hid ((⟨x.r, x.t, x.p, 0, 0, x.s⟩ : St).s ≤ 9223372036854775807) := Lib.hid hs
  have HN := Lib.hid hn
  clear hs hn
  have Ns1 : Hid (KB 23 (w.alloc (.cells #[.int .i64 x.r, .int .i64 x.t, .int .i64 x.p, .int .i64 x.l, .int .i64 x.q, .int .i64 x.s] 23)) w.heap.size ⟨x.r, x.t, x.p, x.l, x.q, x.s⟩) := Lib.hid (kb_new _ w x.r x.t x.p x.l x.q x.s)
  have E1 := Lib.hid (BB.out.alloc BB.out.size (.cells #[.int .i64 x.r, .int .i64 x.t, .int .i64 x.p, .int .i64 x.l, .int .i64 x.q, .int .i64 x.s] 23))
  have hs1 := BB.out.size
  obtain ⟨S1, hS1⟩ : ∃ W, w.alloc (.cells #[.int .i64 x.r, .int .i64 x.t, .int .i64 x.p, .int .i64 x.l, .int .i64 x.q, .int .i64 x.s] 23) = W := ⟨_, rfl⟩
  have hsz1 : S1.heap.size = w.heap.size + 1 := by rw [← hS1]; simp
  have HSZ1 := Lib.hid hsz1
  have hle1 : w.heap.size < S1.heap.size := by omega
  clear hsz1
  rw [hS1] at Ns1 E1
  clear BB
  have No2 : Hid (OB 38 (S1.alloc (.cells #[.int .i64 k, .int .i64 r, .int .i64 a, .int .i64 b] 38)) S1.heap.size k r a b) := Lib.hid (ob_new _ S1 k r a b)
  have ls2 := Ns1.out.lt
  have Ns2 := Lib.hid (Ns1.out.alloc (.cells #[.int .i64 k, .int .i64 r, .int .i64 a, .int .i64 b] 38))
  have E2 := Lib.hid (E1.out.alloc E1.out.size (.cells #[.int .i64 k, .int .i64 r, .int .i64 a, .int .i64 b] 38))
  have hs2 := E1.out.size
  obtain ⟨S2, hS2⟩ : ∃ W, S1.alloc (.cells #[.int .i64 k, .int .i64 r, .int .i64 a, .int .i64 b] 38) = W := ⟨_, rfl⟩
  have hsz2 : S2.heap.size = S1.heap.size + 1 := by rw [← hS2]; simp
  have HSZ2 := Lib.hid hsz2
  have hle2 : S1.heap.size < S2.heap.size := by omega
  clear hsz2
  rw [hS2] at No2 Ns2 E2
  clear Ns1 E1
  obtain ⟨c3_0, c3_1, c3_2, c3_3⟩ := No2.out.cells
  obtain ⟨c4_0, c4_1, c4_2, c4_3, c4_4, c4_5⟩ := Ns2.out.cells
  have r5 := Ns2.out.cells.2.2.2.1
  have g5 := Ns2.out.thaw.2.2.2.1
  have Ns5 : Hid (KB 23 (S2.setCell ⟨w.heap.size, 3, none⟩ (.int .i64 0)) w.heap.size ⟨x.r, x.t, x.p, 0, x.q, x.s⟩) := Lib.hid (Ns2.out.set3 0)
  have No5 := Lib.hid (No2.out.other (D := w.heap.size) (i := 3) (by omega) (.int .i64 0))
  have E5 := Lib.hid (below_set (C := w.heap.size) (i := 3) E2.out (by omega) (.int .i64 0))
  obtain ⟨S5, hS5⟩ : ∃ W, S2.setCell ⟨w.heap.size, 3, none⟩ (.int .i64 0) = W := ⟨_, rfl⟩
  rw [hS5] at Ns5 No5 E5
  clear Ns2 No2 E2
  obtain ⟨c6_0, c6_1, c6_2, c6_3, c6_4, c6_5⟩ := Ns5.out.cells
  have r7 := Ns5.out.cells.2.2.2.2.1
  have g7 := Ns5.out.thaw.2.2.2.2.1
  have Ns7 : Hid (KB 23 (S5.setCell ⟨w.heap.size, 4, none⟩ (.int .i64 0)) w.heap.size ⟨x.r, x.t, x.p, 0, 0, x.s⟩) := Lib.hid (Ns5.out.set4 0)
  have No7 := Lib.hid (No5.out.other (D := w.heap.size) (i := 4) (by omega) (.int .i64 0))
  have E7 := Lib.hid (below_set (C := w.heap.size) (i := 4) E5.out (by omega) (.int .i64 0))
  obtain ⟨S7, hS7⟩ : ∃ W, S5.setCell ⟨w.heap.size, 4, none⟩ (.int .i64 0) = W := ⟨_, rfl⟩
  rw [hS7] at Ns7 No7 E7
  clear Ns5 No5 E5
  obtain ⟨c8_0, c8_1, c8_2, c8_3, c8_4, c8_5⟩ := Ns7.out.cells
  obtain ⟨c9_0, c9_1, c9_2, c9_3⟩ := No7.out.cells
  go_enter Try.func7, Try.ntmps7
  go_wp2_with fail
  go_region_held3 (fun w' => w'.cell? ⟨w.heap.size, 0, none⟩ = some (.int .i64 x.r) ∧ w'.cell? ⟨w.heap.size, 1, none⟩ = some (.int .i64 x.t) ∧ w'.cell? ⟨w.heap.size, 2, none⟩ = some (.int .i64 x.p) ∧ w'.cell? ⟨w.heap.size, 3, none⟩ = some (.int .i64 0) ∧ w'.cell? ⟨w.heap.size, 4, none⟩ = some (.int .i64 0) ∧ w'.cell? ⟨w.heap.size, 5, none⟩ = some (.int .i64 x.s)) (go_keep)
      (first
        | (go_at_call 11; refine (of_no ⟨x.r, x.t, x.p, 0, 0, x.s⟩ _ HS.out HN.out).mono ?_; rintro e w10 ⟨rfl, hb⟩; have hb : Below S7.heap.size S7 w10 := ⟨hb.os, hb.tape, hb.output, hb.size, hb.block⟩; have Xs10 := Lib.hid (Ns7.out.below hb Ns7.out.lt); obtain ⟨cs10_0, cs10_1, cs10_2, cs10_3, cs10_4, cs10_5⟩ := Xs10.out.cells; have Xo10 := Lib.hid (No7.out.below hb No7.out.lt); have B10 := Lib.hid (E7.out.trans (hb.mono E7.out.size)); have hz10 := hb.size; clear hb Ns7 No7 E7)
        | (go_at_call 11; refine (of_no ⟨x.r, x.t, x.p, 0, 0, x.s⟩ _ HS.out HN.out).mono ?_; rintro e w11 ⟨rfl, hb⟩; have Xs11 := Lib.hid (Xs10.out.below hb Xs10.out.lt); obtain ⟨cs11_0, cs11_1, cs11_2, cs11_3, cs11_4, cs11_5⟩ := Xs11.out.cells; have Xo11 := Lib.hid (Xo10.out.below hb Xo10.out.lt); have B11 := Lib.hid (B10.out.trans (hb.mono B10.out.size)); have hz11 := hb.size; clear hb Xs10 Xo10 B10))
  clear hS1 hS2 c3_0 c3_1 c3_2 c3_3 c4_0 c4_1 c4_2 c4_3 c4_4 c4_5 r5 g5 hS5 c6_0 c6_1 c6_2 c6_3 c6_4 c6_5 r7 g7 hS7 c8_0 c8_1 c8_2 c8_3 c8_4 c8_5 c9_0 c9_1 c9_2 c9_3
  go_wp2_with fail
  refine (awake10_any _).mono ?_
  rintro e w12 ⟨rfl, hb⟩
  have Xs12 := Lib.hid (Xs11.out.below hb Xs11.out.lt)
  have Xo12 := Lib.hid (Xo11.out.below hb Xo11.out.lt)
  have B12 := Lib.hid (B11.out.trans (hb.mono B11.out.size))
  have hz12 := hb.size
  clear hb Xs11 Xo11 B11
  go_wp2_with fail
  go_ret
  exact ⟨rfl, B12.out⟩
set_option maxRecDepth 100000 in
set_option maxHeartbeats 2000000 in
theorem slews_refused (x : St) (k r a b u : Int) (w : World) (hx : Ok ⟨x.r, x.t, x.p, 0, 0, x.s⟩) (h1 : ¬ slE ⟨x.r, x.t, x.p, 0, 0, x.s⟩ r a b = 0) :
    Calls Try.prog 7 #[.agg #[.int .i64 x.r, .int .i64 x.t, .int .i64 x.p, .int .i64 x.l, .int .i64 x.q, .int .i64 x.s], .agg #[.int .i64 k, .int .i64 r, .int .i64 a, .int .i64 b], .int .i64 u] w fun e w' => e = .returned (.bool true) ∧ Below w.heap.size w w' := by
  have BB := Lib.hid (Below.refl w.heap.size w)
  have HOK := Lib.hid hx
  obtain ⟨y, hy⟩ : ∃ y, slS ⟨x.r, x.t, x.p, 0, 0, x.s⟩ r a b = y := ⟨_, rfl⟩
  have Hy := Lib.hid hy
  obtain ⟨n1, hn1⟩ : ∃ n1, slE ⟨x.r, x.t, x.p, 0, 0, x.s⟩ r a b = n1 := ⟨_, rfl⟩
  rw [hn1] at h1
  have q0 : (n1 != 0) = true := by simpa using h1
  have HE1 := Lib.hid hn1
  clear hx hy h1 hn1
  have Ns1 : Hid (KB 23 (w.alloc (.cells #[.int .i64 x.r, .int .i64 x.t, .int .i64 x.p, .int .i64 x.l, .int .i64 x.q, .int .i64 x.s] 23)) w.heap.size ⟨x.r, x.t, x.p, x.l, x.q, x.s⟩) := Lib.hid (kb_new _ w x.r x.t x.p x.l x.q x.s)
  have E1 := Lib.hid (BB.out.alloc BB.out.size (.cells #[.int .i64 x.r, .int .i64 x.t, .int .i64 x.p, .int .i64 x.l, .int .i64 x.q, .int .i64 x.s] 23))
  have hs1 := BB.out.size
  obtain ⟨S1, hS1⟩ : ∃ W, w.alloc (.cells #[.int .i64 x.r, .int .i64 x.t, .int .i64 x.p, .int .i64 x.l, .int .i64 x.q, .int .i64 x.s] 23) = W := ⟨_, rfl⟩
  have hsz1 : S1.heap.size = w.heap.size + 1 := by rw [← hS1]; simp
  have HSZ1 := Lib.hid hsz1
  have hle1 : w.heap.size < S1.heap.size := by omega
  clear hsz1
  rw [hS1] at Ns1 E1
  clear BB
  have No2 : Hid (OB 38 (S1.alloc (.cells #[.int .i64 k, .int .i64 r, .int .i64 a, .int .i64 b] 38)) S1.heap.size k r a b) := Lib.hid (ob_new _ S1 k r a b)
  have ls2 := Ns1.out.lt
  have Ns2 := Lib.hid (Ns1.out.alloc (.cells #[.int .i64 k, .int .i64 r, .int .i64 a, .int .i64 b] 38))
  have E2 := Lib.hid (E1.out.alloc E1.out.size (.cells #[.int .i64 k, .int .i64 r, .int .i64 a, .int .i64 b] 38))
  have hs2 := E1.out.size
  obtain ⟨S2, hS2⟩ : ∃ W, S1.alloc (.cells #[.int .i64 k, .int .i64 r, .int .i64 a, .int .i64 b] 38) = W := ⟨_, rfl⟩
  have hsz2 : S2.heap.size = S1.heap.size + 1 := by rw [← hS2]; simp
  have HSZ2 := Lib.hid hsz2
  have hle2 : S1.heap.size < S2.heap.size := by omega
  clear hsz2
  rw [hS2] at No2 Ns2 E2
  clear Ns1 E1
  obtain ⟨c3_0, c3_1, c3_2, c3_3⟩ := No2.out.cells
  obtain ⟨c4_0, c4_1, c4_2, c4_3, c4_4, c4_5⟩ := Ns2.out.cells
  have r5 := Ns2.out.cells.2.2.2.1
  have g5 := Ns2.out.thaw.2.2.2.1
  have Ns5 : Hid (KB 23 (S2.setCell ⟨w.heap.size, 3, none⟩ (.int .i64 0)) w.heap.size ⟨x.r, x.t, x.p, 0, x.q, x.s⟩) := Lib.hid (Ns2.out.set3 0)
  have No5 := Lib.hid (No2.out.other (D := w.heap.size) (i := 3) (by omega) (.int .i64 0))
  have E5 := Lib.hid (below_set (C := w.heap.size) (i := 3) E2.out (by omega) (.int .i64 0))
  obtain ⟨S5, hS5⟩ : ∃ W, S2.setCell ⟨w.heap.size, 3, none⟩ (.int .i64 0) = W := ⟨_, rfl⟩
  rw [hS5] at Ns5 No5 E5
  clear Ns2 No2 E2
  obtain ⟨c6_0, c6_1, c6_2, c6_3, c6_4, c6_5⟩ := Ns5.out.cells
  have r7 := Ns5.out.cells.2.2.2.2.1
  have g7 := Ns5.out.thaw.2.2.2.2.1
  have Ns7 : Hid (KB 23 (S5.setCell ⟨w.heap.size, 4, none⟩ (.int .i64 0)) w.heap.size ⟨x.r, x.t, x.p, 0, 0, x.s⟩) := Lib.hid (Ns5.out.set4 0)
  have No7 := Lib.hid (No5.out.other (D := w.heap.size) (i := 4) (by omega) (.int .i64 0))
  have E7 := Lib.hid (below_set (C := w.heap.size) (i := 4) E5.out (by omega) (.int .i64 0))
  obtain ⟨S7, hS7⟩ : ∃ W, S5.setCell ⟨w.heap.size, 4, none⟩ (.int .i64 0) = W := ⟨_, rfl⟩
  rw [hS7] at Ns7 No7 E7
  clear Ns5 No5 E5
  obtain ⟨c8_0, c8_1, c8_2, c8_3, c8_4, c8_5⟩ := Ns7.out.cells
  obtain ⟨c9_0, c9_1, c9_2, c9_3⟩ := No7.out.cells
  go_enter Try.func7, Try.ntmps7
  go_wp2_with fail
  go_region_held3 (fun w' => w'.cell? ⟨w.heap.size, 0, none⟩ = some (.int .i64 x.r) ∧ w'.cell? ⟨w.heap.size, 1, none⟩ = some (.int .i64 x.t) ∧ w'.cell? ⟨w.heap.size, 2, none⟩ = some (.int .i64 x.p) ∧ w'.cell? ⟨w.heap.size, 3, none⟩ = some (.int .i64 0) ∧ w'.cell? ⟨w.heap.size, 4, none⟩ = some (.int .i64 0) ∧ w'.cell? ⟨w.heap.size, 5, none⟩ = some (.int .i64 x.s)) (go_keep)
      (first
        | (go_at_call 11; refine (of_yes ⟨x.r, x.t, x.p, 0, 0, x.s⟩ _ HOK.out).mono ?_; rintro e w10 ⟨c, rfl, hge10, hkb, hb⟩; have hb : Below S7.heap.size S7 w10 := ⟨hb.os, hb.tape, hb.output, hb.size, hb.block⟩; have hge10 : S7.heap.size ≤ c := hge10; have Xs10 := Lib.hid (Ns7.out.below hb Ns7.out.lt); have nes10 : w.heap.size < c := Nat.lt_of_lt_of_le Ns7.out.lt hge10; obtain ⟨cs10_0, cs10_1, cs10_2, cs10_3, cs10_4, cs10_5⟩ := Xs10.out.cells; have Xo10 := Lib.hid (No7.out.below hb No7.out.lt); have neo10 : S1.heap.size < c := Nat.lt_of_lt_of_le No7.out.lt hge10; obtain ⟨co10_0, co10_1, co10_2, co10_3⟩ := Xo10.out.cells; have lw10 : w.heap.size ≤ c := Nat.le_trans E7.out.size hge10; have Xc10 := Lib.hid hkb; have B10 := Lib.hid (E7.out.trans (hb.mono E7.out.size)); clear hb hkb Ns7 No7 E7)
        | (go_at_call 11; refine (of_yes ⟨x.r, x.t, x.p, 0, 0, x.s⟩ _ HOK.out).mono ?_; rintro e w11 ⟨d, rfl, hge11, hkb, hb⟩; have Xs11 := Lib.hid (Xs10.out.below hb Xs10.out.lt); have nes11 : w.heap.size < d := Nat.lt_of_lt_of_le Xs10.out.lt hge11; obtain ⟨cs11_0, cs11_1, cs11_2, cs11_3, cs11_4, cs11_5⟩ := Xs11.out.cells; have Xo11 := Lib.hid (Xo10.out.below hb Xo10.out.lt); have neo11 : S1.heap.size < d := Nat.lt_of_lt_of_le Xo10.out.lt hge11; obtain ⟨co11_0, co11_1, co11_2, co11_3⟩ := Xo11.out.cells; have Xc11 := Lib.hid (Xc10.out.below hb Xc10.out.lt); have nec11 : c < d := Nat.lt_of_lt_of_le Xc10.out.lt hge11; have lw11 : w.heap.size ≤ d := Nat.le_trans B10.out.size hge11; have Xd11 := Lib.hid hkb; have B11 := Lib.hid (B10.out.trans (hb.mono B10.out.size)); clear hb hkb Xs10 Xo10 Xc10 B10))
  clear hS1 hS2 c3_0 c3_1 c3_2 c3_3 c4_0 c4_1 c4_2 c4_3 c4_4 c4_5 r5 g5 hS5 c6_0 c6_1 c6_2 c6_3 c6_4 c6_5 r7 g7 hS7 c8_0 c8_1 c8_2 c8_3 c8_4 c8_5 c9_0 c9_1 c9_2 c9_3
  obtain ⟨c12_0, c12_1, c12_2, c12_3⟩ := Xo11.out.cells
  go_wp2_with fail
  clear cs10_0 cs10_1 cs10_2 cs10_3 cs10_4 cs10_5 co10_0 co10_1 co10_2 co10_3 cs11_0 cs11_1 cs11_2 cs11_3 cs11_4 cs11_5 co11_0 co11_1 co11_2 co11_3 c12_0 c12_1 c12_2 c12_3
  refine (slew_any c ⟨x.r, x.t, x.p, 0, 0, x.s⟩ r a b _ HOK.out Xc11.out).mono ?_
  rintro e w13 ⟨rfl, hkb, hg⟩
  have Xc13 : Hid (KB 51 w13 c y) := Lib.hid (by rw [← Hy.out]; exact hkb)
  have Xs13 := Lib.hid (Xs11.out.grown hg (by omega))
  have Xo13 := Lib.hid (Xo11.out.grown hg (by omega))
  have Xd13 := Lib.hid (Xd11.out.grown hg (by omega))
  have B13 := Lib.hid (below_of_grown' B11.out hg (by omega) B11.out.size)
  clear hkb hg Xc11 Xs11 Xo11 Xd11 B11
  rw [HE1.out]
  obtain ⟨c14_0, c14_1, c14_2, c14_3⟩ := Xo13.out.cells
  go_wp2_with fail
  clear c14_0 c14_1 c14_2 c14_3
  refine (awake10_any _).mono ?_
  rintro e w15 ⟨rfl, hb⟩
  have Xs15 := Lib.hid (Xs13.out.below hb Xs13.out.lt)
  have Xo15 := Lib.hid (Xo13.out.below hb Xo13.out.lt)
  have Xc15 := Lib.hid (Xc13.out.below hb Xc13.out.lt)
  have Xd15 := Lib.hid (Xd13.out.below hb Xd13.out.lt)
  have B15 := Lib.hid (B13.out.trans (hb.mono B13.out.size))
  have hz15 := hb.size
  clear hb Xs13 Xo13 Xc13 Xd13 B13
  go_wp2_with fail
  go_ret
  exact ⟨rfl, B15.out⟩
set_option maxRecDepth 100000 in
set_option maxHeartbeats 2000000 in
theorem slews_before (x : St) (k r a b u : Int) (w : World) (hx : Ok ⟨x.r, x.t, x.p, 0, 0, x.s⟩) (h1 : slE ⟨x.r, x.t, x.p, 0, 0, x.s⟩ r a b = 0) (hu : u < r) :
    Calls Try.prog 7 #[.agg #[.int .i64 x.r, .int .i64 x.t, .int .i64 x.p, .int .i64 x.l, .int .i64 x.q, .int .i64 x.s], .agg #[.int .i64 k, .int .i64 r, .int .i64 a, .int .i64 b], .int .i64 u] w fun e w' => e = .returned (.bool true) ∧ Below w.heap.size w w' := by
  have BB := Lib.hid (Below.refl w.heap.size w)
  have HOK := Lib.hid hx
  obtain ⟨y, hy⟩ : ∃ y, slS ⟨x.r, x.t, x.p, 0, 0, x.s⟩ r a b = y := ⟨_, rfl⟩
  have Hy := Lib.hid hy
  have HE1 := Lib.hid h1
  have h2 : slE ⟨x.r, x.t, x.p, 0, 0, x.s⟩ r 0 1 = 0 := slE_iff.2 ⟨⟨by decide, by decide, by decide, by decide⟩, (slE_iff.1 h1).2⟩
  have HE2 := Lib.hid h2
  obtain ⟨z, hz⟩ : ∃ z, slS ⟨x.r, x.t, x.p, 0, 0, x.s⟩ r 0 1 = z := ⟨_, rfl⟩
  have Hz := Lib.hid hz
  have HYO : Hid (Ok y) := Lib.hid (by rw [← hy]; exact sl_ok hx)
  have HZO : Hid (Ok z) := Lib.hid (by rw [← hz]; exact sl_ok hx)
  have d1 : decide (u < r) = true := decide_eq_true hu
  clear hx hy hz h1 h2
  have Ns1 : Hid (KB 23 (w.alloc (.cells #[.int .i64 x.r, .int .i64 x.t, .int .i64 x.p, .int .i64 x.l, .int .i64 x.q, .int .i64 x.s] 23)) w.heap.size ⟨x.r, x.t, x.p, x.l, x.q, x.s⟩) := Lib.hid (kb_new _ w x.r x.t x.p x.l x.q x.s)
  have E1 := Lib.hid (BB.out.alloc BB.out.size (.cells #[.int .i64 x.r, .int .i64 x.t, .int .i64 x.p, .int .i64 x.l, .int .i64 x.q, .int .i64 x.s] 23))
  have hs1 := BB.out.size
  obtain ⟨S1, hS1⟩ : ∃ W, w.alloc (.cells #[.int .i64 x.r, .int .i64 x.t, .int .i64 x.p, .int .i64 x.l, .int .i64 x.q, .int .i64 x.s] 23) = W := ⟨_, rfl⟩
  have hsz1 : S1.heap.size = w.heap.size + 1 := by rw [← hS1]; simp
  have HSZ1 := Lib.hid hsz1
  have hle1 : w.heap.size < S1.heap.size := by omega
  clear hsz1
  rw [hS1] at Ns1 E1
  clear BB
  have No2 : Hid (OB 38 (S1.alloc (.cells #[.int .i64 k, .int .i64 r, .int .i64 a, .int .i64 b] 38)) S1.heap.size k r a b) := Lib.hid (ob_new _ S1 k r a b)
  have ls2 := Ns1.out.lt
  have Ns2 := Lib.hid (Ns1.out.alloc (.cells #[.int .i64 k, .int .i64 r, .int .i64 a, .int .i64 b] 38))
  have E2 := Lib.hid (E1.out.alloc E1.out.size (.cells #[.int .i64 k, .int .i64 r, .int .i64 a, .int .i64 b] 38))
  have hs2 := E1.out.size
  obtain ⟨S2, hS2⟩ : ∃ W, S1.alloc (.cells #[.int .i64 k, .int .i64 r, .int .i64 a, .int .i64 b] 38) = W := ⟨_, rfl⟩
  have hsz2 : S2.heap.size = S1.heap.size + 1 := by rw [← hS2]; simp
  have HSZ2 := Lib.hid hsz2
  have hle2 : S1.heap.size < S2.heap.size := by omega
  clear hsz2
  rw [hS2] at No2 Ns2 E2
  clear Ns1 E1
  obtain ⟨c3_0, c3_1, c3_2, c3_3⟩ := No2.out.cells
  obtain ⟨c4_0, c4_1, c4_2, c4_3, c4_4, c4_5⟩ := Ns2.out.cells
  have r5 := Ns2.out.cells.2.2.2.1
  have g5 := Ns2.out.thaw.2.2.2.1
  have Ns5 : Hid (KB 23 (S2.setCell ⟨w.heap.size, 3, none⟩ (.int .i64 0)) w.heap.size ⟨x.r, x.t, x.p, 0, x.q, x.s⟩) := Lib.hid (Ns2.out.set3 0)
  have No5 := Lib.hid (No2.out.other (D := w.heap.size) (i := 3) (by omega) (.int .i64 0))
  have E5 := Lib.hid (below_set (C := w.heap.size) (i := 3) E2.out (by omega) (.int .i64 0))
  obtain ⟨S5, hS5⟩ : ∃ W, S2.setCell ⟨w.heap.size, 3, none⟩ (.int .i64 0) = W := ⟨_, rfl⟩
  rw [hS5] at Ns5 No5 E5
  clear Ns2 No2 E2
  obtain ⟨c6_0, c6_1, c6_2, c6_3, c6_4, c6_5⟩ := Ns5.out.cells
  have r7 := Ns5.out.cells.2.2.2.2.1
  have g7 := Ns5.out.thaw.2.2.2.2.1
  have Ns7 : Hid (KB 23 (S5.setCell ⟨w.heap.size, 4, none⟩ (.int .i64 0)) w.heap.size ⟨x.r, x.t, x.p, 0, 0, x.s⟩) := Lib.hid (Ns5.out.set4 0)
  have No7 := Lib.hid (No5.out.other (D := w.heap.size) (i := 4) (by omega) (.int .i64 0))
  have E7 := Lib.hid (below_set (C := w.heap.size) (i := 4) E5.out (by omega) (.int .i64 0))
  obtain ⟨S7, hS7⟩ : ∃ W, S5.setCell ⟨w.heap.size, 4, none⟩ (.int .i64 0) = W := ⟨_, rfl⟩
  rw [hS7] at Ns7 No7 E7
  clear Ns5 No5 E5
  obtain ⟨c8_0, c8_1, c8_2, c8_3, c8_4, c8_5⟩ := Ns7.out.cells
  obtain ⟨c9_0, c9_1, c9_2, c9_3⟩ := No7.out.cells
  go_enter Try.func7, Try.ntmps7
  go_wp2_with fail
  go_region_held3 (fun w' => w'.cell? ⟨w.heap.size, 0, none⟩ = some (.int .i64 x.r) ∧ w'.cell? ⟨w.heap.size, 1, none⟩ = some (.int .i64 x.t) ∧ w'.cell? ⟨w.heap.size, 2, none⟩ = some (.int .i64 x.p) ∧ w'.cell? ⟨w.heap.size, 3, none⟩ = some (.int .i64 0) ∧ w'.cell? ⟨w.heap.size, 4, none⟩ = some (.int .i64 0) ∧ w'.cell? ⟨w.heap.size, 5, none⟩ = some (.int .i64 x.s)) (go_keep)
      (first
        | (go_at_call 11; refine (of_yes ⟨x.r, x.t, x.p, 0, 0, x.s⟩ _ HOK.out).mono ?_; rintro e w10 ⟨c, rfl, hge10, hkb, hb⟩; have hb : Below S7.heap.size S7 w10 := ⟨hb.os, hb.tape, hb.output, hb.size, hb.block⟩; have hge10 : S7.heap.size ≤ c := hge10; have Xs10 := Lib.hid (Ns7.out.below hb Ns7.out.lt); have nes10 : w.heap.size < c := Nat.lt_of_lt_of_le Ns7.out.lt hge10; obtain ⟨cs10_0, cs10_1, cs10_2, cs10_3, cs10_4, cs10_5⟩ := Xs10.out.cells; have Xo10 := Lib.hid (No7.out.below hb No7.out.lt); have neo10 : S1.heap.size < c := Nat.lt_of_lt_of_le No7.out.lt hge10; obtain ⟨co10_0, co10_1, co10_2, co10_3⟩ := Xo10.out.cells; have lw10 : w.heap.size ≤ c := Nat.le_trans E7.out.size hge10; have Xc10 := Lib.hid hkb; have B10 := Lib.hid (E7.out.trans (hb.mono E7.out.size)); clear hb hkb Ns7 No7 E7)
        | (go_at_call 11; refine (of_yes ⟨x.r, x.t, x.p, 0, 0, x.s⟩ _ HOK.out).mono ?_; rintro e w11 ⟨d, rfl, hge11, hkb, hb⟩; have Xs11 := Lib.hid (Xs10.out.below hb Xs10.out.lt); have nes11 : w.heap.size < d := Nat.lt_of_lt_of_le Xs10.out.lt hge11; obtain ⟨cs11_0, cs11_1, cs11_2, cs11_3, cs11_4, cs11_5⟩ := Xs11.out.cells; have Xo11 := Lib.hid (Xo10.out.below hb Xo10.out.lt); have neo11 : S1.heap.size < d := Nat.lt_of_lt_of_le Xo10.out.lt hge11; obtain ⟨co11_0, co11_1, co11_2, co11_3⟩ := Xo11.out.cells; have Xc11 := Lib.hid (Xc10.out.below hb Xc10.out.lt); have nec11 : c < d := Nat.lt_of_lt_of_le Xc10.out.lt hge11; have lw11 : w.heap.size ≤ d := Nat.le_trans B10.out.size hge11; have Xd11 := Lib.hid hkb; have B11 := Lib.hid (B10.out.trans (hb.mono B10.out.size)); clear hb hkb Xs10 Xo10 Xc10 B10))
  clear hS1 hS2 c3_0 c3_1 c3_2 c3_3 c4_0 c4_1 c4_2 c4_3 c4_4 c4_5 r5 g5 hS5 c6_0 c6_1 c6_2 c6_3 c6_4 c6_5 r7 g7 hS7 c8_0 c8_1 c8_2 c8_3 c8_4 c8_5 c9_0 c9_1 c9_2 c9_3
  obtain ⟨c12_0, c12_1, c12_2, c12_3⟩ := Xo11.out.cells
  go_wp2_with fail
  clear cs10_0 cs10_1 cs10_2 cs10_3 cs10_4 cs10_5 co10_0 co10_1 co10_2 co10_3 cs11_0 cs11_1 cs11_2 cs11_3 cs11_4 cs11_5 co11_0 co11_1 co11_2 co11_3 c12_0 c12_1 c12_2 c12_3
  refine (slew_any c ⟨x.r, x.t, x.p, 0, 0, x.s⟩ r a b _ HOK.out Xc11.out).mono ?_
  rintro e w13 ⟨rfl, hkb, hg⟩
  have Xc13 : Hid (KB 51 w13 c y) := Lib.hid (by rw [← Hy.out]; exact hkb)
  have Xs13 := Lib.hid (Xs11.out.grown hg (by omega))
  have Xo13 := Lib.hid (Xo11.out.grown hg (by omega))
  have Xd13 := Lib.hid (Xd11.out.grown hg (by omega))
  have B13 := Lib.hid (below_of_grown' B11.out hg (by omega) B11.out.size)
  clear hkb hg Xc11 Xs11 Xo11 Xd11 B11
  rw [HE1.out]
  obtain ⟨c14_0, c14_1, c14_2, c14_3⟩ := Xo13.out.cells
  go_wp2_with fail
  clear c14_0 c14_1 c14_2 c14_3
  refine (slew_any d ⟨x.r, x.t, x.p, 0, 0, x.s⟩ r 0 1 _ HOK.out Xd13.out).mono ?_
  rintro e w15 ⟨rfl, hkb, hg⟩
  have Xd15 : Hid (KB 51 w15 d z) := Lib.hid (by rw [← Hz.out]; exact hkb)
  have Xs15 := Lib.hid (Xs13.out.grown hg (by omega))
  have Xo15 := Lib.hid (Xo13.out.grown hg (by omega))
  have Xc15 := Lib.hid (Xc13.out.grown hg (by omega))
  have B15 := Lib.hid (below_of_grown' B13.out hg (by omega) B13.out.size)
  clear hkb hg Xd13 Xs13 Xo13 Xc13 B13
  rw [HE2.out]
  obtain ⟨c16_0, c16_1, c16_2, c16_3⟩ := Xo15.out.cells
  go_wp2_with fail
  clear c16_0 c16_1 c16_2 c16_3
  refine (awake10_any _).mono ?_
  rintro e w17 ⟨rfl, hb⟩
  have Xs17 := Lib.hid (Xs15.out.below hb Xs15.out.lt)
  have Xo17 := Lib.hid (Xo15.out.below hb Xo15.out.lt)
  have Xc17 := Lib.hid (Xc15.out.below hb Xc15.out.lt)
  have Xd17 := Lib.hid (Xd15.out.below hb Xd15.out.lt)
  have B17 := Lib.hid (B15.out.trans (hb.mono B15.out.size))
  have hz17 := hb.size
  clear hb Xs15 Xo15 Xc15 Xd15 B15
  go_wp2_with fail
  go_ret
  exact ⟨rfl, B17.out⟩
set_option maxRecDepth 100000 in
set_option maxHeartbeats 2000000 in
theorem slews_pending (x : St) (k r a b u : Int) (w : World) (hx : Ok ⟨x.r, x.t, x.p, 0, 0, x.s⟩) (h1 : slE ⟨x.r, x.t, x.p, 0, 0, x.s⟩ r a b = 0) (hu : ¬ u < r) (h3 : ¬ (mvS (slS ⟨x.r, x.t, x.p, 0, 0, x.s⟩ r a b) u).l = 0) :
    Calls Try.prog 7 #[.agg #[.int .i64 x.r, .int .i64 x.t, .int .i64 x.p, .int .i64 x.l, .int .i64 x.q, .int .i64 x.s], .agg #[.int .i64 k, .int .i64 r, .int .i64 a, .int .i64 b], .int .i64 u] w fun e w' => e = .returned (.bool true) ∧ Below w.heap.size w w' := by
  have BB := Lib.hid (Below.refl w.heap.size w)
  have HOK := Lib.hid hx
  obtain ⟨y, hy⟩ : ∃ y, slS ⟨x.r, x.t, x.p, 0, 0, x.s⟩ r a b = y := ⟨_, rfl⟩
  have Hy := Lib.hid hy
  have HE1 := Lib.hid h1
  have h2 : slE ⟨x.r, x.t, x.p, 0, 0, x.s⟩ r 0 1 = 0 := slE_iff.2 ⟨⟨by decide, by decide, by decide, by decide⟩, (slE_iff.1 h1).2⟩
  have HE2 := Lib.hid h2
  obtain ⟨z, hz⟩ : ∃ z, slS ⟨x.r, x.t, x.p, 0, 0, x.s⟩ r 0 1 = z := ⟨_, rfl⟩
  have Hz := Lib.hid hz
  have HYO : Hid (Ok y) := Lib.hid (by rw [← hy]; exact sl_ok hx)
  have HZO : Hid (Ok z) := Lib.hid (by rw [← hz]; exact sl_ok hx)
  have d1 : decide (u < r) = false := decide_eq_false hu
  rw [hy] at h3
  obtain ⟨l1, hl1⟩ : ∃ l1, (mvS y u).l = l1 := ⟨_, rfl⟩
  rw [hl1] at h3
  have q0 : (l1 != 0) = true := by simpa using h3
  have HL := Lib.hid hl1
  clear hx hy hz h1 h2 h3 hl1
  have Ns1 : Hid (KB 23 (w.alloc (.cells #[.int .i64 x.r, .int .i64 x.t, .int .i64 x.p, .int .i64 x.l, .int .i64 x.q, .int .i64 x.s] 23)) w.heap.size ⟨x.r, x.t, x.p, x.l, x.q, x.s⟩) := Lib.hid (kb_new _ w x.r x.t x.p x.l x.q x.s)
  have E1 := Lib.hid (BB.out.alloc BB.out.size (.cells #[.int .i64 x.r, .int .i64 x.t, .int .i64 x.p, .int .i64 x.l, .int .i64 x.q, .int .i64 x.s] 23))
  have hs1 := BB.out.size
  obtain ⟨S1, hS1⟩ : ∃ W, w.alloc (.cells #[.int .i64 x.r, .int .i64 x.t, .int .i64 x.p, .int .i64 x.l, .int .i64 x.q, .int .i64 x.s] 23) = W := ⟨_, rfl⟩
  have hsz1 : S1.heap.size = w.heap.size + 1 := by rw [← hS1]; simp
  have HSZ1 := Lib.hid hsz1
  have hle1 : w.heap.size < S1.heap.size := by omega
  clear hsz1
  rw [hS1] at Ns1 E1
  clear BB
  have No2 : Hid (OB 38 (S1.alloc (.cells #[.int .i64 k, .int .i64 r, .int .i64 a, .int .i64 b] 38)) S1.heap.size k r a b) := Lib.hid (ob_new _ S1 k r a b)
  have ls2 := Ns1.out.lt
  have Ns2 := Lib.hid (Ns1.out.alloc (.cells #[.int .i64 k, .int .i64 r, .int .i64 a, .int .i64 b] 38))
  have E2 := Lib.hid (E1.out.alloc E1.out.size (.cells #[.int .i64 k, .int .i64 r, .int .i64 a, .int .i64 b] 38))
  have hs2 := E1.out.size
  obtain ⟨S2, hS2⟩ : ∃ W, S1.alloc (.cells #[.int .i64 k, .int .i64 r, .int .i64 a, .int .i64 b] 38) = W := ⟨_, rfl⟩
  have hsz2 : S2.heap.size = S1.heap.size + 1 := by rw [← hS2]; simp
  have HSZ2 := Lib.hid hsz2
  have hle2 : S1.heap.size < S2.heap.size := by omega
  clear hsz2
  rw [hS2] at No2 Ns2 E2
  clear Ns1 E1
  obtain ⟨c3_0, c3_1, c3_2, c3_3⟩ := No2.out.cells
  obtain ⟨c4_0, c4_1, c4_2, c4_3, c4_4, c4_5⟩ := Ns2.out.cells
  have r5 := Ns2.out.cells.2.2.2.1
  have g5 := Ns2.out.thaw.2.2.2.1
  have Ns5 : Hid (KB 23 (S2.setCell ⟨w.heap.size, 3, none⟩ (.int .i64 0)) w.heap.size ⟨x.r, x.t, x.p, 0, x.q, x.s⟩) := Lib.hid (Ns2.out.set3 0)
  have No5 := Lib.hid (No2.out.other (D := w.heap.size) (i := 3) (by omega) (.int .i64 0))
  have E5 := Lib.hid (below_set (C := w.heap.size) (i := 3) E2.out (by omega) (.int .i64 0))
  obtain ⟨S5, hS5⟩ : ∃ W, S2.setCell ⟨w.heap.size, 3, none⟩ (.int .i64 0) = W := ⟨_, rfl⟩
  rw [hS5] at Ns5 No5 E5
  clear Ns2 No2 E2
  obtain ⟨c6_0, c6_1, c6_2, c6_3, c6_4, c6_5⟩ := Ns5.out.cells
  have r7 := Ns5.out.cells.2.2.2.2.1
  have g7 := Ns5.out.thaw.2.2.2.2.1
  have Ns7 : Hid (KB 23 (S5.setCell ⟨w.heap.size, 4, none⟩ (.int .i64 0)) w.heap.size ⟨x.r, x.t, x.p, 0, 0, x.s⟩) := Lib.hid (Ns5.out.set4 0)
  have No7 := Lib.hid (No5.out.other (D := w.heap.size) (i := 4) (by omega) (.int .i64 0))
  have E7 := Lib.hid (below_set (C := w.heap.size) (i := 4) E5.out (by omega) (.int .i64 0))
  obtain ⟨S7, hS7⟩ : ∃ W, S5.setCell ⟨w.heap.size, 4, none⟩ (.int .i64 0) = W := ⟨_, rfl⟩
  rw [hS7] at Ns7 No7 E7
  clear Ns5 No5 E5
  obtain ⟨c8_0, c8_1, c8_2, c8_3, c8_4, c8_5⟩ := Ns7.out.cells
  obtain ⟨c9_0, c9_1, c9_2, c9_3⟩ := No7.out.cells
  go_enter Try.func7, Try.ntmps7
  go_wp2_with fail
  go_region_held3 (fun w' => w'.cell? ⟨w.heap.size, 0, none⟩ = some (.int .i64 x.r) ∧ w'.cell? ⟨w.heap.size, 1, none⟩ = some (.int .i64 x.t) ∧ w'.cell? ⟨w.heap.size, 2, none⟩ = some (.int .i64 x.p) ∧ w'.cell? ⟨w.heap.size, 3, none⟩ = some (.int .i64 0) ∧ w'.cell? ⟨w.heap.size, 4, none⟩ = some (.int .i64 0) ∧ w'.cell? ⟨w.heap.size, 5, none⟩ = some (.int .i64 x.s)) (go_keep)
      (first
        | (go_at_call 11; refine (of_yes ⟨x.r, x.t, x.p, 0, 0, x.s⟩ _ HOK.out).mono ?_; rintro e w10 ⟨c, rfl, hge10, hkb, hb⟩; have hb : Below S7.heap.size S7 w10 := ⟨hb.os, hb.tape, hb.output, hb.size, hb.block⟩; have hge10 : S7.heap.size ≤ c := hge10; have Xs10 := Lib.hid (Ns7.out.below hb Ns7.out.lt); have nes10 : w.heap.size < c := Nat.lt_of_lt_of_le Ns7.out.lt hge10; obtain ⟨cs10_0, cs10_1, cs10_2, cs10_3, cs10_4, cs10_5⟩ := Xs10.out.cells; have Xo10 := Lib.hid (No7.out.below hb No7.out.lt); have neo10 : S1.heap.size < c := Nat.lt_of_lt_of_le No7.out.lt hge10; obtain ⟨co10_0, co10_1, co10_2, co10_3⟩ := Xo10.out.cells; have lw10 : w.heap.size ≤ c := Nat.le_trans E7.out.size hge10; have Xc10 := Lib.hid hkb; have B10 := Lib.hid (E7.out.trans (hb.mono E7.out.size)); clear hb hkb Ns7 No7 E7)
        | (go_at_call 11; refine (of_yes ⟨x.r, x.t, x.p, 0, 0, x.s⟩ _ HOK.out).mono ?_; rintro e w11 ⟨d, rfl, hge11, hkb, hb⟩; have Xs11 := Lib.hid (Xs10.out.below hb Xs10.out.lt); have nes11 : w.heap.size < d := Nat.lt_of_lt_of_le Xs10.out.lt hge11; obtain ⟨cs11_0, cs11_1, cs11_2, cs11_3, cs11_4, cs11_5⟩ := Xs11.out.cells; have Xo11 := Lib.hid (Xo10.out.below hb Xo10.out.lt); have neo11 : S1.heap.size < d := Nat.lt_of_lt_of_le Xo10.out.lt hge11; obtain ⟨co11_0, co11_1, co11_2, co11_3⟩ := Xo11.out.cells; have Xc11 := Lib.hid (Xc10.out.below hb Xc10.out.lt); have nec11 : c < d := Nat.lt_of_lt_of_le Xc10.out.lt hge11; have lw11 : w.heap.size ≤ d := Nat.le_trans B10.out.size hge11; have Xd11 := Lib.hid hkb; have B11 := Lib.hid (B10.out.trans (hb.mono B10.out.size)); clear hb hkb Xs10 Xo10 Xc10 B10))
  clear hS1 hS2 c3_0 c3_1 c3_2 c3_3 c4_0 c4_1 c4_2 c4_3 c4_4 c4_5 r5 g5 hS5 c6_0 c6_1 c6_2 c6_3 c6_4 c6_5 r7 g7 hS7 c8_0 c8_1 c8_2 c8_3 c8_4 c8_5 c9_0 c9_1 c9_2 c9_3
  obtain ⟨c12_0, c12_1, c12_2, c12_3⟩ := Xo11.out.cells
  go_wp2_with fail
  clear cs10_0 cs10_1 cs10_2 cs10_3 cs10_4 cs10_5 co10_0 co10_1 co10_2 co10_3 cs11_0 cs11_1 cs11_2 cs11_3 cs11_4 cs11_5 co11_0 co11_1 co11_2 co11_3 c12_0 c12_1 c12_2 c12_3
  refine (slew_any c ⟨x.r, x.t, x.p, 0, 0, x.s⟩ r a b _ HOK.out Xc11.out).mono ?_
  rintro e w13 ⟨rfl, hkb, hg⟩
  have Xc13 : Hid (KB 51 w13 c y) := Lib.hid (by rw [← Hy.out]; exact hkb)
  have Xs13 := Lib.hid (Xs11.out.grown hg (by omega))
  have Xo13 := Lib.hid (Xo11.out.grown hg (by omega))
  have Xd13 := Lib.hid (Xd11.out.grown hg (by omega))
  have B13 := Lib.hid (below_of_grown' B11.out hg (by omega) B11.out.size)
  clear hkb hg Xc11 Xs11 Xo11 Xd11 B11
  rw [HE1.out]
  obtain ⟨c14_0, c14_1, c14_2, c14_3⟩ := Xo13.out.cells
  go_wp2_with fail
  clear c14_0 c14_1 c14_2 c14_3
  refine (slew_any d ⟨x.r, x.t, x.p, 0, 0, x.s⟩ r 0 1 _ HOK.out Xd13.out).mono ?_
  rintro e w15 ⟨rfl, hkb, hg⟩
  have Xd15 : Hid (KB 51 w15 d z) := Lib.hid (by rw [← Hz.out]; exact hkb)
  have Xs15 := Lib.hid (Xs13.out.grown hg (by omega))
  have Xo15 := Lib.hid (Xo13.out.grown hg (by omega))
  have Xc15 := Lib.hid (Xc13.out.grown hg (by omega))
  have B15 := Lib.hid (below_of_grown' B13.out hg (by omega) B13.out.size)
  clear hkb hg Xd13 Xs13 Xo13 Xc13 B13
  rw [HE2.out]
  obtain ⟨c16_0, c16_1, c16_2, c16_3⟩ := Xo15.out.cells
  go_wp2_with fail
  clear c16_0 c16_1 c16_2 c16_3
  refine (pend_any c y u _ HYO.out Xc15.out).mono ?_
  rintro e w17 ⟨rfl, hb⟩
  have Xs17 := Lib.hid (Xs15.out.below hb Xs15.out.lt)
  have Xo17 := Lib.hid (Xo15.out.below hb Xo15.out.lt)
  have Xc17 := Lib.hid (Xc15.out.below hb Xc15.out.lt)
  have Xd17 := Lib.hid (Xd15.out.below hb Xd15.out.lt)
  have B17 := Lib.hid (B15.out.trans (hb.mono B15.out.size))
  have hz17 := hb.size
  clear hb Xs15 Xo15 Xc15 Xd15 B15
  obtain ⟨c18_0, c18_1, c18_2, c18_3⟩ := Xo17.out.cells
  rw [HL.out]
  go_wp2_with fail
  clear c18_0 c18_1 c18_2 c18_3
  refine (awake10_any _).mono ?_
  rintro e w19 ⟨rfl, hb⟩
  have Xs19 := Lib.hid (Xs17.out.below hb Xs17.out.lt)
  have Xo19 := Lib.hid (Xo17.out.below hb Xo17.out.lt)
  have Xc19 := Lib.hid (Xc17.out.below hb Xc17.out.lt)
  have Xd19 := Lib.hid (Xd17.out.below hb Xd17.out.lt)
  have B19 := Lib.hid (B17.out.trans (hb.mono B17.out.size))
  have hz19 := hb.size
  clear hb Xs17 Xo17 Xc17 Xd17 B17
  go_wp2_with fail
  go_ret
  exact ⟨rfl, B19.out⟩
set_option maxRecDepth 100000 in
set_option maxHeartbeats 2000000 in
theorem slews_errA (x : St) (k r a b u : Int) (w : World) (hx : Ok ⟨x.r, x.t, x.p, 0, 0, x.s⟩) (h1 : slE ⟨x.r, x.t, x.p, 0, 0, x.s⟩ r a b = 0) (hu : ¬ u < r) (h3 : (mvS (slS ⟨x.r, x.t, x.p, 0, 0, x.s⟩ r a b) u).l = 0) (h4 : ¬ mvE (slS ⟨x.r, x.t, x.p, 0, 0, x.s⟩ r a b) u = 0) :
    Calls Try.prog 7 #[.agg #[.int .i64 x.r, .int .i64 x.t, .int .i64 x.p, .int .i64 x.l, .int .i64 x.q, .int .i64 x.s], .agg #[.int .i64 k, .int .i64 r, .int .i64 a, .int .i64 b], .int .i64 u] w fun e w' => e = .returned (.bool true) ∧ Below w.heap.size w w' := by
  have BB := Lib.hid (Below.refl w.heap.size w)
  have HOK := Lib.hid hx
  obtain ⟨y, hy⟩ : ∃ y, slS ⟨x.r, x.t, x.p, 0, 0, x.s⟩ r a b = y := ⟨_, rfl⟩
  have Hy := Lib.hid hy
  have HE1 := Lib.hid h1
  have h2 : slE ⟨x.r, x.t, x.p, 0, 0, x.s⟩ r 0 1 = 0 := slE_iff.2 ⟨⟨by decide, by decide, by decide, by decide⟩, (slE_iff.1 h1).2⟩
  have HE2 := Lib.hid h2
  obtain ⟨z, hz⟩ : ∃ z, slS ⟨x.r, x.t, x.p, 0, 0, x.s⟩ r 0 1 = z := ⟨_, rfl⟩
  have Hz := Lib.hid hz
  have HYO : Hid (Ok y) := Lib.hid (by rw [← hy]; exact sl_ok hx)
  have HZO : Hid (Ok z) := Lib.hid (by rw [← hz]; exact sl_ok hx)
  have d1 : decide (u < r) = false := decide_eq_false hu
  rw [hy] at h3
  have HL := Lib.hid h3
  obtain ⟨t1, ht1⟩ : ∃ t1, (mvS y u).t = t1 := ⟨_, rfl⟩
  have HT1 := Lib.hid ht1
  obtain ⟨t2, ht2⟩ : ∃ t2, (mvS z u).t = t2 := ⟨_, rfl⟩
  have HT2 := Lib.hid ht2
  rw [hy] at h4
  obtain ⟨m1, hm1⟩ : ∃ m1, mvE y u = m1 := ⟨_, rfl⟩
  rw [hm1] at h4
  have q0 : (m1 != 0) = true := by simpa using h4
  have HM1 := Lib.hid hm1
  obtain ⟨m2, hm2⟩ : ∃ m2, mvE z u = m2 := ⟨_, rfl⟩
  have HM2 := Lib.hid hm2
  clear hx hy hz h1 h2 h3 h4 ht1 ht2 hm1 hm2
  have Ns1 : Hid (KB 23 (w.alloc (.cells #[.int .i64 x.r, .int .i64 x.t, .int .i64 x.p, .int .i64 x.l, .int .i64 x.q, .int .i64 x.s] 23)) w.heap.size ⟨x.r, x.t, x.p, x.l, x.q, x.s⟩) := Lib.hid (kb_new _ w x.r x.t x.p x.l x.q x.s)
  have E1 := Lib.hid (BB.out.alloc BB.out.size (.cells #[.int .i64 x.r, .int .i64 x.t, .int .i64 x.p, .int .i64 x.l, .int .i64 x.q, .int .i64 x.s] 23))
  have hs1 := BB.out.size
  obtain ⟨S1, hS1⟩ : ∃ W, w.alloc (.cells #[.int .i64 x.r, .int .i64 x.t, .int .i64 x.p, .int .i64 x.l, .int .i64 x.q, .int .i64 x.s] 23) = W := ⟨_, rfl⟩
  have hsz1 : S1.heap.size = w.heap.size + 1 := by rw [← hS1]; simp
  have HSZ1 := Lib.hid hsz1
  have hle1 : w.heap.size < S1.heap.size := by omega
  clear hsz1
  rw [hS1] at Ns1 E1
  clear BB
  have No2 : Hid (OB 38 (S1.alloc (.cells #[.int .i64 k, .int .i64 r, .int .i64 a, .int .i64 b] 38)) S1.heap.size k r a b) := Lib.hid (ob_new _ S1 k r a b)
  have ls2 := Ns1.out.lt
  have Ns2 := Lib.hid (Ns1.out.alloc (.cells #[.int .i64 k, .int .i64 r, .int .i64 a, .int .i64 b] 38))
  have E2 := Lib.hid (E1.out.alloc E1.out.size (.cells #[.int .i64 k, .int .i64 r, .int .i64 a, .int .i64 b] 38))
  have hs2 := E1.out.size
  obtain ⟨S2, hS2⟩ : ∃ W, S1.alloc (.cells #[.int .i64 k, .int .i64 r, .int .i64 a, .int .i64 b] 38) = W := ⟨_, rfl⟩
  have hsz2 : S2.heap.size = S1.heap.size + 1 := by rw [← hS2]; simp
  have HSZ2 := Lib.hid hsz2
  have hle2 : S1.heap.size < S2.heap.size := by omega
  clear hsz2
  rw [hS2] at No2 Ns2 E2
  clear Ns1 E1
  obtain ⟨c3_0, c3_1, c3_2, c3_3⟩ := No2.out.cells
  obtain ⟨c4_0, c4_1, c4_2, c4_3, c4_4, c4_5⟩ := Ns2.out.cells
  have r5 := Ns2.out.cells.2.2.2.1
  have g5 := Ns2.out.thaw.2.2.2.1
  have Ns5 : Hid (KB 23 (S2.setCell ⟨w.heap.size, 3, none⟩ (.int .i64 0)) w.heap.size ⟨x.r, x.t, x.p, 0, x.q, x.s⟩) := Lib.hid (Ns2.out.set3 0)
  have No5 := Lib.hid (No2.out.other (D := w.heap.size) (i := 3) (by omega) (.int .i64 0))
  have E5 := Lib.hid (below_set (C := w.heap.size) (i := 3) E2.out (by omega) (.int .i64 0))
  obtain ⟨S5, hS5⟩ : ∃ W, S2.setCell ⟨w.heap.size, 3, none⟩ (.int .i64 0) = W := ⟨_, rfl⟩
  rw [hS5] at Ns5 No5 E5
  clear Ns2 No2 E2
  obtain ⟨c6_0, c6_1, c6_2, c6_3, c6_4, c6_5⟩ := Ns5.out.cells
  have r7 := Ns5.out.cells.2.2.2.2.1
  have g7 := Ns5.out.thaw.2.2.2.2.1
  have Ns7 : Hid (KB 23 (S5.setCell ⟨w.heap.size, 4, none⟩ (.int .i64 0)) w.heap.size ⟨x.r, x.t, x.p, 0, 0, x.s⟩) := Lib.hid (Ns5.out.set4 0)
  have No7 := Lib.hid (No5.out.other (D := w.heap.size) (i := 4) (by omega) (.int .i64 0))
  have E7 := Lib.hid (below_set (C := w.heap.size) (i := 4) E5.out (by omega) (.int .i64 0))
  obtain ⟨S7, hS7⟩ : ∃ W, S5.setCell ⟨w.heap.size, 4, none⟩ (.int .i64 0) = W := ⟨_, rfl⟩
  rw [hS7] at Ns7 No7 E7
  clear Ns5 No5 E5
  obtain ⟨c8_0, c8_1, c8_2, c8_3, c8_4, c8_5⟩ := Ns7.out.cells
  obtain ⟨c9_0, c9_1, c9_2, c9_3⟩ := No7.out.cells
  go_enter Try.func7, Try.ntmps7
  go_wp2_with fail
  go_region_held3 (fun w' => w'.cell? ⟨w.heap.size, 0, none⟩ = some (.int .i64 x.r) ∧ w'.cell? ⟨w.heap.size, 1, none⟩ = some (.int .i64 x.t) ∧ w'.cell? ⟨w.heap.size, 2, none⟩ = some (.int .i64 x.p) ∧ w'.cell? ⟨w.heap.size, 3, none⟩ = some (.int .i64 0) ∧ w'.cell? ⟨w.heap.size, 4, none⟩ = some (.int .i64 0) ∧ w'.cell? ⟨w.heap.size, 5, none⟩ = some (.int .i64 x.s)) (go_keep)
      (first
        | (go_at_call 11; refine (of_yes ⟨x.r, x.t, x.p, 0, 0, x.s⟩ _ HOK.out).mono ?_; rintro e w10 ⟨c, rfl, hge10, hkb, hb⟩; have hb : Below S7.heap.size S7 w10 := ⟨hb.os, hb.tape, hb.output, hb.size, hb.block⟩; have hge10 : S7.heap.size ≤ c := hge10; have Xs10 := Lib.hid (Ns7.out.below hb Ns7.out.lt); have nes10 : w.heap.size < c := Nat.lt_of_lt_of_le Ns7.out.lt hge10; obtain ⟨cs10_0, cs10_1, cs10_2, cs10_3, cs10_4, cs10_5⟩ := Xs10.out.cells; have Xo10 := Lib.hid (No7.out.below hb No7.out.lt); have neo10 : S1.heap.size < c := Nat.lt_of_lt_of_le No7.out.lt hge10; obtain ⟨co10_0, co10_1, co10_2, co10_3⟩ := Xo10.out.cells; have lw10 : w.heap.size ≤ c := Nat.le_trans E7.out.size hge10; have Xc10 := Lib.hid hkb; have B10 := Lib.hid (E7.out.trans (hb.mono E7.out.size)); clear hb hkb Ns7 No7 E7)
        | (go_at_call 11; refine (of_yes ⟨x.r, x.t, x.p, 0, 0, x.s⟩ _ HOK.out).mono ?_; rintro e w11 ⟨d, rfl, hge11, hkb, hb⟩; have Xs11 := Lib.hid (Xs10.out.below hb Xs10.out.lt); have nes11 : w.heap.size < d := Nat.lt_of_lt_of_le Xs10.out.lt hge11; obtain ⟨cs11_0, cs11_1, cs11_2, cs11_3, cs11_4, cs11_5⟩ := Xs11.out.cells; have Xo11 := Lib.hid (Xo10.out.below hb Xo10.out.lt); have neo11 : S1.heap.size < d := Nat.lt_of_lt_of_le Xo10.out.lt hge11; obtain ⟨co11_0, co11_1, co11_2, co11_3⟩ := Xo11.out.cells; have Xc11 := Lib.hid (Xc10.out.below hb Xc10.out.lt); have nec11 : c < d := Nat.lt_of_lt_of_le Xc10.out.lt hge11; have lw11 : w.heap.size ≤ d := Nat.le_trans B10.out.size hge11; have Xd11 := Lib.hid hkb; have B11 := Lib.hid (B10.out.trans (hb.mono B10.out.size)); clear hb hkb Xs10 Xo10 Xc10 B10))
  clear hS1 hS2 c3_0 c3_1 c3_2 c3_3 c4_0 c4_1 c4_2 c4_3 c4_4 c4_5 r5 g5 hS5 c6_0 c6_1 c6_2 c6_3 c6_4 c6_5 r7 g7 hS7 c8_0 c8_1 c8_2 c8_3 c8_4 c8_5 c9_0 c9_1 c9_2 c9_3
  obtain ⟨c12_0, c12_1, c12_2, c12_3⟩ := Xo11.out.cells
  go_wp2_with fail
  clear cs10_0 cs10_1 cs10_2 cs10_3 cs10_4 cs10_5 co10_0 co10_1 co10_2 co10_3 cs11_0 cs11_1 cs11_2 cs11_3 cs11_4 cs11_5 co11_0 co11_1 co11_2 co11_3 c12_0 c12_1 c12_2 c12_3
  refine (slew_any c ⟨x.r, x.t, x.p, 0, 0, x.s⟩ r a b _ HOK.out Xc11.out).mono ?_
  rintro e w13 ⟨rfl, hkb, hg⟩
  have Xc13 : Hid (KB 51 w13 c y) := Lib.hid (by rw [← Hy.out]; exact hkb)
  have Xs13 := Lib.hid (Xs11.out.grown hg (by omega))
  have Xo13 := Lib.hid (Xo11.out.grown hg (by omega))
  have Xd13 := Lib.hid (Xd11.out.grown hg (by omega))
  have B13 := Lib.hid (below_of_grown' B11.out hg (by omega) B11.out.size)
  clear hkb hg Xc11 Xs11 Xo11 Xd11 B11
  rw [HE1.out]
  obtain ⟨c14_0, c14_1, c14_2, c14_3⟩ := Xo13.out.cells
  go_wp2_with fail
  clear c14_0 c14_1 c14_2 c14_3
  refine (slew_any d ⟨x.r, x.t, x.p, 0, 0, x.s⟩ r 0 1 _ HOK.out Xd13.out).mono ?_
  rintro e w15 ⟨rfl, hkb, hg⟩
  have Xd15 : Hid (KB 51 w15 d z) := Lib.hid (by rw [← Hz.out]; exact hkb)
  have Xs15 := Lib.hid (Xs13.out.grown hg (by omega))
  have Xo15 := Lib.hid (Xo13.out.grown hg (by omega))
  have Xc15 := Lib.hid (Xc13.out.grown hg (by omega))
  have B15 := Lib.hid (below_of_grown' B13.out hg (by omega) B13.out.size)
  clear hkb hg Xd13 Xs13 Xo13 Xc13 B13
  rw [HE2.out]
  obtain ⟨c16_0, c16_1, c16_2, c16_3⟩ := Xo15.out.cells
  go_wp2_with fail
  clear c16_0 c16_1 c16_2 c16_3
  refine (pend_any c y u _ HYO.out Xc15.out).mono ?_
  rintro e w17 ⟨rfl, hb⟩
  have Xs17 := Lib.hid (Xs15.out.below hb Xs15.out.lt)
  have Xo17 := Lib.hid (Xo15.out.below hb Xo15.out.lt)
  have Xc17 := Lib.hid (Xc15.out.below hb Xc15.out.lt)
  have Xd17 := Lib.hid (Xd15.out.below hb Xd15.out.lt)
  have B17 := Lib.hid (B15.out.trans (hb.mono B15.out.size))
  have hz17 := hb.size
  clear hb Xs15 Xo15 Xc15 Xd15 B15
  obtain ⟨c18_0, c18_1, c18_2, c18_3⟩ := Xo17.out.cells
  rw [HL.out]
  go_wp2_with fail
  clear c18_0 c18_1 c18_2 c18_3
  refine (now_any c y u _ HYO.out Xc17.out).mono ?_
  rintro e w19 ⟨rfl, hb⟩
  have Xs19 := Lib.hid (Xs17.out.below hb Xs17.out.lt)
  have Xo19 := Lib.hid (Xo17.out.below hb Xo17.out.lt)
  have Xc19 := Lib.hid (Xc17.out.below hb Xc17.out.lt)
  have Xd19 := Lib.hid (Xd17.out.below hb Xd17.out.lt)
  have B19 := Lib.hid (B17.out.trans (hb.mono B17.out.size))
  have hz19 := hb.size
  clear hb Xs17 Xo17 Xc17 Xd17 B17
  obtain ⟨c20_0, c20_1, c20_2, c20_3⟩ := Xo19.out.cells
  rw [HT1.out, HM1.out]
  go_wp2_with fail
  clear c20_0 c20_1 c20_2 c20_3
  refine (now_any d z u _ HZO.out Xd19.out).mono ?_
  rintro e w21 ⟨rfl, hb⟩
  have Xs21 := Lib.hid (Xs19.out.below hb Xs19.out.lt)
  have Xo21 := Lib.hid (Xo19.out.below hb Xo19.out.lt)
  have Xc21 := Lib.hid (Xc19.out.below hb Xc19.out.lt)
  have Xd21 := Lib.hid (Xd19.out.below hb Xd19.out.lt)
  have B21 := Lib.hid (B19.out.trans (hb.mono B19.out.size))
  have hz21 := hb.size
  clear hb Xs19 Xo19 Xc19 Xd19 B19
  obtain ⟨c22_0, c22_1, c22_2, c22_3⟩ := Xo21.out.cells
  rw [HT2.out, HM2.out]
  go_wp2_with fail
  clear c22_0 c22_1 c22_2 c22_3
  refine (awake10_any _).mono ?_
  rintro e w23 ⟨rfl, hb⟩
  have Xs23 := Lib.hid (Xs21.out.below hb Xs21.out.lt)
  have Xo23 := Lib.hid (Xo21.out.below hb Xo21.out.lt)
  have Xc23 := Lib.hid (Xc21.out.below hb Xc21.out.lt)
  have Xd23 := Lib.hid (Xd21.out.below hb Xd21.out.lt)
  have B23 := Lib.hid (B21.out.trans (hb.mono B21.out.size))
  have hz23 := hb.size
  clear hb Xs21 Xo21 Xc21 Xd21 B21
  go_wp2_with fail
  go_ret
  exact ⟨rfl, B23.out⟩
set_option maxRecDepth 100000 in
set_option maxHeartbeats 2000000 in
theorem slews_errB (x : St) (k r a b u : Int) (w : World) (hx : Ok ⟨x.r, x.t, x.p, 0, 0, x.s⟩) (h1 : slE ⟨x.r, x.t, x.p, 0, 0, x.s⟩ r a b = 0) (hu : ¬ u < r) (h3 : (mvS (slS ⟨x.r, x.t, x.p, 0, 0, x.s⟩ r a b) u).l = 0) (h4 : mvE (slS ⟨x.r, x.t, x.p, 0, 0, x.s⟩ r a b) u = 0) (h5 : ¬ mvE (slS ⟨x.r, x.t, x.p, 0, 0, x.s⟩ r 0 1) u = 0) :
    Calls Try.prog 7 #[.agg #[.int .i64 x.r, .int .i64 x.t, .int .i64 x.p, .int .i64 x.l, .int .i64 x.q, .int .i64 x.s], .agg #[.int .i64 k, .int .i64 r, .int .i64 a, .int .i64 b], .int .i64 u] w fun e w' => e = .returned (.bool true) ∧ Below w.heap.size w w' := by
  have BB := Lib.hid (Below.refl w.heap.size w)
  have HOK := Lib.hid hx
  obtain ⟨y, hy⟩ : ∃ y, slS ⟨x.r, x.t, x.p, 0, 0, x.s⟩ r a b = y := ⟨_, rfl⟩
  have Hy := Lib.hid hy
  have HE1 := Lib.hid h1
  have h2 : slE ⟨x.r, x.t, x.p, 0, 0, x.s⟩ r 0 1 = 0 := slE_iff.2 ⟨⟨by decide, by decide, by decide, by decide⟩, (slE_iff.1 h1).2⟩
  have HE2 := Lib.hid h2
  obtain ⟨z, hz⟩ : ∃ z, slS ⟨x.r, x.t, x.p, 0, 0, x.s⟩ r 0 1 = z := ⟨_, rfl⟩
  have Hz := Lib.hid hz
  have HYO : Hid (Ok y) := Lib.hid (by rw [← hy]; exact sl_ok hx)
  have HZO : Hid (Ok z) := Lib.hid (by rw [← hz]; exact sl_ok hx)
  have d1 : decide (u < r) = false := decide_eq_false hu
  rw [hy] at h3
  have HL := Lib.hid h3
  obtain ⟨t1, ht1⟩ : ∃ t1, (mvS y u).t = t1 := ⟨_, rfl⟩
  have HT1 := Lib.hid ht1
  obtain ⟨t2, ht2⟩ : ∃ t2, (mvS z u).t = t2 := ⟨_, rfl⟩
  have HT2 := Lib.hid ht2
  rw [hy] at h4
  have HM1 := Lib.hid h4
  rw [hz] at h5
  obtain ⟨m2, hm2⟩ : ∃ m2, mvE z u = m2 := ⟨_, rfl⟩
  rw [hm2] at h5
  have q0 : (m2 != 0) = true := by simpa using h5
  have HM2 := Lib.hid hm2
  clear hx hy hz h1 h2 h3 h4 h5 ht1 ht2 hm2
  have Ns1 : Hid (KB 23 (w.alloc (.cells #[.int .i64 x.r, .int .i64 x.t, .int .i64 x.p, .int .i64 x.l, .int .i64 x.q, .int .i64 x.s] 23)) w.heap.size ⟨x.r, x.t, x.p, x.l, x.q, x.s⟩) := Lib.hid (kb_new _ w x.r x.t x.p x.l x.q x.s)
  have E1 := Lib.hid (BB.out.alloc BB.out.size (.cells #[.int .i64 x.r, .int .i64 x.t, .int .i64 x.p, .int .i64 x.l, .int .i64 x.q, .int .i64 x.s] 23))
  have hs1 := BB.out.size
  obtain ⟨S1, hS1⟩ : ∃ W, w.alloc (.cells #[.int .i64 x.r, .int .i64 x.t, .int .i64 x.p, .int .i64 x.l, .int .i64 x.q, .int .i64 x.s] 23) = W := ⟨_, rfl⟩
  have hsz1 : S1.heap.size = w.heap.size + 1 := by rw [← hS1]; simp
  have HSZ1 := Lib.hid hsz1
  have hle1 : w.heap.size < S1.heap.size := by omega
  clear hsz1
  rw [hS1] at Ns1 E1
  clear BB
  have No2 : Hid (OB 38 (S1.alloc (.cells #[.int .i64 k, .int .i64 r, .int .i64 a, .int .i64 b] 38)) S1.heap.size k r a b) := Lib.hid (ob_new _ S1 k r a b)
  have ls2 := Ns1.out.lt
  have Ns2 := Lib.hid (Ns1.out.alloc (.cells #[.int .i64 k, .int .i64 r, .int .i64 a, .int .i64 b] 38))
  have E2 := Lib.hid (E1.out.alloc E1.out.size (.cells #[.int .i64 k, .int .i64 r, .int .i64 a, .int .i64 b] 38))
  have hs2 := E1.out.size
  obtain ⟨S2, hS2⟩ : ∃ W, S1.alloc (.cells #[.int .i64 k, .int .i64 r, .int .i64 a, .int .i64 b] 38) = W := ⟨_, rfl⟩
  have hsz2 : S2.heap.size = S1.heap.size + 1 := by rw [← hS2]; simp
  have HSZ2 := Lib.hid hsz2
  have hle2 : S1.heap.size < S2.heap.size := by omega
  clear hsz2
  rw [hS2] at No2 Ns2 E2
  clear Ns1 E1
  obtain ⟨c3_0, c3_1, c3_2, c3_3⟩ := No2.out.cells
  obtain ⟨c4_0, c4_1, c4_2, c4_3, c4_4, c4_5⟩ := Ns2.out.cells
  have r5 := Ns2.out.cells.2.2.2.1
  have g5 := Ns2.out.thaw.2.2.2.1
  have Ns5 : Hid (KB 23 (S2.setCell ⟨w.heap.size, 3, none⟩ (.int .i64 0)) w.heap.size ⟨x.r, x.t, x.p, 0, x.q, x.s⟩) := Lib.hid (Ns2.out.set3 0)
  have No5 := Lib.hid (No2.out.other (D := w.heap.size) (i := 3) (by omega) (.int .i64 0))
  have E5 := Lib.hid (below_set (C := w.heap.size) (i := 3) E2.out (by omega) (.int .i64 0))
  obtain ⟨S5, hS5⟩ : ∃ W, S2.setCell ⟨w.heap.size, 3, none⟩ (.int .i64 0) = W := ⟨_, rfl⟩
  rw [hS5] at Ns5 No5 E5
  clear Ns2 No2 E2
  obtain ⟨c6_0, c6_1, c6_2, c6_3, c6_4, c6_5⟩ := Ns5.out.cells
  have r7 := Ns5.out.cells.2.2.2.2.1
  have g7 := Ns5.out.thaw.2.2.2.2.1
  have Ns7 : Hid (KB 23 (S5.setCell ⟨w.heap.size, 4, none⟩ (.int .i64 0)) w.heap.size ⟨x.r, x.t, x.p, 0, 0, x.s⟩) := Lib.hid (Ns5.out.set4 0)
  have No7 := Lib.hid (No5.out.other (D := w.heap.size) (i := 4) (by omega) (.int .i64 0))
  have E7 := Lib.hid (below_set (C := w.heap.size) (i := 4) E5.out (by omega) (.int .i64 0))
  obtain ⟨S7, hS7⟩ : ∃ W, S5.setCell ⟨w.heap.size, 4, none⟩ (.int .i64 0) = W := ⟨_, rfl⟩
  rw [hS7] at Ns7 No7 E7
  clear Ns5 No5 E5
  obtain ⟨c8_0, c8_1, c8_2, c8_3, c8_4, c8_5⟩ := Ns7.out.cells
  obtain ⟨c9_0, c9_1, c9_2, c9_3⟩ := No7.out.cells
  go_enter Try.func7, Try.ntmps7
  go_wp2_with fail
  go_region_held3 (fun w' => w'.cell? ⟨w.heap.size, 0, none⟩ = some (.int .i64 x.r) ∧ w'.cell? ⟨w.heap.size, 1, none⟩ = some (.int .i64 x.t) ∧ w'.cell? ⟨w.heap.size, 2, none⟩ = some (.int .i64 x.p) ∧ w'.cell? ⟨w.heap.size, 3, none⟩ = some (.int .i64 0) ∧ w'.cell? ⟨w.heap.size, 4, none⟩ = some (.int .i64 0) ∧ w'.cell? ⟨w.heap.size, 5, none⟩ = some (.int .i64 x.s)) (go_keep)
      (first
        | (go_at_call 11; refine (of_yes ⟨x.r, x.t, x.p, 0, 0, x.s⟩ _ HOK.out).mono ?_; rintro e w10 ⟨c, rfl, hge10, hkb, hb⟩; have hb : Below S7.heap.size S7 w10 := ⟨hb.os, hb.tape, hb.output, hb.size, hb.block⟩; have hge10 : S7.heap.size ≤ c := hge10; have Xs10 := Lib.hid (Ns7.out.below hb Ns7.out.lt); have nes10 : w.heap.size < c := Nat.lt_of_lt_of_le Ns7.out.lt hge10; obtain ⟨cs10_0, cs10_1, cs10_2, cs10_3, cs10_4, cs10_5⟩ := Xs10.out.cells; have Xo10 := Lib.hid (No7.out.below hb No7.out.lt); have neo10 : S1.heap.size < c := Nat.lt_of_lt_of_le No7.out.lt hge10; obtain ⟨co10_0, co10_1, co10_2, co10_3⟩ := Xo10.out.cells; have lw10 : w.heap.size ≤ c := Nat.le_trans E7.out.size hge10; have Xc10 := Lib.hid hkb; have B10 := Lib.hid (E7.out.trans (hb.mono E7.out.size)); clear hb hkb Ns7 No7 E7)
        | (go_at_call 11; refine (of_yes ⟨x.r, x.t, x.p, 0, 0, x.s⟩ _ HOK.out).mono ?_; rintro e w11 ⟨d, rfl, hge11, hkb, hb⟩; have Xs11 := Lib.hid (Xs10.out.below hb Xs10.out.lt); have nes11 : w.heap.size < d := Nat.lt_of_lt_of_le Xs10.out.lt hge11; obtain ⟨cs11_0, cs11_1, cs11_2, cs11_3, cs11_4, cs11_5⟩ := Xs11.out.cells; have Xo11 := Lib.hid (Xo10.out.below hb Xo10.out.lt); have neo11 : S1.heap.size < d := Nat.lt_of_lt_of_le Xo10.out.lt hge11; obtain ⟨co11_0, co11_1, co11_2, co11_3⟩ := Xo11.out.cells; have Xc11 := Lib.hid (Xc10.out.below hb Xc10.out.lt); have nec11 : c < d := Nat.lt_of_lt_of_le Xc10.out.lt hge11; have lw11 : w.heap.size ≤ d := Nat.le_trans B10.out.size hge11; have Xd11 := Lib.hid hkb; have B11 := Lib.hid (B10.out.trans (hb.mono B10.out.size)); clear hb hkb Xs10 Xo10 Xc10 B10))
  clear hS1 hS2 c3_0 c3_1 c3_2 c3_3 c4_0 c4_1 c4_2 c4_3 c4_4 c4_5 r5 g5 hS5 c6_0 c6_1 c6_2 c6_3 c6_4 c6_5 r7 g7 hS7 c8_0 c8_1 c8_2 c8_3 c8_4 c8_5 c9_0 c9_1 c9_2 c9_3
  obtain ⟨c12_0, c12_1, c12_2, c12_3⟩ := Xo11.out.cells
  go_wp2_with fail
  clear cs10_0 cs10_1 cs10_2 cs10_3 cs10_4 cs10_5 co10_0 co10_1 co10_2 co10_3 cs11_0 cs11_1 cs11_2 cs11_3 cs11_4 cs11_5 co11_0 co11_1 co11_2 co11_3 c12_0 c12_1 c12_2 c12_3
  refine (slew_any c ⟨x.r, x.t, x.p, 0, 0, x.s⟩ r a b _ HOK.out Xc11.out).mono ?_
  rintro e w13 ⟨rfl, hkb, hg⟩
  have Xc13 : Hid (KB 51 w13 c y) := Lib.hid (by rw [← Hy.out]; exact hkb)
  have Xs13 := Lib.hid (Xs11.out.grown hg (by omega))
  have Xo13 := Lib.hid (Xo11.out.grown hg (by omega))
  have Xd13 := Lib.hid (Xd11.out.grown hg (by omega))
  have B13 := Lib.hid (below_of_grown' B11.out hg (by omega) B11.out.size)
  clear hkb hg Xc11 Xs11 Xo11 Xd11 B11
  rw [HE1.out]
  obtain ⟨c14_0, c14_1, c14_2, c14_3⟩ := Xo13.out.cells
  go_wp2_with fail
  clear c14_0 c14_1 c14_2 c14_3
  refine (slew_any d ⟨x.r, x.t, x.p, 0, 0, x.s⟩ r 0 1 _ HOK.out Xd13.out).mono ?_
  rintro e w15 ⟨rfl, hkb, hg⟩
  have Xd15 : Hid (KB 51 w15 d z) := Lib.hid (by rw [← Hz.out]; exact hkb)
  have Xs15 := Lib.hid (Xs13.out.grown hg (by omega))
  have Xo15 := Lib.hid (Xo13.out.grown hg (by omega))
  have Xc15 := Lib.hid (Xc13.out.grown hg (by omega))
  have B15 := Lib.hid (below_of_grown' B13.out hg (by omega) B13.out.size)
  clear hkb hg Xd13 Xs13 Xo13 Xc13 B13
  rw [HE2.out]
  obtain ⟨c16_0, c16_1, c16_2, c16_3⟩ := Xo15.out.cells
  go_wp2_with fail
  clear c16_0 c16_1 c16_2 c16_3
  refine (pend_any c y u _ HYO.out Xc15.out).mono ?_
  rintro e w17 ⟨rfl, hb⟩
  have Xs17 := Lib.hid (Xs15.out.below hb Xs15.out.lt)
  have Xo17 := Lib.hid (Xo15.out.below hb Xo15.out.lt)
  have Xc17 := Lib.hid (Xc15.out.below hb Xc15.out.lt)
  have Xd17 := Lib.hid (Xd15.out.below hb Xd15.out.lt)
  have B17 := Lib.hid (B15.out.trans (hb.mono B15.out.size))
  have hz17 := hb.size
  clear hb Xs15 Xo15 Xc15 Xd15 B15
  obtain ⟨c18_0, c18_1, c18_2, c18_3⟩ := Xo17.out.cells
  rw [HL.out]
  go_wp2_with fail
  clear c18_0 c18_1 c18_2 c18_3
  refine (now_any c y u _ HYO.out Xc17.out).mono ?_
  rintro e w19 ⟨rfl, hb⟩
  have Xs19 := Lib.hid (Xs17.out.below hb Xs17.out.lt)
  have Xo19 := Lib.hid (Xo17.out.below hb Xo17.out.lt)
  have Xc19 := Lib.hid (Xc17.out.below hb Xc17.out.lt)
  have Xd19 := Lib.hid (Xd17.out.below hb Xd17.out.lt)
  have B19 := Lib.hid (B17.out.trans (hb.mono B17.out.size))
  have hz19 := hb.size
  clear hb Xs17 Xo17 Xc17 Xd17 B17
  obtain ⟨c20_0, c20_1, c20_2, c20_3⟩ := Xo19.out.cells
  rw [HT1.out, HM1.out]
  go_wp2_with fail
  clear c20_0 c20_1 c20_2 c20_3
  refine (now_any d z u _ HZO.out Xd19.out).mono ?_
  rintro e w21 ⟨rfl, hb⟩
  have Xs21 := Lib.hid (Xs19.out.below hb Xs19.out.lt)
  have Xo21 := Lib.hid (Xo19.out.below hb Xo19.out.lt)
  have Xc21 := Lib.hid (Xc19.out.below hb Xc19.out.lt)
  have Xd21 := Lib.hid (Xd19.out.below hb Xd19.out.lt)
  have B21 := Lib.hid (B19.out.trans (hb.mono B19.out.size))
  have hz21 := hb.size
  clear hb Xs19 Xo19 Xc19 Xd19 B19
  obtain ⟨c22_0, c22_1, c22_2, c22_3⟩ := Xo21.out.cells
  rw [HT2.out, HM2.out]
  go_wp2_with fail
  clear c22_0 c22_1 c22_2 c22_3
  refine (awake10_any _).mono ?_
  rintro e w23 ⟨rfl, hb⟩
  have Xs23 := Lib.hid (Xs21.out.below hb Xs21.out.lt)
  have Xo23 := Lib.hid (Xo21.out.below hb Xo21.out.lt)
  have Xc23 := Lib.hid (Xc21.out.below hb Xc21.out.lt)
  have Xd23 := Lib.hid (Xd21.out.below hb Xd21.out.lt)
  have B23 := Lib.hid (B21.out.trans (hb.mono B21.out.size))
  have hz23 := hb.size
  clear hb Xs21 Xo21 Xc21 Xd21 B21
  go_wp2_with fail
  go_ret
  exact ⟨rfl, B23.out⟩
set_option maxRecDepth 100000 in
set_option maxHeartbeats 2000000 in
theorem slews_ok (x : St) (k r a b u : Int) (w : World) (hx : Ok ⟨x.r, x.t, x.p, 0, 0, x.s⟩) (h1 : slE ⟨x.r, x.t, x.p, 0, 0, x.s⟩ r a b = 0) (hu : ¬ u < r) (h3 : (mvS (slS ⟨x.r, x.t, x.p, 0, 0, x.s⟩ r a b) u).l = 0) (h4 : mvE (slS ⟨x.r, x.t, x.p, 0, 0, x.s⟩ r a b) u = 0) (h5 : mvE (slS ⟨x.r, x.t, x.p, 0, 0, x.s⟩ r 0 1) u = 0) :
    Calls Try.prog 7 #[.agg #[.int .i64 x.r, .int .i64 x.t, .int .i64 x.p, .int .i64 x.l, .int .i64 x.q, .int .i64 x.s], .agg #[.int .i64 k, .int .i64 r, .int .i64 a, .int .i64 b], .int .i64 u] w fun e w' => e = .returned (.bool true) ∧ Below w.heap.size w w' := by
  have BB := Lib.hid (Below.refl w.heap.size w)
  have HOK := Lib.hid hx
  obtain ⟨y, hy⟩ : ∃ y, slS ⟨x.r, x.t, x.p, 0, 0, x.s⟩ r a b = y := ⟨_, rfl⟩
  have Hy := Lib.hid hy
  have HE1 := Lib.hid h1
  have h2 : slE ⟨x.r, x.t, x.p, 0, 0, x.s⟩ r 0 1 = 0 := slE_iff.2 ⟨⟨by decide, by decide, by decide, by decide⟩, (slE_iff.1 h1).2⟩
  have HE2 := Lib.hid h2
  obtain ⟨z, hz⟩ : ∃ z, slS ⟨x.r, x.t, x.p, 0, 0, x.s⟩ r 0 1 = z := ⟨_, rfl⟩
  have Hz := Lib.hid hz
  have HYO : Hid (Ok y) := Lib.hid (by rw [← hy]; exact sl_ok hx)
  have HZO : Hid (Ok z) := Lib.hid (by rw [← hz]; exact sl_ok hx)
  have d1 : decide (u < r) = false := decide_eq_false hu
  have fin := fun he hf => slew_fin hx h1 h2 (show r ≤ u by omega) h3 he hf
  rw [hy, hz] at fin
  rw [hy] at h3
  have HL := Lib.hid h3
  obtain ⟨t1, ht1⟩ : ∃ t1, (mvS y u).t = t1 := ⟨_, rfl⟩
  have HT1 := Lib.hid ht1
  obtain ⟨t2, ht2⟩ : ∃ t2, (mvS z u).t = t2 := ⟨_, rfl⟩
  have HT2 := Lib.hid ht2
  rw [hy] at h4
  have HM1 := Lib.hid h4
  rw [hz] at h5
  have HM2 := Lib.hid h5
  have fn := fin h4 h5
  rw [ht1, ht2] at fn
  obtain ⟨f0, f1⟩ := fn
  have b1 := (mvE_iff.1 h4).2.2
  have b2 := (mvE_iff.1 h5).2.2
  rw [← mvS_t h4, ht1] at b1
  rw [← mvS_t h5, ht2] at b2
  obtain ⟨b10, b11⟩ := b1
  obtain ⟨b20, b21⟩ := b2
  obtain ⟨a0, a1, _, _⟩ := (slE_iff.1 h1).1
  have dd0 : decide (a - 2 ≤ t1 - t2) = true := decide_eq_true f0
  have dd1 : decide (t1 - t2 ≤ a + 1) = true := decide_eq_true f1
  clear hx hy hz h1 h2 h3 h4 h5 ht1 ht2 fin
  have Ns1 : Hid (KB 23 (w.alloc (.cells #[.int .i64 x.r, .int .i64 x.t, .int .i64 x.p, .int .i64 x.l, .int .i64 x.q, .int .i64 x.s] 23)) w.heap.size ⟨x.r, x.t, x.p, x.l, x.q, x.s⟩) := Lib.hid (kb_new _ w x.r x.t x.p x.l x.q x.s)
  have E1 := Lib.hid (BB.out.alloc BB.out.size (.cells #[.int .i64 x.r, .int .i64 x.t, .int .i64 x.p, .int .i64 x.l, .int .i64 x.q, .int .i64 x.s] 23))
  have hs1 := BB.out.size
  obtain ⟨S1, hS1⟩ : ∃ W, w.alloc (.cells #[.int .i64 x.r, .int .i64 x.t, .int .i64 x.p, .int .i64 x.l, .int .i64 x.q, .int .i64 x.s] 23) = W := ⟨_, rfl⟩
  have hsz1 : S1.heap.size = w.heap.size + 1 := by rw [← hS1]; simp
  have HSZ1 := Lib.hid hsz1
  have hle1 : w.heap.size < S1.heap.size := by omega
  clear hsz1
  rw [hS1] at Ns1 E1
  clear BB
  have No2 : Hid (OB 38 (S1.alloc (.cells #[.int .i64 k, .int .i64 r, .int .i64 a, .int .i64 b] 38)) S1.heap.size k r a b) := Lib.hid (ob_new _ S1 k r a b)
  have ls2 := Ns1.out.lt
  have Ns2 := Lib.hid (Ns1.out.alloc (.cells #[.int .i64 k, .int .i64 r, .int .i64 a, .int .i64 b] 38))
  have E2 := Lib.hid (E1.out.alloc E1.out.size (.cells #[.int .i64 k, .int .i64 r, .int .i64 a, .int .i64 b] 38))
  have hs2 := E1.out.size
  obtain ⟨S2, hS2⟩ : ∃ W, S1.alloc (.cells #[.int .i64 k, .int .i64 r, .int .i64 a, .int .i64 b] 38) = W := ⟨_, rfl⟩
  have hsz2 : S2.heap.size = S1.heap.size + 1 := by rw [← hS2]; simp
  have HSZ2 := Lib.hid hsz2
  have hle2 : S1.heap.size < S2.heap.size := by omega
  clear hsz2
  rw [hS2] at No2 Ns2 E2
  clear Ns1 E1
  obtain ⟨c3_0, c3_1, c3_2, c3_3⟩ := No2.out.cells
  obtain ⟨c4_0, c4_1, c4_2, c4_3, c4_4, c4_5⟩ := Ns2.out.cells
  have r5 := Ns2.out.cells.2.2.2.1
  have g5 := Ns2.out.thaw.2.2.2.1
  have Ns5 : Hid (KB 23 (S2.setCell ⟨w.heap.size, 3, none⟩ (.int .i64 0)) w.heap.size ⟨x.r, x.t, x.p, 0, x.q, x.s⟩) := Lib.hid (Ns2.out.set3 0)
  have No5 := Lib.hid (No2.out.other (D := w.heap.size) (i := 3) (by omega) (.int .i64 0))
  have E5 := Lib.hid (below_set (C := w.heap.size) (i := 3) E2.out (by omega) (.int .i64 0))
  obtain ⟨S5, hS5⟩ : ∃ W, S2.setCell ⟨w.heap.size, 3, none⟩ (.int .i64 0) = W := ⟨_, rfl⟩
  rw [hS5] at Ns5 No5 E5
  clear Ns2 No2 E2
  obtain ⟨c6_0, c6_1, c6_2, c6_3, c6_4, c6_5⟩ := Ns5.out.cells
  have r7 := Ns5.out.cells.2.2.2.2.1
  have g7 := Ns5.out.thaw.2.2.2.2.1
  have Ns7 : Hid (KB 23 (S5.setCell ⟨w.heap.size, 4, none⟩ (.int .i64 0)) w.heap.size ⟨x.r, x.t, x.p, 0, 0, x.s⟩) := Lib.hid (Ns5.out.set4 0)
  have No7 := Lib.hid (No5.out.other (D := w.heap.size) (i := 4) (by omega) (.int .i64 0))
  have E7 := Lib.hid (below_set (C := w.heap.size) (i := 4) E5.out (by omega) (.int .i64 0))
  obtain ⟨S7, hS7⟩ : ∃ W, S5.setCell ⟨w.heap.size, 4, none⟩ (.int .i64 0) = W := ⟨_, rfl⟩
  rw [hS7] at Ns7 No7 E7
  clear Ns5 No5 E5
  obtain ⟨c8_0, c8_1, c8_2, c8_3, c8_4, c8_5⟩ := Ns7.out.cells
  obtain ⟨c9_0, c9_1, c9_2, c9_3⟩ := No7.out.cells
  go_enter Try.func7, Try.ntmps7
  go_wp2_with fail
  go_region_held3 (fun w' => w'.cell? ⟨w.heap.size, 0, none⟩ = some (.int .i64 x.r) ∧ w'.cell? ⟨w.heap.size, 1, none⟩ = some (.int .i64 x.t) ∧ w'.cell? ⟨w.heap.size, 2, none⟩ = some (.int .i64 x.p) ∧ w'.cell? ⟨w.heap.size, 3, none⟩ = some (.int .i64 0) ∧ w'.cell? ⟨w.heap.size, 4, none⟩ = some (.int .i64 0) ∧ w'.cell? ⟨w.heap.size, 5, none⟩ = some (.int .i64 x.s)) (go_keep)
      (first
        | (go_at_call 11; refine (of_yes ⟨x.r, x.t, x.p, 0, 0, x.s⟩ _ HOK.out).mono ?_; rintro e w10 ⟨c, rfl, hge10, hkb, hb⟩; have hb : Below S7.heap.size S7 w10 := ⟨hb.os, hb.tape, hb.output, hb.size, hb.block⟩; have hge10 : S7.heap.size ≤ c := hge10; have Xs10 := Lib.hid (Ns7.out.below hb Ns7.out.lt); have nes10 : w.heap.size < c := Nat.lt_of_lt_of_le Ns7.out.lt hge10; obtain ⟨cs10_0, cs10_1, cs10_2, cs10_3, cs10_4, cs10_5⟩ := Xs10.out.cells; have Xo10 := Lib.hid (No7.out.below hb No7.out.lt); have neo10 : S1.heap.size < c := Nat.lt_of_lt_of_le No7.out.lt hge10; obtain ⟨co10_0, co10_1, co10_2, co10_3⟩ := Xo10.out.cells; have lw10 : w.heap.size ≤ c := Nat.le_trans E7.out.size hge10; have Xc10 := Lib.hid hkb; have B10 := Lib.hid (E7.out.trans (hb.mono E7.out.size)); clear hb hkb Ns7 No7 E7)
        | (go_at_call 11; refine (of_yes ⟨x.r, x.t, x.p, 0, 0, x.s⟩ _ HOK.out).mono ?_; rintro e w11 ⟨d, rfl, hge11, hkb, hb⟩; have Xs11 := Lib.hid (Xs10.out.below hb Xs10.out.lt); have nes11 : w.heap.size < d := Nat.lt_of_lt_of_le Xs10.out.lt hge11; obtain ⟨cs11_0, cs11_1, cs11_2, cs11_3, cs11_4, cs11_5⟩ := Xs11.out.cells; have Xo11 := Lib.hid (Xo10.out.below hb Xo10.out.lt); have neo11 : S1.heap.size < d := Nat.lt_of_lt_of_le Xo10.out.lt hge11; obtain ⟨co11_0, co11_1, co11_2, co11_3⟩ := Xo11.out.cells; have Xc11 := Lib.hid (Xc10.out.below hb Xc10.out.lt); have nec11 : c < d := Nat.lt_of_lt_of_le Xc10.out.lt hge11; have lw11 : w.heap.size ≤ d := Nat.le_trans B10.out.size hge11; have Xd11 := Lib.hid hkb; have B11 := Lib.hid (B10.out.trans (hb.mono B10.out.size)); clear hb hkb Xs10 Xo10 Xc10 B10))
  clear hS1 hS2 c3_0 c3_1 c3_2 c3_3 c4_0 c4_1 c4_2 c4_3 c4_4 c4_5 r5 g5 hS5 c6_0 c6_1 c6_2 c6_3 c6_4 c6_5 r7 g7 hS7 c8_0 c8_1 c8_2 c8_3 c8_4 c8_5 c9_0 c9_1 c9_2 c9_3
  obtain ⟨c12_0, c12_1, c12_2, c12_3⟩ := Xo11.out.cells
  go_wp2_with fail
  clear cs10_0 cs10_1 cs10_2 cs10_3 cs10_4 cs10_5 co10_0 co10_1 co10_2 co10_3 cs11_0 cs11_1 cs11_2 cs11_3 cs11_4 cs11_5 co11_0 co11_1 co11_2 co11_3 c12_0 c12_1 c12_2 c12_3
  refine (slew_any c ⟨x.r, x.t, x.p, 0, 0, x.s⟩ r a b _ HOK.out Xc11.out).mono ?_
  rintro e w13 ⟨rfl, hkb, hg⟩
  have Xc13 : Hid (KB 51 w13 c y) := Lib.hid (by rw [← Hy.out]; exact hkb)
  have Xs13 := Lib.hid (Xs11.out.grown hg (by omega))
  have Xo13 := Lib.hid (Xo11.out.grown hg (by omega))
  have Xd13 := Lib.hid (Xd11.out.grown hg (by omega))
  have B13 := Lib.hid (below_of_grown' B11.out hg (by omega) B11.out.size)
  clear hkb hg Xc11 Xs11 Xo11 Xd11 B11
  rw [HE1.out]
  obtain ⟨c14_0, c14_1, c14_2, c14_3⟩ := Xo13.out.cells
  go_wp2_with fail
  clear c14_0 c14_1 c14_2 c14_3
  refine (slew_any d ⟨x.r, x.t, x.p, 0, 0, x.s⟩ r 0 1 _ HOK.out Xd13.out).mono ?_
  rintro e w15 ⟨rfl, hkb, hg⟩
  have Xd15 : Hid (KB 51 w15 d z) := Lib.hid (by rw [← Hz.out]; exact hkb)
  have Xs15 := Lib.hid (Xs13.out.grown hg (by omega))
  have Xo15 := Lib.hid (Xo13.out.grown hg (by omega))
  have Xc15 := Lib.hid (Xc13.out.grown hg (by omega))
  have B15 := Lib.hid (below_of_grown' B13.out hg (by omega) B13.out.size)
  clear hkb hg Xd13 Xs13 Xo13 Xc13 B13
  rw [HE2.out]
  obtain ⟨c16_0, c16_1, c16_2, c16_3⟩ := Xo15.out.cells
  go_wp2_with fail
  clear c16_0 c16_1 c16_2 c16_3
  refine (pend_any c y u _ HYO.out Xc15.out).mono ?_
  rintro e w17 ⟨rfl, hb⟩
  have Xs17 := Lib.hid (Xs15.out.below hb Xs15.out.lt)
  have Xo17 := Lib.hid (Xo15.out.below hb Xo15.out.lt)
  have Xc17 := Lib.hid (Xc15.out.below hb Xc15.out.lt)
  have Xd17 := Lib.hid (Xd15.out.below hb Xd15.out.lt)
  have B17 := Lib.hid (B15.out.trans (hb.mono B15.out.size))
  have hz17 := hb.size
  clear hb Xs15 Xo15 Xc15 Xd15 B15
  obtain ⟨c18_0, c18_1, c18_2, c18_3⟩ := Xo17.out.cells
  rw [HL.out]
  go_wp2_with fail
  clear c18_0 c18_1 c18_2 c18_3
  refine (now_any c y u _ HYO.out Xc17.out).mono ?_
  rintro e w19 ⟨rfl, hb⟩
  have Xs19 := Lib.hid (Xs17.out.below hb Xs17.out.lt)
  have Xo19 := Lib.hid (Xo17.out.below hb Xo17.out.lt)
  have Xc19 := Lib.hid (Xc17.out.below hb Xc17.out.lt)
  have Xd19 := Lib.hid (Xd17.out.below hb Xd17.out.lt)
  have B19 := Lib.hid (B17.out.trans (hb.mono B17.out.size))
  have hz19 := hb.size
  clear hb Xs17 Xo17 Xc17 Xd17 B17
  obtain ⟨c20_0, c20_1, c20_2, c20_3⟩ := Xo19.out.cells
  rw [HT1.out, HM1.out]
  go_wp2_with fail
  clear c20_0 c20_1 c20_2 c20_3
  refine (now_any d z u _ HZO.out Xd19.out).mono ?_
  rintro e w21 ⟨rfl, hb⟩
  have Xs21 := Lib.hid (Xs19.out.below hb Xs19.out.lt)
  have Xo21 := Lib.hid (Xo19.out.below hb Xo19.out.lt)
  have Xc21 := Lib.hid (Xc19.out.below hb Xc19.out.lt)
  have Xd21 := Lib.hid (Xd19.out.below hb Xd19.out.lt)
  have B21 := Lib.hid (B19.out.trans (hb.mono B19.out.size))
  have hz21 := hb.size
  clear hb Xs19 Xo19 Xc19 Xd19 B19
  obtain ⟨c22_0, c22_1, c22_2, c22_3⟩ := Xo21.out.cells
  rw [HT2.out, HM2.out]
  go_wp2_with fail
  clear c22_0 c22_1 c22_2 c22_3
  refine (awake10_any _).mono ?_
  rintro e w23 ⟨rfl, hb⟩
  have Xs23 := Lib.hid (Xs21.out.below hb Xs21.out.lt)
  have Xo23 := Lib.hid (Xo21.out.below hb Xo21.out.lt)
  have Xc23 := Lib.hid (Xc21.out.below hb Xc21.out.lt)
  have Xd23 := Lib.hid (Xd21.out.below hb Xd21.out.lt)
  have B23 := Lib.hid (B21.out.trans (hb.mono B21.out.size))
  have hz23 := hb.size
  clear hb Xs21 Xo21 Xc21 Xd21 B21
  go_wp2_with fail
  go_ret
  exact ⟨rfl, B23.out⟩
theorem slews_law (x : St) (k r a b u : Int) (w : World) (hs : x.s ≤ 9223372036854775807) :
    Calls Try.prog 7 #[.agg #[.int .i64 x.r, .int .i64 x.t, .int .i64 x.p, .int .i64 x.l, .int .i64 x.q, .int .i64 x.s], .agg #[.int .i64 k, .int .i64 r, .int .i64 a, .int .i64 b], .int .i64 u] w fun e w' => e = .returned (.bool true) ∧ Below w.heap.size w w' := by
  by_cases hx : Ok ⟨x.r, x.t, x.p, 0, 0, x.s⟩
  · by_cases h1 : slE ⟨x.r, x.t, x.p, 0, 0, x.s⟩ r a b = 0
    · by_cases hu : u < r
      · exact slews_before x k r a b u w hx h1 hu
      · by_cases h3 : (mvS (slS ⟨x.r, x.t, x.p, 0, 0, x.s⟩ r a b) u).l = 0
        · by_cases h4 : mvE (slS ⟨x.r, x.t, x.p, 0, 0, x.s⟩ r a b) u = 0
          · by_cases h5 : mvE (slS ⟨x.r, x.t, x.p, 0, 0, x.s⟩ r 0 1) u = 0
            · exact slews_ok x k r a b u w hx h1 hu h3 h4 h5
            · exact slews_errB x k r a b u w hx h1 hu h3 h4 h5
          · exact slews_errA x k r a b u w hx h1 hu h3 h4
        · exact slews_pending x k r a b u w hx h1 hu h3
    · exact slews_refused x k r a b u w hx h1
  · exact slews_no x k r a b u w hs hx
end Go.Proofs.Ytjcpfkibaohjjaa
