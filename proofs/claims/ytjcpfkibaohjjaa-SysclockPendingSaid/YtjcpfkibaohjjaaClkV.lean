/- Laws of layer 10: time does not run backwards; slews end. -/
import Derived.Test.YtjcpfkibaohjjaaClkU
namespace Go.Proofs.Ytjcpfkibaohjjaa
open Go.RowKit Fx Ck

theorem Ck.cnt_eq (e p : Int) : cnt e p = e * (1000000000 + p) / 1000000000 := by
  unfold cnt
  rw [Int.mul_add]
  omega
theorem Ck.cnt_mono {e f p : Int} (h0 : 0 ≤ e) (h : e ≤ f) (hp : -1000000 ≤ p) : 0 ≤ cnt e p ∧ cnt e p ≤ cnt f p := by
  rw [cnt_eq, cnt_eq]
  have h1 : e * (1000000000 + p) ≤ f * (1000000000 + p) := Int.mul_le_mul_of_nonneg_right h (by omega)
  have h2 : 0 ≤ e * (1000000000 + p) := Int.mul_nonneg h0 (by omega)
  omega
theorem Ck.done_mono {l q e f : Int} (h0 : 0 ≤ e) (h : e ≤ f) (hq : 0 ≤ q) (hd : slw l q e = l) : slw l q f = l := by
  rw [slw_done h0 hq] at hd
  rw [slw_done (by omega) hq]
  have h1 : e * q ≤ f * q := Int.mul_le_mul_of_nonneg_right h hq
  omega
theorem Ck.shn_mono {t p l q e f : Int} (hp : -500000 ≤ p ∧ p ≤ 500000) (hq : 0 ≤ q ∧ q ≤ 500000) (hlq : l = 0 ∨ 0 < q) (h0 : 0 ≤ e) (h : e ≤ f) : shn t p l q e ≤ shn t p l q f := by
  have a := sgq_bound (l := l) hp.1 hp.2 hq.1 hq.2
  unfold shn
  by_cases hd : slw l q e = l
  · rw [if_pos hd, if_pos (done_mono h0 h hq.1 hd)]
    have hb := ln_bound h0 hlq hd
    have := cnt_mono (e := e - ln l q) (f := f - ln l q) (p := p) (by omega) (by omega) (by omega)
    omega
  · rw [if_neg hd]
    by_cases hf : slw l q f = l
    · rw [if_pos hf]
      have hb := ln_bound (by omega) hlq hf
      have hlt : e < ln l q := by
        rcases hlq with rfl | hq0
        · exact absurd ((slw_done h0 hq.1).2 (by have b : 0 ≤ e * q := Int.mul_nonneg h0 hq.1; omega)) hd
        · have : ¬ ln l q ≤ e := fun h' => hd ((ln_iff h0 hq0).1 h')
          omega
      have c1 := cnt_mono (e := e) (f := ln l q) (p := p + sg l * q) h0 (by omega) a.1
      have c2 := cnt_mono (e := f - ln l q) (f := f - ln l q) (p := p) (by omega) (by omega) (by omega)
      omega
    · rw [if_neg hf]
      have := cnt_mono (e := e) (f := f) (p := p + sg l * q) h0 h a.1
      omega
theorem Ck.at_mono {y : St} {r1 r2 : Int} (h : Ok y) (h0 : y.r ≤ r1) (h1 : r1 ≤ r2) : at' y r1 ≤ at' y r2 := by
  obtain ⟨hr, ht, hl, hp, hq, hlq, hs⟩ := h
  exact shn_mono hp hq hlq (by omega) (by omega)
theorem Ck.lft_mono {y : St} {r1 r2 : Int} (h : Ok y) (h0 : y.r ≤ r1) (h1 : r1 ≤ r2) : (0 ≤ lft y r1 → 0 ≤ lft y r2 ∧ lft y r2 ≤ lft y r1) ∧ (lft y r1 ≤ 0 → lft y r1 ≤ lft y r2 ∧ lft y r2 ≤ 0) := by
  obtain ⟨hr, ht, hl, hp, hq, hlq, hs⟩ := h
  have h2 : (r1 - y.r) * y.q ≤ (r2 - y.r) * y.q := Int.mul_le_mul_of_nonneg_right (by omega) hq.1
  have h3 : 0 ≤ (r1 - y.r) * y.q := Int.mul_nonneg (by omega) hq.1
  unfold lft slw clm
  constructor <;> intro h4 <;> (split at h4 <;> (try split at h4) <;> split <;> (try split) <;> omega)
theorem Ck.no_step {y : St} {K R A B : Int} (hy : Ok y) (h3 : K ≠ 3) : (cS y K R A B).s = y.s ∧ (mvE y R = 0 → (cS y K R A B).r ≤ R ∧ at' (cS y K R A B) R = at' y R) ∧ (¬ mvE y R = 0 → cS y K R A B = y) := by
  unfold cS
  by_cases k1 : K = 1
  · rw [if_pos k1]
    by_cases he : frE y R A = 0
    · have e1 : frS y R A = frZ y R A := if_pos he
      have ho := fr_ok (raw := R) (ppb := A) hy
      rw [e1] at ho ⊢
      exact ⟨rfl, fun _ => ⟨Int.le_refl _, (stay ho rfl).2.1⟩, fun h => absurd (frE_iff.1 he).2 h⟩
    · have e1 : frS y R A = y := if_neg he
      rw [e1]; exact ⟨rfl, fun h => ⟨(mvE_iff.1 h).1, rfl⟩, fun _ => rfl⟩
  · rw [if_neg k1]
    by_cases k2 : K = 2
    · rw [if_pos k2]
      by_cases he : slE y R A B = 0
      · have e1 : slS y R A B = slZ y R A B := if_pos he
        have ho := sl_ok (raw := R) (d := A) (rate := B) hy
        rw [e1] at ho ⊢
        exact ⟨rfl, fun _ => ⟨Int.le_refl _, (stay ho rfl).2.1⟩, fun h => absurd (slE_iff.1 he).2 h⟩
      · have e1 : slS y R A B = y := if_neg he
        rw [e1]; exact ⟨rfl, fun h => ⟨(mvE_iff.1 h).1, rfl⟩, fun _ => rfl⟩
    · rw [if_neg k2, if_neg h3]; exact ⟨rfl, fun h => ⟨(mvE_iff.1 h).1, rfl⟩, fun _ => rfl⟩
/-- What holds while there is no step. -/
def Ck.Mono (w : World) (D c sb : Nat) (x : St) (last raw : Int) (wr : World) : Prop :=
  ∃ y, Ok y ∧ (y.s = x.s ∧ y.r ≤ raw ∧ raw ≤ 4503599627370496 ∧ at' y raw = last) ∧ KB 51 wr c y ∧ KB 23 wr sb x ∧ Below D w wr
set_option maxRecDepth 100000 in
set_option maxHeartbeats 4000000 in
theorem mono_no (x : St) (la : Option Addr) (n lc : Nat) (f : Nat → Qu) (w : World) (hs : x.s ≤ 9223372036854775807) (hn : ¬ Ok x) :
    Calls Try.prog 5 #[.agg #[.int .i64 x.r, .int .i64 x.t, .int .i64 x.p, .int .i64 x.l, .int .i64 x.q, .int .i64 x.s], .slice la n lc] w fun e w' => e = .returned (.bool true) ∧ Below w.heap.size w w' := by
  have BB := Lib.hid (Below.refl w.heap.size w)
  have HS := Lib.hid hs
  have HN := Lib.hid hn
  clear hs hn
  have Ns1 : Hid (KB 23 (w.alloc (.cells #[.int .i64 x.r, .int .i64 x.t, .int .i64 x.p, .int .i64 x.l, .int .i64 x.q, .int .i64 x.s] 23)) w.heap.size ⟨x.r, x.t, x.p, x.l, x.q, x.s⟩) := Lib.hid (kb_new _ w x.r x.t x.p x.l x.q x.s)
  have E1 := Lib.hid (BB.out.alloc BB.out.size (.cells #[.int .i64 x.r, .int .i64 x.t, .int .i64 x.p, .int .i64 x.l, .int .i64 x.q, .int .i64 x.s] 23))
  have hs1 := BB.out.size
  obtain ⟨S1, hS1⟩ : ∃ W, w.alloc (.cells #[.int .i64 x.r, .int .i64 x.t, .int .i64 x.p, .int .i64 x.l, .int .i64 x.q, .int .i64 x.s] 23) = W := ⟨_, rfl⟩
  have hsz1 : S1.heap.size = w.heap.size + 1 := by rw [← hS1]; simp
  have HSZ1 := Lib.hid hsz1
  have hle1 : w.heap.size < S1.heap.size := by omega
  clear hsz1
  rw [hS1] at Ns1 E1
  clear BB
  obtain ⟨c2_0, c2_1, c2_2, c2_3, c2_4, c2_5⟩ := Ns1.out.cells
  go_enter Try.func5, Try.ntmps5
  go_wp2_with fail
  clear hS1 c2_0 c2_1 c2_2 c2_3 c2_4 c2_5
  refine (of_no x _ HS.out HN.out).mono ?_
  rintro e w3 ⟨rfl, hb⟩
  have Xs3 := Lib.hid (Ns1.out.below hb Ns1.out.lt)
  have B3 := Lib.hid (E1.out.trans (hb.mono E1.out.size))
  have hz3 := hb.size
  clear hb Ns1 E1
  go_wp2_with fail
  refine (awake10_any _).mono ?_
  rintro e w4 ⟨rfl, hb⟩
  have Xs4 := Lib.hid (Xs3.out.below hb Xs3.out.lt)
  have B4 := Lib.hid (B3.out.trans (hb.mono B3.out.size))
  have hz4 := hb.size
  clear hb Xs3 B3
  go_wp2_with fail
  go_ret
  exact ⟨rfl, B4.out⟩
set_option maxRecDepth 100000 in
set_option maxHeartbeats 4000000 in
theorem mono_long (x : St) (la : Option Addr) (n lc : Nat) (f : Nat → Qu) (w : World) (hx : Ok x) (hl : 80 < n) (hm : n ≤ 9223372036854775807) :
    Calls Try.prog 5 #[.agg #[.int .i64 x.r, .int .i64 x.t, .int .i64 x.p, .int .i64 x.l, .int .i64 x.q, .int .i64 x.s], .slice la n lc] w fun e w' => e = .returned (.bool true) ∧ Below w.heap.size w w' := by
  have BB := Lib.hid (Below.refl w.heap.size w)
  have HOK := Lib.hid hx
  have d1 : decide ((80 : Int) < (n : Int)) = true := decide_eq_true (by omega)
  clear hx
  have Ns1 : Hid (KB 23 (w.alloc (.cells #[.int .i64 x.r, .int .i64 x.t, .int .i64 x.p, .int .i64 x.l, .int .i64 x.q, .int .i64 x.s] 23)) w.heap.size ⟨x.r, x.t, x.p, x.l, x.q, x.s⟩) := Lib.hid (kb_new _ w x.r x.t x.p x.l x.q x.s)
  have E1 := Lib.hid (BB.out.alloc BB.out.size (.cells #[.int .i64 x.r, .int .i64 x.t, .int .i64 x.p, .int .i64 x.l, .int .i64 x.q, .int .i64 x.s] 23))
  have hs1 := BB.out.size
  obtain ⟨S1, hS1⟩ : ∃ W, w.alloc (.cells #[.int .i64 x.r, .int .i64 x.t, .int .i64 x.p, .int .i64 x.l, .int .i64 x.q, .int .i64 x.s] 23) = W := ⟨_, rfl⟩
  have hsz1 : S1.heap.size = w.heap.size + 1 := by rw [← hS1]; simp
  have HSZ1 := Lib.hid hsz1
  have hle1 : w.heap.size < S1.heap.size := by omega
  clear hsz1
  rw [hS1] at Ns1 E1
  clear BB
  obtain ⟨c2_0, c2_1, c2_2, c2_3, c2_4, c2_5⟩ := Ns1.out.cells
  go_enter Try.func5, Try.ntmps5
  go_wp2_with fail
  clear hS1 c2_0 c2_1 c2_2 c2_3 c2_4 c2_5
  refine (of_yes x _ HOK.out).mono ?_
  rintro e w3 ⟨c, rfl, hge3, hkb, hb⟩
  have Xs3 := Lib.hid (Ns1.out.below hb Ns1.out.lt)
  have nes3 : w.heap.size < c := Nat.lt_of_lt_of_le Ns1.out.lt hge3
  have lw3 : w.heap.size ≤ c := Nat.le_trans E1.out.size hge3
  have Xc3 := Lib.hid hkb
  have B3 := Lib.hid (E1.out.trans (hb.mono E1.out.size))
  clear hb hkb Ns1 E1
  go_wp2_with fail
  refine (awake10_any _).mono ?_
  rintro e w4 ⟨rfl, hb⟩
  have Xs4 := Lib.hid (Xs3.out.below hb Xs3.out.lt)
  have Xc4 := Lib.hid (Xc3.out.below hb Xc3.out.lt)
  have B4 := Lib.hid (B3.out.trans (hb.mono B3.out.size))
  have hz4 := hb.size
  clear hb Xs3 Xc3 B3
  go_wp2_with fail
  go_ret
  exact ⟨rfl, B4.out⟩
set_option maxRecDepth 100000 in
set_option maxHeartbeats 4000000 in
theorem mono_ok (x : St) (la : Option Addr) (n lc : Nat) (f : Nat → Qu) (w : World) (hx : Ok x) (hl : n ≤ 80) (hr : Rd4 w w.heap.size la n f) (hfb : ∀ i, i < n → ((-9223372036854775808 ≤ (f i).r ∧ (f i).r ≤ 9223372036854775807) ∧ (-9223372036854775808 ≤ (f i).a ∧ (f i).a ≤ 9223372036854775807) ∧ (-9223372036854775808 ≤ (f i).b ∧ (f i).b ≤ 9223372036854775807))) :
    Calls Try.prog 5 #[.agg #[.int .i64 x.r, .int .i64 x.t, .int .i64 x.p, .int .i64 x.l, .int .i64 x.q, .int .i64 x.s], .slice la n lc] w fun e w' => e = .returned (.bool true) ∧ Below w.heap.size w w' := by
  have BB := Lib.hid (Below.refl w.heap.size w)
  have HOK := Lib.hid hx
  have HRd := Lib.hid hr
  have HFb := Lib.hid hfb
  have d1 : decide ((80 : Int) < (n : Int)) = false := decide_eq_false (by omega)
  clear hx hr hfb
  have Ns1 : Hid (KB 23 (w.alloc (.cells #[.int .i64 x.r, .int .i64 x.t, .int .i64 x.p, .int .i64 x.l, .int .i64 x.q, .int .i64 x.s] 23)) w.heap.size ⟨x.r, x.t, x.p, x.l, x.q, x.s⟩) := Lib.hid (kb_new _ w x.r x.t x.p x.l x.q x.s)
  have E1 := Lib.hid (BB.out.alloc BB.out.size (.cells #[.int .i64 x.r, .int .i64 x.t, .int .i64 x.p, .int .i64 x.l, .int .i64 x.q, .int .i64 x.s] 23))
  have hs1 := BB.out.size
  obtain ⟨S1, hS1⟩ : ∃ W, w.alloc (.cells #[.int .i64 x.r, .int .i64 x.t, .int .i64 x.p, .int .i64 x.l, .int .i64 x.q, .int .i64 x.s] 23) = W := ⟨_, rfl⟩
  have hsz1 : S1.heap.size = w.heap.size + 1 := by rw [← hS1]; simp
  have HSZ1 := Lib.hid hsz1
  have hle1 : w.heap.size < S1.heap.size := by omega
  clear hsz1
  rw [hS1] at Ns1 E1
  clear BB
  obtain ⟨c2_0, c2_1, c2_2, c2_3, c2_4, c2_5⟩ := Ns1.out.cells
  go_enter Try.func5, Try.ntmps5
  go_wp2_with fail
  clear hS1 c2_0 c2_1 c2_2 c2_3 c2_4 c2_5
  refine (of_yes x _ HOK.out).mono ?_
  rintro e w3 ⟨c, rfl, hge3, hkb, hb⟩
  have Xs3 := Lib.hid (Ns1.out.below hb Ns1.out.lt)
  have nes3 : w.heap.size < c := Nat.lt_of_lt_of_le Ns1.out.lt hge3
  have lw3 : w.heap.size ≤ c := Nat.le_trans E1.out.size hge3
  have Xc3 := Lib.hid hkb
  have B3 := Lib.hid (E1.out.trans (hb.mono E1.out.size))
  clear hb hkb Ns1 E1
  obtain ⟨c4_0, c4_1, c4_2, c4_3, c4_4, c4_5⟩ := Xs3.out.cells
  go_wp2_with fail
  go_quiet (fail)
  clear c4_0 c4_1 c4_2 c4_3 c4_4 c4_5
  have Qs5 := Lib.hid (Xs3.out.drewN nq)
  have Qc5 := Lib.hid (Xc3.out.drewN nq)
  have QB5 := Lib.hid (blwn B3.out nq)
  have hqs5 : w3.heap.size ≤ (w3.drewN nq).heap.size := Nat.le_refl _
  obtain ⟨Q5, hQ⟩ : ∃ W, w3.drewN nq = W := ⟨_, rfl⟩
  rw [hQ] at Qs5 Qc5 QB5 hqs5 ⊢
  clear hQ Xs3 Xc3 B3
  have hc : w.heap.size ≤ c := by omega
  have hsc : w.heap.size < c := by omega
  have HI : Hid (Mono w w.heap.size c w.heap.size x x.t x.r Q5) := Lib.hid ⟨x, HOK.out, ⟨rfl, Int.le_refl _, HOK.out.1.2, (stay HOK.out rfl).2.1⟩, Qc5.out, Qs5.out, QB5.out⟩
  clear Qc5 Qs5 QB5
  go_wp2_with fail
  go_loopw [6, 7, 8, 9, 10] (fun la' ra i _ _ wr => ∃ (k : Nat) (last raw : Int), k ≤ n ∧ i = .int .i64 k ∧ la' = .int .i64 last ∧ ra = .int .i64 raw ∧ Hid (Mono w w.heap.size c w.heap.size x last raw wr)) (fun _ _ i _ _ _ => n - (intOf i).toNat)
  case atStart => exact ⟨0, _, _, by omega, rfl, rfl, rfl, HI⟩
  case round =>
    clear HI
    obtain ⟨k, last, raw, hk, rfl, rfl, rfl, HT⟩ := hrel
    by_cases hlt : k < n
    · obtain ⟨y, hyo, ⟨hys, hyr, hrl, hat⟩, hya, hsb, hbel⟩ := HT.out
      obtain ⟨b, off, rfl, hbD, hcs⟩ := (HRd.out.below hbel) (by omega)
      obtain ⟨q0, q1, q2, q3⟩ := hcs k hlt
      obtain ⟨⟨rb0, rb1⟩, _, _⟩ := HFb.out k hlt
      obtain ⟨K, hK⟩ : ∃ K, (f k).k = K := ⟨_, rfl⟩
      obtain ⟨R, hR⟩ : ∃ R, (f k).r = R := ⟨_, rfl⟩
      obtain ⟨A, hA⟩ : ∃ A, (f k).a = A := ⟨_, rfl⟩
      obtain ⟨B, hB⟩ : ∃ B, (f k).b = B := ⟨_, rfl⟩
      rw [hK] at q0
      rw [hR] at q1 rb0 rb1
      rw [hA] at q2
      rw [hB] at q3
      have HYO := Lib.hid hyo
      have XC := Lib.hid hya
      have XS := Lib.hid hsb
      have BR := Lib.hid hbel
      have HAT := Lib.hid hat
      have HYS := Lib.hid hys
      have hsz := hbel.size
      clear hK hR hA hB hcs hyo hya hsb hbel hat hys
      have HT := HT
      by_cases hK3 : K = 3
      · subst hK3
        go_wp2_with fail
        go_roundw
        case rel => exact ⟨k + 1, last, raw, by omega, by go_num, rfl, rfl, HT⟩
        case measure => simp [intOf]; omega
      · have k3 : (K == 3) = false := by simpa using hK3
        have HK3 : Hid (K ≠ 3) := Lib.hid hK3
        clear hK3
        by_cases hRr : R < raw
        · have d2 : decide (R < raw) = true := decide_eq_true hRr
          go_wp2_with fail
          go_roundw
          case rel => exact ⟨k + 1, last, raw, by omega, by go_num, rfl, rfl, HT⟩
          case measure => simp [intOf]; omega
        · have d2 : decide (R < raw) = false := decide_eq_false hRr
          by_cases he : mvE y R = 0
          · have HE := Lib.hid he
            obtain ⟨T, hT⟩ : ∃ T, at' y R = T := ⟨_, rfl⟩
            have HTM := Lib.hid ((mvS_t he).trans hT)
            have HTA := Lib.hid hT
            have hmono := at_mono (y := y) (r1 := raw) (r2 := R) HYO.out hyr (by omega)
            rw [hT, HAT.out] at hmono
            have d3 : decide (T < last) = false := decide_eq_false (by omega)
            clear he hT HT
            go_wp2_with fail
            refine (now_any c y R wr HYO.out XC.out).mono ?_
            rintro e w1 ⟨rfl, hb⟩
            have XC1 := Lib.hid (XC.out.below hb XC.out.lt)
            have XS1 := Lib.hid (XS.out.below hb XS.out.lt)
            have B1 := Lib.hid (BR.out.trans (hb.mono BR.out.size))
            have e0B1 := ((B1.out.cell (p := ⟨b, off + k * 4, none⟩) hbD).trans (BR.out.cell (p := ⟨b, off + k * 4, none⟩) hbD).symm).trans q0
            have e1B1 := ((B1.out.cell (p := ⟨b, off + k * 4 + 1, none⟩) hbD).trans (BR.out.cell (p := ⟨b, off + k * 4 + 1, none⟩) hbD).symm).trans q1
            have e2B1 := ((B1.out.cell (p := ⟨b, off + k * 4 + 2, none⟩) hbD).trans (BR.out.cell (p := ⟨b, off + k * 4 + 2, none⟩) hbD).symm).trans q2
            have e3B1 := ((B1.out.cell (p := ⟨b, off + k * 4 + 3, none⟩) hbD).trans (BR.out.cell (p := ⟨b, off + k * 4 + 3, none⟩) hbD).symm).trans q3
            clear hb XC XS BR q0 q1 q2 q3
            rw [HE.out, HTM.out]
            go_wp2_with fail
            refine (call_any c y K R A B w1 HYO.out XC1.out).mono ?_
            rintro e w2 ⟨rfl, hk2, hg⟩
            obtain ⟨z, hz⟩ : ∃ z, cS y K R A B = z := ⟨_, rfl⟩
            have HZO : Hid (Ok z) := Lib.hid (by rw [← hz]; exact cS_ok HYO.out)
            have ns := no_step (y := y) (K := K) (R := R) (A := A) (B := B) HYO.out HK3.out
            rw [hz] at ns hk2
            have HZS : Hid (z.s = x.s) := Lib.hid (ns.1.trans HYS.out)
            have NS := Lib.hid ns
            have XC2 := Lib.hid hk2
            have XS2 := Lib.hid (XS1.out.grown hg (by omega))
            have B2 := Lib.hid (below_of_grown' B1.out hg hc B1.out.size)
            have hs2 : w.heap.size < w2.heap.size := XS2.out.lt
            clear hk2 hg hz ns XC1 XS1 e0B1 e1B1 e2B1 e3B1 B1
            obtain ⟨N1, hN1⟩ : ∃ N1, cN y K R = N1 := ⟨_, rfl⟩
            obtain ⟨M1, hM1⟩ : ∃ M1, cE y K R A B = M1 := ⟨_, rfl⟩
            rw [hN1, hM1]
            clear hN1 hM1
            obtain ⟨_, _, _, _, _, c5⟩ := XS2.out.cells
            have hfl := fun wx => field5 z.r z.t z.p z.l z.q x.s wx
            go_wp2_with fail
            go_region_held3 (fun w' => w'.cell? ⟨w.heap.size, 5, none⟩ = some (.int .i64 x.s)) (go_keep)
                (first | (go_at_call 13; refine (state_any c z _ ?_).mono ?_; exact XC2.out; rintro e w3 ⟨rfl, hb⟩; rw [HZS.out]; have hb : Below w2.heap.size w2 w3 := ⟨hb.os, hb.tape, hb.output, hb.size, hb.block⟩; have XC3 := Lib.hid (XC2.out.below hb XC2.out.lt); have XS3 := Lib.hid (XS2.out.below hb XS2.out.lt); obtain ⟨_, _, _, _, _, d5⟩ := XS3.out.cells; have B3 := Lib.hid (B2.out.trans (hb.mono B2.out.size)); clear hb XC2 XS2 B2))
            clear hfl
            go_wp2_with fail
            go_roundw
            case rel => exact ⟨k + 1, T, R, by omega, by go_num, rfl, rfl, Lib.hid ⟨z, HZO.out, ⟨HZS.out, (NS.out.2.1 HE.out).1, (mvE_iff.1 HE.out).2.1, (NS.out.2.1 HE.out).2.trans HTA.out⟩, XC3.out, XS3.out, B3.out⟩⟩
            case measure => simp [intOf]; omega
          · obtain ⟨E, hE⟩ : ∃ E, mvE y R = E := ⟨_, rfl⟩
            have HNE := Lib.hid he
            rw [hE] at he
            have d4 : (E == 0) = false := by simpa using he
            have HE := Lib.hid hE
            obtain ⟨T, hT⟩ : ∃ T, (mvS y R).t = T := ⟨_, rfl⟩
            have HTM := Lib.hid hT
            clear he hE hT HT
            go_wp2_with fail
            refine (now_any c y R wr HYO.out XC.out).mono ?_
            rintro e w1 ⟨rfl, hb⟩
            have XC1 := Lib.hid (XC.out.below hb XC.out.lt)
            have XS1 := Lib.hid (XS.out.below hb XS.out.lt)
            have B1 := Lib.hid (BR.out.trans (hb.mono BR.out.size))
            have e0B1 := ((B1.out.cell (p := ⟨b, off + k * 4, none⟩) hbD).trans (BR.out.cell (p := ⟨b, off + k * 4, none⟩) hbD).symm).trans q0
            have e1B1 := ((B1.out.cell (p := ⟨b, off + k * 4 + 1, none⟩) hbD).trans (BR.out.cell (p := ⟨b, off + k * 4 + 1, none⟩) hbD).symm).trans q1
            have e2B1 := ((B1.out.cell (p := ⟨b, off + k * 4 + 2, none⟩) hbD).trans (BR.out.cell (p := ⟨b, off + k * 4 + 2, none⟩) hbD).symm).trans q2
            have e3B1 := ((B1.out.cell (p := ⟨b, off + k * 4 + 3, none⟩) hbD).trans (BR.out.cell (p := ⟨b, off + k * 4 + 3, none⟩) hbD).symm).trans q3
            clear hb XC XS BR q0 q1 q2 q3
            rw [HE.out, HTM.out]
            go_wp2_with fail
            refine (call_any c y K R A B w1 HYO.out XC1.out).mono ?_
            rintro e w2 ⟨rfl, hk2, hg⟩
            obtain ⟨z, hz⟩ : ∃ z, cS y K R A B = z := ⟨_, rfl⟩
            have HZO : Hid (Ok z) := Lib.hid (by rw [← hz]; exact cS_ok HYO.out)
            have ns := no_step (y := y) (K := K) (R := R) (A := A) (B := B) HYO.out HK3.out
            rw [hz] at ns hk2
            have HZS : Hid (z.s = x.s) := Lib.hid (ns.1.trans HYS.out)
            have NS := Lib.hid ns
            have XC2 := Lib.hid hk2
            have XS2 := Lib.hid (XS1.out.grown hg (by omega))
            have B2 := Lib.hid (below_of_grown' B1.out hg hc B1.out.size)
            have hs2 : w.heap.size < w2.heap.size := XS2.out.lt
            clear hk2 hg hz ns XC1 XS1 e0B1 e1B1 e2B1 e3B1 B1
            obtain ⟨N1, hN1⟩ : ∃ N1, cN y K R = N1 := ⟨_, rfl⟩
            obtain ⟨M1, hM1⟩ : ∃ M1, cE y K R A B = M1 := ⟨_, rfl⟩
            rw [hN1, hM1]
            clear hN1 hM1
            obtain ⟨_, _, _, _, _, c5⟩ := XS2.out.cells
            have hfl := fun wx => field5 z.r z.t z.p z.l z.q x.s wx
            go_wp2_with fail
            go_region_held3 (fun w' => w'.cell? ⟨w.heap.size, 5, none⟩ = some (.int .i64 x.s)) (go_keep)
                (first | (go_at_call 13; refine (state_any c z _ ?_).mono ?_; exact XC2.out; rintro e w3 ⟨rfl, hb⟩; rw [HZS.out]; have hb : Below w2.heap.size w2 w3 := ⟨hb.os, hb.tape, hb.output, hb.size, hb.block⟩; have XC3 := Lib.hid (XC2.out.below hb XC2.out.lt); have XS3 := Lib.hid (XS2.out.below hb XS2.out.lt); obtain ⟨_, _, _, _, _, d5⟩ := XS3.out.cells; have B3 := Lib.hid (B2.out.trans (hb.mono B2.out.size)); clear hb XC2 XS2 B2))
            clear hfl
            go_wp2_with fail
            go_roundw
            case rel => exact ⟨k + 1, last, raw, by omega, by go_num, rfl, rfl, Lib.hid ⟨y, HYO.out, ⟨HYS.out, hyr, hrl, HAT.out⟩, by have := XC3.out; rw [NS.out.2.2 HNE.out] at this; exact this, XS3.out, B3.out⟩⟩
            case measure => simp [intOf]; omega
    · obtain ⟨y, _, _, _, _, hbel⟩ := HT.out
      have BR := Lib.hid hbel
      clear hbel HT
      go_wp2_with fail
      refine (awake10_any wr).mono ?_
      rintro e w1 ⟨rfl, hb⟩
      have B1 := Lib.hid (BR.out.trans (hb.mono BR.out.size))
      clear hb
      go_wp2_with fail
      go_ret
      exact ⟨rfl, B1.out⟩
theorem mono_law (x : St) (la : Option Addr) (n lc : Nat) (f : Nat → Qu) (w : World) (hs : x.s ≤ 9223372036854775807) (hm : n ≤ 9223372036854775807) (hr : Rd4 w w.heap.size la n f) (hfb : ∀ i, i < n → ((-9223372036854775808 ≤ (f i).r ∧ (f i).r ≤ 9223372036854775807) ∧ (-9223372036854775808 ≤ (f i).a ∧ (f i).a ≤ 9223372036854775807) ∧ (-9223372036854775808 ≤ (f i).b ∧ (f i).b ≤ 9223372036854775807))) :
    Calls Try.prog 5 #[.agg #[.int .i64 x.r, .int .i64 x.t, .int .i64 x.p, .int .i64 x.l, .int .i64 x.q, .int .i64 x.s], .slice la n lc] w fun e w' => e = .returned (.bool true) ∧ Below w.heap.size w w' := by
  by_cases hx : Ok x
  · by_cases hl : n ≤ 80
    · exact mono_ok x la n lc f w hx hl hr hfb
    · exact mono_long x la n lc f w hx (by omega) hm
  · exact mono_no x la n lc f w hs hx
end Go.Proofs.Ytjcpfkibaohjjaa
