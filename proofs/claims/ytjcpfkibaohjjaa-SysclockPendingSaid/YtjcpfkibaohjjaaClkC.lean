/- Contracts of layer 10: what is shown. -/
import Derived.Test.YtjcpfkibaohjjaaClkB
namespace Go.Proofs.Ytjcpfkibaohjjaa
open Go.RowKit Fx Ck

theorem slen_lq (r t p l q s : Int) (w : World) (hl0 : -4503599627370496 ≤ l) (hl1 : l ≤ 4503599627370496) (hq0 : 0 ≤ q) (hq1 : q ≤ 500000) (hlq : l = 0 ∨ 0 < q) (hb : ln l q ≤ 9007199254740992) :
    Calls Try.prog 48 #[.agg #[.int .i64 r, .int .i64 t, .int .i64 p, .int .i64 l, .int .i64 q, .int .i64 s]] w fun x w' => x = .returned (.int .i64 (ln l q)) ∧ Below w.heap.size w w' := by
  by_cases h : l = 0
  · subst h; exact slen_zero r t p q s w
  · exact slen_any r t p l q s w hl0 hl1 (hlq.resolve_left h) hq1 hb
set_option maxRecDepth 100000 in
theorem shown_not (r t p l q s e : Int) (w : World) (ht : -4503599627370496 ≤ t ∧ t ≤ 4503599627370496) (hl : -4503599627370496 ≤ l ∧ l ≤ 4503599627370496) (hp : -500000 ≤ p ∧ p ≤ 500000) (hq : 0 ≤ q ∧ q ≤ 500000) (hlq : l = 0 ∨ 0 < q) (h0 : 0 ≤ e) (h1 : e ≤ 9007199254740992) (hne : ¬ slw l q e = l) :
    Calls Try.prog 41 #[.agg #[.int .i64 r, .int .i64 t, .int .i64 p, .int .i64 l, .int .i64 q, .int .i64 s], .int .i64 e] w fun x w' => x = .returned (.int .i64 (shn t p l q e)) ∧ Below w.heap.size w w' := by
  obtain ⟨G, hG⟩ : ∃ G, sg l = G := ⟨_, rfl⟩
  have sb : -1 ≤ G ∧ G ≤ 1 := by rw [← hG]; unfold sg; split <;> (try split) <;> omega
  have mb := sgq_bound (l := l) hp.1 hp.2 hq.1 hq.2
  rw [hG] at mb
  obtain ⟨m, hm⟩ : ∃ m, G * q = m := ⟨_, rfl⟩
  have mb0 : -500000 ≤ m ∧ m ≤ 500000 := by
    rw [← hm, ← hG]; unfold sg; split
    · omega
    · split <;> omega
  rw [hm] at mb
  obtain ⟨s0, s1⟩ := sb
  obtain ⟨m0, m1⟩ := mb
  obtain ⟨n0, n1⟩ := mb0
  obtain ⟨l0, l1⟩ := hl
  obtain ⟨t0, t1⟩ := ht
  obtain ⟨p0, p1⟩ := hp
  obtain ⟨q0, q1⟩ := hq
  have cb := cnt_bound h0 h1 m0 m1
  obtain ⟨c, hc⟩ : ∃ c, cnt e (p + m) = c := ⟨_, rfl⟩
  rw [hc] at cb
  have HX := Lib.hid (show shn t p l q e = t + c by unfold shn; rw [if_neg hne, hG, hm, hc])
  obtain ⟨k0, k1⟩ := cb
  obtain ⟨z, hz⟩ : ∃ z, slw l q e = z := ⟨_, rfl⟩
  rw [hz] at hne
  have z0 : (z != l) = true := by simpa using hne
  have z1 : (z == l) = false := by simpa using hne
  have HZS := Lib.hid hz
  have HG := Lib.hid hG
  clear hne hz hlq hG
  have HZ' := Lib.hid (kb_new 23 w r t p l q s)
  obtain ⟨v, hv⟩ : ∃ v, w.alloc (.cells #[.int .i64 r, .int .i64 t, .int .i64 p, .int .i64 l, .int .i64 q, .int .i64 s] 23) = v := ⟨_, rfl⟩
  have HV := Lib.hid (hv ▸ (Below.refl w.heap.size w).alloc (Nat.le_refl _) _)
  rw [hv] at HZ'
  have HZ : Hid (KB 23 v w.heap.size ⟨r, t, p, l, q, s⟩) := HZ'
  clear HZ'
  obtain ⟨c0, c1, c2, c3, c4, c5⟩ := HZ.out.cells
  go_enter Try.func41, Try.ntmps41
  go_wp2_with fail
  clear hv
  go_region_held3 (fun w' => w'.cell? ⟨w.heap.size, 0, none⟩ = some (.int .i64 r) ∧ w'.cell? ⟨w.heap.size, 1, none⟩ = some (.int .i64 t) ∧ w'.cell? ⟨w.heap.size, 2, none⟩ = some (.int .i64 p) ∧ w'.cell? ⟨w.heap.size, 3, none⟩ = some (.int .i64 l) ∧ w'.cell? ⟨w.heap.size, 4, none⟩ = some (.int .i64 q) ∧ w'.cell? ⟨w.heap.size, 5, none⟩ = some (.int .i64 s)) (go_keep)
    (first
      | (go_at_call 42; refine (slewed_any r t p l q s e _ (by omega) (by omega) (by omega) (by omega) (by omega) (by omega)).mono ?_; rintro x v1 ⟨rfl, hw⟩; have hw' : Below v.heap.size v v1 := ⟨hw.os, hw.tape, hw.output, hw.size, hw.block⟩; have HZ1 := Lib.hid (HZ.out.below hw' HZ.out.lt); obtain ⟨d0, d1, d2, d3, d4, d5⟩ := HZ1.out.cells; have HV1 := Lib.hid (HV.out.trans (hw'.mono HV.out.size)); clear hw hw' HZ HV; rw [HZS.out]))
  go_wp2_with fail
  go_quiet (first | (go_at_call 47; exact Calls.quiet_of_same ((sg_any _ _).mono (by rintro e w' ⟨rfl, rfl⟩; rw [HG.out]; exact ⟨rfl, rfl⟩))) | (go_at_call 46; exact Calls.quiet_of ((cnt_any _ _ _ (by omega) (by omega) (by omega) (by omega)).mono (by rintro e w' ⟨rfl, n, hw'⟩; subst hw'; exact ⟨rfl, n, rfl⟩))))
  go_wp2_with fail
  go_ret
  exact ⟨ret1 HX.out.symm, blwn HV1.out _⟩
set_option maxRecDepth 100000 in
theorem shown_done (r t p l q s e : Int) (w : World) (ht : -4503599627370496 ≤ t ∧ t ≤ 4503599627370496) (hl : -4503599627370496 ≤ l ∧ l ≤ 4503599627370496) (hp : -500000 ≤ p ∧ p ≤ 500000) (hq : 0 ≤ q ∧ q ≤ 500000) (hlq : l = 0 ∨ 0 < q) (h0 : 0 ≤ e) (h1 : e ≤ 9007199254740992) (hd : slw l q e = l) :
    Calls Try.prog 41 #[.agg #[.int .i64 r, .int .i64 t, .int .i64 p, .int .i64 l, .int .i64 q, .int .i64 s], .int .i64 e] w fun x w' => x = .returned (.int .i64 (shn t p l q e)) ∧ Below w.heap.size w w' := by
  have nb := ln_bound h0 hlq hd
  obtain ⟨G, hG⟩ : ∃ G, sg l = G := ⟨_, rfl⟩
  have sb : -1 ≤ G ∧ G ≤ 1 := by rw [← hG]; unfold sg; split <;> (try split) <;> omega
  have mb := sgq_bound (l := l) hp.1 hp.2 hq.1 hq.2
  rw [hG] at mb
  obtain ⟨m, hm⟩ : ∃ m, G * q = m := ⟨_, rfl⟩
  have mb0 : -500000 ≤ m ∧ m ≤ 500000 := by
    rw [← hm, ← hG]; unfold sg; split
    · omega
    · split <;> omega
  rw [hm] at mb
  obtain ⟨s0, s1⟩ := sb
  obtain ⟨m0, m1⟩ := mb
  obtain ⟨n0, n1⟩ := mb0
  obtain ⟨l0, l1⟩ := hl
  obtain ⟨t0, t1⟩ := ht
  obtain ⟨p0, p1⟩ := hp
  obtain ⟨q0, q1⟩ := hq
  obtain ⟨n, hn⟩ : ∃ n, ln l q = n := ⟨_, rfl⟩
  rw [hn] at nb
  have cb := cnt_bound nb.1 (by omega) m0 m1
  have db := cnt_bound (e := e - n) (p := p) (by omega) (by omega) (by omega) (by omega)
  obtain ⟨c, hc⟩ : ∃ c, cnt n (p + m) = c := ⟨_, rfl⟩
  obtain ⟨d, hd'⟩ : ∃ d, cnt (e - n) p = d := ⟨_, rfl⟩
  rw [hc] at cb
  rw [hd'] at db
  have HX := Lib.hid (show shn t p l q e = t + c + d by unfold shn; rw [if_pos hd, hn, hG, hm, hc, hd'])
  obtain ⟨k0, k1⟩ := cb
  obtain ⟨j0, j1⟩ := db
  obtain ⟨i0, i1⟩ := nb
  have z0 : (l != l) = false := by simp
  have HZS := Lib.hid hd
  have HG := Lib.hid hG
  have HN := Lib.hid hn
  have HLQ := Lib.hid hlq
  clear hlq hG hd hn
  have HZ' := Lib.hid (kb_new 23 w r t p l q s)
  obtain ⟨v, hv⟩ : ∃ v, w.alloc (.cells #[.int .i64 r, .int .i64 t, .int .i64 p, .int .i64 l, .int .i64 q, .int .i64 s] 23) = v := ⟨_, rfl⟩
  have HV := Lib.hid (hv ▸ (Below.refl w.heap.size w).alloc (Nat.le_refl _) _)
  rw [hv] at HZ'
  have HZ : Hid (KB 23 v w.heap.size ⟨r, t, p, l, q, s⟩) := HZ'
  clear HZ'
  obtain ⟨c0, c1, c2, c3, c4, c5⟩ := HZ.out.cells
  go_enter Try.func41, Try.ntmps41
  go_wp2_with fail
  clear hv
  go_region_held3 (fun w' => w'.cell? ⟨w.heap.size, 0, none⟩ = some (.int .i64 r) ∧ w'.cell? ⟨w.heap.size, 1, none⟩ = some (.int .i64 t) ∧ w'.cell? ⟨w.heap.size, 2, none⟩ = some (.int .i64 p) ∧ w'.cell? ⟨w.heap.size, 3, none⟩ = some (.int .i64 l) ∧ w'.cell? ⟨w.heap.size, 4, none⟩ = some (.int .i64 q) ∧ w'.cell? ⟨w.heap.size, 5, none⟩ = some (.int .i64 s)) (go_keep)
    (first
      | (go_at_call 42; refine (slewed_any r t p l q s e _ (by omega) (by omega) (by omega) (by omega) (by omega) (by omega)).mono ?_; rintro x v1 ⟨rfl, hw⟩; have hw' : Below v.heap.size v v1 := ⟨hw.os, hw.tape, hw.output, hw.size, hw.block⟩; have HZ1 := Lib.hid (HZ.out.below hw' HZ.out.lt); obtain ⟨d0, d1, d2, d3, d4, d5⟩ := HZ1.out.cells; have HV1 := Lib.hid (HV.out.trans (hw'.mono HV.out.size)); clear hw hw' HZ HV; rw [HZS.out]))
  go_wp2_with fail
  refine (slen_lq r t p l q s _ (by omega) (by omega) (by omega) (by omega) HLQ.out (by rw [HN.out]; omega)).mono ?_
  rintro x v2 ⟨rfl, hw⟩
  have hw' : Below v1.heap.size v1 v2 := ⟨hw.os, hw.tape, hw.output, hw.size, hw.block⟩
  have HZ2 := Lib.hid (HZ1.out.below hw' HZ1.out.lt)
  have HV2 := Lib.hid (HV1.out.trans (hw'.mono HV1.out.size))
  clear hw hw' HZ1 HV1 d0 d1 d2 d3 d4 d5
  obtain ⟨d0, d1, d2, d3, d4, d5⟩ := HZ2.out.cells
  rw [HN.out]
  go_wp2_with fail
  go_quiet (first | (go_at_call 47; exact Calls.quiet_of_same ((sg_any _ _).mono (by rintro e w' ⟨rfl, rfl⟩; rw [HG.out]; exact ⟨rfl, rfl⟩))) | (go_at_call 46; exact Calls.quiet_of ((cnt_any _ _ _ (by omega) (by omega) (by omega) (by omega)).mono (by rintro e w' ⟨rfl, n, hw'⟩; subst hw'; exact ⟨rfl, n, rfl⟩))))
  go_wp2_with fail
  go_ret
  exact ⟨ret1 HX.out.symm, blwn HV2.out _⟩
theorem shown_any (r t p l q s e : Int) (w : World) (ht : -4503599627370496 ≤ t ∧ t ≤ 4503599627370496) (hl : -4503599627370496 ≤ l ∧ l ≤ 4503599627370496) (hp : -500000 ≤ p ∧ p ≤ 500000) (hq : 0 ≤ q ∧ q ≤ 500000) (hlq : l = 0 ∨ 0 < q) (h0 : 0 ≤ e) (h1 : e ≤ 9007199254740992) :
    Calls Try.prog 41 #[.agg #[.int .i64 r, .int .i64 t, .int .i64 p, .int .i64 l, .int .i64 q, .int .i64 s], .int .i64 e] w fun x w' => x = .returned (.int .i64 (shn t p l q e)) ∧ Below w.heap.size w w' := by
  by_cases hd : slw l q e = l
  · exact shown_done r t p l q s e w ht hl hp hq hlq h0 h1 hd
  · exact shown_not r t p l q s e w ht hl hp hq hlq h0 h1 hd
/-- What the specification's length says of a length of time. -/
def Ck.LenIs (l q : Int) (W w : World) (x : Ending) (w' : World) : Prop := ∃ n : Int, x = .returned (.int .i64 n) ∧ (0 ≤ n ∧ n ≤ 1152921504606846976 ∧ (n = ln l q ∨ 9007199254740992 < n ∧ 9007199254740992 < ln l q)) ∧ Below W.heap.size w w'
theorem rlen_any (r t p l q s : Int) (w : World) (hl0 : -4503599627370496 ≤ l) (hl1 : l ≤ 4503599627370496) (hq0 : 0 ≤ q) (hq1 : q ≤ 500000) (hlq : l = 0 ∨ 0 < q) :
    Calls Try.prog 43 #[.agg #[.int .i64 r, .int .i64 t, .int .i64 p, .int .i64 l, .int .i64 q, .int .i64 s]] w (LenIs l q w w) := by
  by_cases h : l = 0
  · subst h
    exact (rlen_zero r t p q s w).mono fun _ _ ⟨he, hb⟩ => ⟨_, he, ⟨by unfold rln; rw [ln_zero]; decide, by unfold rln; rw [ln_zero]; decide, .inl (by unfold rln; rw [ln_zero]; rfl)⟩, hb⟩
  · have hq := hlq.resolve_left h
    by_cases hf : 10000000 < max l (-l) / q
    · have hn : 9007199254740992 < ln l q := by
        have hla := ln_abs (l := l) hq
        rw [← mag_max] at hla
        have : 0 ≤ (max l (-l) % q * 1000000000 + q - 1) / q := Int.ediv_nonneg (by have := Int.emod_nonneg (max l (-l)) (show q ≠ 0 by omega); omega) (by omega)
        omega
      exact (rlen_far r t p l q s w hl0 hl1 hq hq1 h hf).mono fun _ _ ⟨he, hb⟩ => ⟨_, he, ⟨by unfold rln; split <;> omega, by unfold rln; split <;> omega, .inr ⟨by unfold rln; split <;> omega, hn⟩⟩, hb⟩
    · exact (rlen_near r t p l q s w hl0 hl1 hq hq1 h hf).mono fun _ _ ⟨⟨he, h2, h3⟩, hb⟩ => ⟨_, he, ⟨h3, by omega, .inl rfl⟩, hb⟩
theorem Ck.shn_to {t p l q e n : Int} (h0 : 0 ≤ e) (h1 : e ≤ 9007199254740992) (hq : 0 ≤ q) (hlq : l = 0 ∨ 0 < q) (hn : n = ln l q ∨ 9007199254740992 < n ∧ 9007199254740992 < ln l q) :
    shn t p l q e = t + min e n + min e n * (p + sg l * q) / 1000000000 + e - min e n + (e - min e n) * p / 1000000000 := by
  unfold shn
  by_cases hd : slw l q e = l
  · have hb := ln_bound h0 hlq hd
    rw [if_pos hd]
    have hm : min e n = ln l q := by omega
    rw [hm]
    unfold cnt
    omega
  · rw [if_neg hd]
    have hm : min e n = e := by
      rcases hn with rfl | h
      · rcases hlq with rfl | h
        · exact absurd ((slw_done h0 hq).2 (by have b : 0 ≤ e * q := Int.mul_nonneg h0 hq; omega)) hd
        · have : ¬ ln l q ≤ e := fun h' => hd ((ln_iff h0 h).1 h')
          omega
      · omega
    rw [hm]
    unfold cnt
    rw [show e - e = 0 by omega, Int.zero_mul]
    omega
set_option maxRecDepth 100000 in
theorem rshown_any (r t p l q s e : Int) (w : World) (ht : -4503599627370496 ≤ t ∧ t ≤ 4503599627370496) (hl : -4503599627370496 ≤ l ∧ l ≤ 4503599627370496) (hp : -500000 ≤ p ∧ p ≤ 500000) (hq : 0 ≤ q ∧ q ≤ 500000) (hlq : l = 0 ∨ 0 < q) (h0 : 0 ≤ e) (h1 : e ≤ 9007199254740992) :
    Calls Try.prog 39 #[.agg #[.int .i64 r, .int .i64 t, .int .i64 p, .int .i64 l, .int .i64 q, .int .i64 s], .int .i64 e] w fun x w' => x = .returned (.int .i64 (shn t p l q e)) ∧ Below w.heap.size w w' := by
  have HTO := Lib.hid (fun n => shn_to (t := t) (p := p) (l := l) (n := n) h0 h1 hq.1 hlq)
  obtain ⟨G, hG⟩ : ∃ G, sg l = G := ⟨_, rfl⟩
  have sb : -1 ≤ G ∧ G ≤ 1 := by rw [← hG]; unfold sg; split <;> (try split) <;> omega
  have mb := sgq_bound (l := l) hp.1 hp.2 hq.1 hq.2
  rw [hG] at mb
  obtain ⟨m, hm⟩ : ∃ m, G * q = m := ⟨_, rfl⟩
  have mb0 : -500000 ≤ m ∧ m ≤ 500000 := by
    rw [← hm, ← hG]; unfold sg; split
    · omega
    · split <;> omega
  rw [hm] at mb
  obtain ⟨s0, s1⟩ := sb
  obtain ⟨m0, m1⟩ := mb
  obtain ⟨n0, n1⟩ := mb0
  obtain ⟨l0, l1⟩ := hl
  obtain ⟨t0, t1⟩ := ht
  obtain ⟨p0, p1⟩ := hp
  obtain ⟨q0, q1⟩ := hq
  have HG := Lib.hid hG
  have HM := Lib.hid hm
  have HLQ := Lib.hid hlq
  clear hlq hG
  have HZ' := Lib.hid (kb_new 23 w r t p l q s)
  obtain ⟨v, hv⟩ : ∃ v, w.alloc (.cells #[.int .i64 r, .int .i64 t, .int .i64 p, .int .i64 l, .int .i64 q, .int .i64 s] 23) = v := ⟨_, rfl⟩
  have HV := Lib.hid (hv ▸ (Below.refl w.heap.size w).alloc (Nat.le_refl _) _)
  rw [hv] at HZ'
  have HZ : Hid (KB 23 v w.heap.size ⟨r, t, p, l, q, s⟩) := HZ'
  clear HZ'
  obtain ⟨c0, c1, c2, c3, c4, c5⟩ := HZ.out.cells
  go_enter Try.func39, Try.ntmps39
  go_wp2_with fail
  clear hv c0 c1 c2 c3 c4 c5
  refine (rlen_any r t p l q s v (by omega) (by omega) (by omega) (by omega) HLQ.out).mono ?_
  rintro x v1 ⟨n, rfl, ⟨n0', n1', hn⟩, hw⟩
  have HZ1 := Lib.hid (HZ.out.below hw HZ.out.lt)
  have HV1 := Lib.hid (HV.out.trans (hw.mono HV.out.size))
  have hx := HTO.out n hn
  rw [HG.out, hm] at hx
  clear hw HZ HV hn HTO
  obtain ⟨k, hk⟩ : ∃ k, min e n = k := ⟨_, rfl⟩
  have kb : 0 ≤ k ∧ k ≤ e := by omega
  rw [hk] at hx
  have b1 := fl_bound kb.1 (by omega) m0 m1
  have b2 := fl_bound (e := e - k) (p := p) (by omega) (by omega) (by omega) (by omega)
  obtain ⟨f, hf⟩ : ∃ f, k * (p + m) / 1000000000 = f := ⟨_, rfl⟩
  obtain ⟨g, hg⟩ : ∃ g, (e - k) * p / 1000000000 = g := ⟨_, rfl⟩
  rw [hf] at hx b1
  rw [hg] at hx b2
  have HX := Lib.hid hx
  obtain ⟨k0, k1⟩ := kb
  obtain ⟨f0, f1⟩ := b1
  obtain ⟨g0, g1⟩ := b2
  clear hx
  obtain ⟨d0, d1, d2, d3, d4, d5⟩ := HZ1.out.cells
  go_wp2_with fail
  go_quiet (first | (go_at_call 45; exact Calls.quiet_of_same ((rsg_any _ _).mono (by rintro e w' ⟨rfl, rfl⟩; rw [HG.out]; exact ⟨rfl, rfl⟩))) | (go_at_call 44; exact Calls.quiet_of_same ((part_any _ _ _ (by omega) (by omega) (by omega) (by omega)).mono (by rintro e w' ⟨rfl, rfl⟩; exact ⟨rfl, rfl⟩))))
  go_wp2_with fail
  go_ret
  exact ⟨ret1 HX.out.symm, blwn HV1.out _⟩
end Go.Proofs.Ytjcpfkibaohjjaa
