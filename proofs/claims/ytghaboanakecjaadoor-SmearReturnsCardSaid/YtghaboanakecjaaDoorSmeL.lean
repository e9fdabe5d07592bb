/- Contracts of layer 7: the specification's readings and rates. -/
import Derived.Test.YtghaboanakecjaaDoorSmeK
namespace Go.Proofs.YtghaboanakecjaaDoor
open Go.RowKit Fx Cv Lp Sm

theorem Sm.inW_plC {B E : Int} {f : Nat → Int × Int} {n : Nat} {K W t : Int} (hv : Val B E f n) : (plC B f n K W t != 0) = inW f n K W t := by
  cases h : inW f n K W t
  · rw [(rdg_out h).2]; rfl
  · obtain ⟨k, _, _, hc, hs, _⟩ := rdg_mid hv h
    rw [hc]
    rcases hs with hs | hs <;> rw [hs] <;> rfl

set_option maxRecDepth 100000 in
theorem rread_out (B E : Int) (a : Option Addr) (n c : Nat) (f : Nat → Int × Int) (K W t : Int) (w : World) (hr : LRd w w.heap.size a n f) (hv : Val B E f n) (hP : Pol K W) (b0 : -8000000000000000000 ≤ t) (b1 : t ≤ 8000000000000000000) (hI : inW f n K W t = false) :
    Calls Tryd.prog 27 #[.agg #[.int .i64 B, .int .i64 E, .slice a n c], .agg #[.int .i64 K, .int .i64 W], .int .i64 t] w fun e w' => e = .returned (.int .i64 (rdg B f n K W t)) ∧ Below w.heap.size w w' := by
  obtain ⟨P, hPP⟩ : ∃ P, pb f n K W t = P := ⟨_, rfl⟩
  have HPB := Lib.hid hPP
  have hPn : P ≤ n := by rw [← hPP]; exact pb_le f n K W t
  have hr0 := (rdg_out (B := B) hI).1
  have ob := hv.bndA hPn
  have HS := Lib.hid (show plS f n K W t = 0 by unfold plS; rw [hI, if_neg (by decide)])
  have HI := Lib.hid hI
  rw [hPP] at hr0
  obtain ⟨o, ho⟩ : ∃ o, offA B f P = o := ⟨_, rfl⟩
  rw [ho] at hr0 ob
  have HO := Lib.hid ho
  have HRD := Lib.hid hr0
  obtain ⟨ob0, ob1⟩ := ob
  have HV := Lib.hid hv
  have HP := Lib.hid hP
  clear hPP hr0 ho hv hP hI
  obtain ⟨G, hG⟩ : ∃ G, w.heap.size = G := ⟨_, rfl⟩
  obtain ⟨v0, hv0⟩ : ∃ v, (w.alloc (.cells #[.int .i64 B, .int .i64 E, .slice a n c] 24)).alloc (.cells #[.int .i64 K, .int .i64 W] 26) = v := ⟨_, rfl⟩
  have hG1 : (w.alloc (.cells #[.int .i64 B, .int .i64 E, .slice a n c] 24)).heap.size = G + 1 := by rw [← hG]; simp
  have S0' := Lib.hid (bs_new w B E a n c f K W hr)
  have S0 : Hid (Bs w v0 G (G + 1) B E a n c f K W) := Lib.hid (by rw [← hv0, ← hG]; exact S0'.out)
  clear S0' hr
  obtain ⟨t0', t1', t2', t3', t4'⟩ := S0.out.cells
  go_enter Tryd.func27, Tryd.ntmps27
  go_wp2_with fail
  clear hv0 hG1
  refine (rplace_any B E a n c f K W t v0 S0.out.lrd HV.out HP.out b0 b1).mono ?_
  rintro e v1 ⟨rfl, hbl⟩
  rw [HPB.out]
  have S1 := Lib.hid (S0.out.below hbl)
  clear hbl S0 t0' t1' t2' t3' t4'
  obtain ⟨t0, t1, t2, t3, t4⟩ := S1.out.cells
  go_wp2_with fail
  refine (rgone_any B E a n c f K W t P v1 S1.out.lrd HV.out HP.out b0 b1 HPB.out).mono ?_
  rintro e v2 ⟨rfl, hbl⟩
  rw [HS.out, HI.out]
  have S2 := Lib.hid (S1.out.below hbl)
  clear hbl S1 t0 t1 t2 t3 t4
  obtain ⟨t0, t1, t2, t3, t4⟩ := S2.out.cells
  go_wp2_with fail
  refine (roff_any B E a n c f P v2 S2.out.lrd hPn HV.out.le).mono ?_
  rintro e v3 ⟨rfl, hbl⟩
  rw [HO.out]
  have S3 := Lib.hid (S2.out.below hbl)
  clear hbl S2
  go_wp2_with fail
  go_ret
  rw [HRD.out]
  exact ⟨rfl, S3.out.bel⟩

set_option maxRecDepth 100000 in
set_option maxHeartbeats 2000000 in
theorem rread_mid (B E : Int) (a : Option Addr) (n c : Nat) (f : Nat → Int × Int) (K W t : Int) (w : World) (hr : LRd w w.heap.size a n f) (hv : Val B E f n) (hP : Pol K W) (b0 : -8000000000000000000 ≤ t) (b1 : t ≤ 8000000000000000000) (hI : inW f n K W t = true) :
    Calls Tryd.prog 27 #[.agg #[.int .i64 B, .int .i64 E, .slice a n c], .agg #[.int .i64 K, .int .i64 W], .int .i64 t] w fun e w' => e = .returned (.int .i64 (rdg B f n K W t)) ∧ Below w.heap.size w w' := by
  obtain ⟨k, hk, hPP, _, hs, hrd⟩ := rdg_mid hv hI
  have HPB := Lib.hid hPP
  have pin := (place_in (t := t) hv hP).2
  rw [hI] at pin
  obtain ⟨_, d0, d1, w2, _⟩ := pin.resolve_left (fun h => by have := h.2.2; cases this)
  have w1 := hP.w1
  have oa := hv.bndA (k := k) (by omega)
  have ob := hv.bndA (k := k + 1) (by omega)
  have hn64 := hv.le
  obtain ⟨o, ho⟩ : ∃ o, offA B f k = o := ⟨_, rfl⟩
  obtain ⟨q, hq⟩ : ∃ q, offA B f (k + 1) = q := ⟨_, rfl⟩
  obtain ⟨d, hd⟩ : ∃ d, plS f n K W t = d := ⟨_, rfl⟩
  rw [ho] at hs hrd oa
  rw [hq] at hs hrd ob
  rw [hd] at hrd d0 d1
  have HO := Lib.hid ho
  have HQO := Lib.hid hq
  have HD := Lib.hid hd
  have HI := Lib.hid hI
  have hdd : d ≤ 172800000000000 := by omega
  have cs0 : -172800000000000 ≤ (q - o) * d := by rcases hs with h | h <;> rw [h] <;> omega
  have cs1 : (q - o) * d ≤ 172800000000000 := by rcases hs with h | h <;> rw [h] <;> omega
  have HQ := Lib.hid (qok_small (a := (q - o) * d) (b := W) (by omega) (by omega) (by omega))
  have HFL := Lib.hid (flo_pos (a := (q - o) * d) (b := W) (by omega))
  have hdv : -172800000000000 ≤ (q - o) * d / W ∧ (q - o) * d / W ≤ 172800000000000 := by
    constructor
    · rw [Int.le_ediv_iff_mul_le (by omega)]
      have : -172800000000000 * W ≤ -172800000000000 * 1 := Int.mul_le_mul_of_nonpos_left (by omega) (by omega)
      omega
    · have h : (q - o) * d / W ≤ 172800000000000 / W := Int.ediv_le_ediv (by omega) cs1
      have h2 : (172800000000000 : Int) / W ≤ 172800000000000 := Int.ediv_le_self W (by omega)
      omega
  obtain ⟨z, hz⟩ : ∃ z, (q - o) * d / W = z := ⟨_, rfl⟩
  rw [hz] at hdv hrd
  have HZ := Lib.hid hz
  obtain ⟨z0, z1⟩ := hdv
  obtain ⟨oa0, oa1⟩ := oa
  obtain ⟨ob0, ob1⟩ := ob
  have HRD := Lib.hid hrd
  have HMB := Lib.hid (And.intro cs0 cs1)
  have HW := Lib.hid (And.intro w2 w1)
  have hmul : IntKind.i64.wrap ((q - o) * d) = (q - o) * d := IntWalk.i64_in _ (by omega)
  have hmul2 : wrap64 ((q - o) * d) = (q - o) * d := IntWalk.wrap64_in _ (by omega)
  have hqo : IntKind.i64.wrap (q - o) = q - o := IntWalk.i64_in _ (by omega)
  have hkw : IntKind.i64.wrap (k : Int) = (k : Int) := IntWalk.i64_in _ (by omega)
  have hk64 : (k : Int) ≤ 63 := by omega
  have HV := Lib.hid hv
  have HP := Lib.hid hP
  clear hPP hv hP hI hs hrd ho hq hd hz cs0 cs1 w1 w2 d1 pin
  obtain ⟨G, hG⟩ : ∃ G, w.heap.size = G := ⟨_, rfl⟩
  obtain ⟨v0, hv0⟩ : ∃ v, (w.alloc (.cells #[.int .i64 B, .int .i64 E, .slice a n c] 24)).alloc (.cells #[.int .i64 K, .int .i64 W] 26) = v := ⟨_, rfl⟩
  have hG1 : (w.alloc (.cells #[.int .i64 B, .int .i64 E, .slice a n c] 24)).heap.size = G + 1 := by rw [← hG]; simp
  have S0' := Lib.hid (bs_new w B E a n c f K W hr)
  have S0 : Hid (Bs w v0 G (G + 1) B E a n c f K W) := Lib.hid (by rw [← hv0, ← hG]; exact S0'.out)
  clear S0' hr
  obtain ⟨t0', t1', t2', t3', t4'⟩ := S0.out.cells
  go_enter Tryd.func27, Tryd.ntmps27
  go_wp2_with fail
  clear hv0 hG1
  refine (rplace_any B E a n c f K W t v0 S0.out.lrd HV.out HP.out b0 b1).mono ?_
  rintro e v1 ⟨rfl, hbl⟩
  rw [HPB.out]
  have S1 := Lib.hid (S0.out.below hbl)
  clear hbl S0 t0' t1' t2' t3' t4'
  obtain ⟨t0, t1, t2, t3, t4⟩ := S1.out.cells
  go_wp2_with fail
  refine (rgone_any B E a n c f K W t (k + 1) v1 S1.out.lrd HV.out HP.out b0 b1 HPB.out).mono ?_
  rintro e v2 ⟨rfl, hbl⟩
  rw [HD.out, HI.out]
  have S2 := Lib.hid (S1.out.below hbl)
  have SD : Hid (Bs w v2.drew G (G + 1) B E a n c f K W) := Lib.hid ⟨S2.out.box, S2.out.pol, S2.out.lrd, S2.out.bel.drew⟩
  clear hbl S1 t0 t1 t2 t3 t4
  obtain ⟨t0, t1, t2, t3, t4⟩ := S2.out.cells
  clear S2
  go_wp2_with fail
  go_region_held3 (fun v => v.cell? ⟨G, 0, none⟩ = some (.int .i64 B) ∧ v.cell? ⟨G, 1, none⟩ = some (.int .i64 E) ∧ v.cell? ⟨G, 2, none⟩ = some (.slice a n c) ∧ v.cell? ⟨G + 1, 1, none⟩ = some (.int .i64 W)) (go_keep)
    (first
      | (go_at_call 40; refine (roff_v (k := k + 1) (by omega) B E a n c f _ ?_ (by omega) HV.out.le).mono ?_; exact SD.out.lrd; rintro e v3 ⟨rfl, hbl⟩; rw [HQO.out]; have S3 := Lib.hid (SD.out.below hbl); clear hbl SD; obtain ⟨x0, x1, x2, x3, x4⟩ := S3.out.cells; clear t0 t1 t2 t3 t4)
      | (go_at_call 40; refine (roff_v (k := k) (by omega) B E a n c f _ ?_ (by omega) HV.out.le).mono ?_; exact S3.out.lrd; rintro e v4 ⟨rfl, hbl⟩; rw [HO.out]; have S4 := Lib.hid (S3.out.below hbl); clear hbl S3; obtain ⟨y0, y1, y2, y3, y4⟩ := S4.out.cells; clear x0 x1 x2 x3 x4)
      | (go_at_call 39; refine (rfloor_yes ((q - o) * d) W _ (by have := HMB.out; omega) (by have := HMB.out; omega) (by have := HW.out; omega) (by have := HW.out; omega) HQ.out).mono ?_; rintro e v5 ⟨rfl, hvv⟩; subst hvv; rw [HFL.out, HZ.out]))
  go_wp2_with fail
  refine (roff_v (k := k) (by omega) B E a n c f _ S4.out.lrd (by omega) HV.out.le).mono ?_
  rintro e v6 ⟨rfl, hbl⟩
  rw [HO.out]
  have S6 := Lib.hid (S4.out.below hbl)
  clear hbl S4
  go_wp2_with fail
  go_ret
  rw [HRD.out]
  exact ⟨rfl, S6.out.bel⟩
theorem rread_any (B E : Int) (a : Option Addr) (n c : Nat) (f : Nat → Int × Int) (K W t : Int) (w : World) (hr : LRd w w.heap.size a n f) (hv : Val B E f n) (hP : Pol K W) (b0 : -8000000000000000000 ≤ t) (b1 : t ≤ 8000000000000000000) :
    Calls Tryd.prog 27 #[.agg #[.int .i64 B, .int .i64 E, .slice a n c], .agg #[.int .i64 K, .int .i64 W], .int .i64 t] w fun e w' => e = .returned (.int .i64 (rdg B f n K W t)) ∧ Below w.heap.size w w' := by
  cases h : inW f n K W t
  · exact rread_out B E a n c f K W t w hr hv hP b0 b1 h
  · exact rread_mid B E a n c f K W t w hr hv hP b0 b1 h

set_option maxRecDepth 100000 in
theorem rrd_bad (B E : Int) (a : Option Addr) (n c : Nat) (f : Nat → Int × Int) (K W t : Int) (w : World) (hr : LRd w w.heap.size a n f) (h : ¬ chkS B E f n K W = 0) :
    Calls Tryd.prog 15 #[.agg #[.int .i64 B, .int .i64 E, .slice a n c], .agg #[.int .i64 K, .int .i64 W], .int .i64 t] w fun e w' => e = .returned (.tuple #[.int .i64 (rdV B E f n K W t), .int .i64 (rdE B E f n K W t)]) ∧ Below w.heap.size w w' := by
  obtain ⟨y, hy⟩ : ∃ y, chkS B E f n K W = y := ⟨_, rfl⟩
  have HY := Lib.hid hy
  have HE : Hid (rdE B E f n K W t = y) := Lib.hid (by unfold rdE; rw [if_pos h, hy])
  rw [hy] at h
  have g1 : decide (y = 0) = false := decide_eq_false h
  have g2 : (y == 0) = false := by simpa using h
  have g3 : (y != 0) = true := by simp [bne, g2]
  have H0 := Lib.hid h
  clear hy h
  obtain ⟨v0, hv0⟩ : ∃ v, (w.alloc (.cells #[.int .i64 B, .int .i64 E, .slice a n c] 24)).alloc (.cells #[.int .i64 K, .int .i64 W] 26) = v := ⟨_, rfl⟩
  have S0 := Lib.hid (bs_new w B E a n c f K W hr)
  rw [hv0] at S0
  obtain ⟨t0, t1, t2, t3, t4⟩ := S0.out.cells
  clear hr
  go_enter Tryd.func15, Tryd.ntmps15
  go_wp2_with fail
  clear hv0
  refine (rschk_any B E a n c f K W v0 S0.out.lrd).mono ?_
  rintro e v1 ⟨rfl, hbl⟩
  rw [HY.out]
  have S1 := Lib.hid (S0.out.below hbl)
  clear hbl S0 t0 t1 t2 t3 t4
  obtain ⟨t0, t1, t2, t3, t4⟩ := S1.out.cells
  go_wp2_with fail
  go_ret2
  exact ⟨rd_bad HE.out H0.out, S1.out.bel⟩

set_option maxRecDepth 100000 in
theorem rrd_time (B E : Int) (a : Option Addr) (n c : Nat) (f : Nat → Int × Int) (K W t : Int) (w : World) (hr : LRd w w.heap.size a n f) (h : chkS B E f n K W = 0) (h2 : isT t = false) :
    Calls Tryd.prog 15 #[.agg #[.int .i64 B, .int .i64 E, .slice a n c], .agg #[.int .i64 K, .int .i64 W], .int .i64 t] w fun e w' => e = .returned (.tuple #[.int .i64 (rdV B E f n K W t), .int .i64 (rdE B E f n K W t)]) ∧ Below w.heap.size w w' := by
  have HY := Lib.hid h
  have H2 := Lib.hid h2
  have HE : Hid (rdE B E f n K W t = 3) := Lib.hid (by unfold rdE; rw [if_neg (fun k => k h), if_pos h2])
  clear h h2
  obtain ⟨v0, hv0⟩ : ∃ v, (w.alloc (.cells #[.int .i64 B, .int .i64 E, .slice a n c] 24)).alloc (.cells #[.int .i64 K, .int .i64 W] 26) = v := ⟨_, rfl⟩
  have S0 := Lib.hid (bs_new w B E a n c f K W hr)
  rw [hv0] at S0
  obtain ⟨t0, t1, t2, t3, t4⟩ := S0.out.cells
  clear hr
  go_enter Tryd.func15, Tryd.ntmps15
  go_wp2_with fail
  clear hv0
  refine (rschk_any B E a n c f K W v0 S0.out.lrd).mono ?_
  rintro e v1 ⟨rfl, hbl⟩
  rw [HY.out]
  have S1 := Lib.hid (S0.out.below hbl)
  clear hbl S0 t0 t1 t2 t3 t4
  obtain ⟨t0, t1, t2, t3, t4⟩ := S1.out.cells
  go_wp2_with fail
  refine (rins_any t v1).mono ?_
  rintro e w' ⟨rfl, hw'⟩; subst w'
  rw [H2.out]
  go_wp2_with fail
  go_ret2
  exact ⟨rd_bad HE.out (by decide), S1.out.bel⟩

set_option maxRecDepth 100000 in
theorem rrd_out (B E : Int) (a : Option Addr) (n c : Nat) (f : Nat → Int × Int) (K W t : Int) (w : World) (hr : LRd w w.heap.size a n f) (h : chkS B E f n K W = 0) (h2 : isT t = true) (h3 : isT (rdg B f n K W t) = false) :
    Calls Tryd.prog 15 #[.agg #[.int .i64 B, .int .i64 E, .slice a n c], .agg #[.int .i64 K, .int .i64 W], .int .i64 t] w fun e w' => e = .returned (.tuple #[.int .i64 (rdV B E f n K W t), .int .i64 (rdE B E f n K W t)]) ∧ Below w.heap.size w w' := by
  have HY := Lib.hid h
  have H2 := Lib.hid h2
  have H3 := Lib.hid h3
  obtain ⟨hz, hP⟩ := chk_pol h
  have HV := Lib.hid (val_of hz)
  have HP := Lib.hid hP
  have tb : -8000000000000000000 ≤ t ∧ t ≤ 8000000000000000000 := of_decide_eq_true h2
  obtain ⟨tb0, tb1⟩ := tb
  have HE : Hid (rdE B E f n K W t = 3) := Lib.hid (by unfold rdE; rw [if_neg (fun k => k h), if_neg (by rw [h2]; decide), if_pos h3])
  clear h h2 h3 hz hP
  obtain ⟨v0, hv0⟩ : ∃ v, (w.alloc (.cells #[.int .i64 B, .int .i64 E, .slice a n c] 24)).alloc (.cells #[.int .i64 K, .int .i64 W] 26) = v := ⟨_, rfl⟩
  have S0 := Lib.hid (bs_new w B E a n c f K W hr)
  rw [hv0] at S0
  obtain ⟨t0, t1, t2, t3, t4⟩ := S0.out.cells
  clear hr
  go_enter Tryd.func15, Tryd.ntmps15
  go_wp2_with fail
  clear hv0
  refine (rschk_any B E a n c f K W v0 S0.out.lrd).mono ?_
  rintro e v1 ⟨rfl, hbl⟩
  rw [HY.out]
  have S1 := Lib.hid (S0.out.below hbl)
  clear hbl S0 t0 t1 t2 t3 t4
  obtain ⟨t0, t1, t2, t3, t4⟩ := S1.out.cells
  go_wp2_with fail
  refine (rins_any t v1).mono ?_
  rintro e w' ⟨rfl, hw'⟩; subst w'
  rw [H2.out]
  go_wp2_with fail
  refine (rread_any B E a n c f K W t v1 S1.out.lrd HV.out HP.out tb0 tb1).mono ?_
  rintro e v2 ⟨rfl, hbl⟩
  have S2 := Lib.hid (S1.out.below hbl)
  clear hbl S1 t0 t1 t2 t3 t4
  obtain ⟨t0, t1, t2, t3, t4⟩ := S2.out.cells
  go_wp2_with fail
  refine (rins_any (rdg B f n K W t) v2).mono ?_
  rintro e w' ⟨rfl, hw'⟩; subst w'
  rw [H3.out]
  go_wp2_with fail
  go_ret2
  exact ⟨rd_bad HE.out (by decide), S2.out.bel⟩

set_option maxRecDepth 100000 in
theorem rrd_ok (B E : Int) (a : Option Addr) (n c : Nat) (f : Nat → Int × Int) (K W t : Int) (w : World) (hr : LRd w w.heap.size a n f) (h : chkS B E f n K W = 0) (h2 : isT t = true) (h3 : isT (rdg B f n K W t) = true) :
    Calls Tryd.prog 15 #[.agg #[.int .i64 B, .int .i64 E, .slice a n c], .agg #[.int .i64 K, .int .i64 W], .int .i64 t] w fun e w' => e = .returned (.tuple #[.int .i64 (rdV B E f n K W t), .int .i64 (rdE B E f n K W t)]) ∧ Below w.heap.size w w' := by
  have HY := Lib.hid h
  have H2 := Lib.hid h2
  have H3 := Lib.hid h3
  obtain ⟨hz, hP⟩ := chk_pol h
  have HV := Lib.hid (val_of hz)
  have HP := Lib.hid hP
  have tb : -8000000000000000000 ≤ t ∧ t ≤ 8000000000000000000 := of_decide_eq_true h2
  obtain ⟨tb0, tb1⟩ := tb
  have HE : Hid (rdE B E f n K W t = 0) := Lib.hid (by unfold rdE; rw [if_neg (fun k => k h), if_neg (by rw [h2]; decide), if_neg (by rw [h3]; decide)])
  clear h h2 h3 hz hP
  obtain ⟨v0, hv0⟩ : ∃ v, (w.alloc (.cells #[.int .i64 B, .int .i64 E, .slice a n c] 24)).alloc (.cells #[.int .i64 K, .int .i64 W] 26) = v := ⟨_, rfl⟩
  have S0 := Lib.hid (bs_new w B E a n c f K W hr)
  rw [hv0] at S0
  obtain ⟨t0, t1, t2, t3, t4⟩ := S0.out.cells
  clear hr
  go_enter Tryd.func15, Tryd.ntmps15
  go_wp2_with fail
  clear hv0
  refine (rschk_any B E a n c f K W v0 S0.out.lrd).mono ?_
  rintro e v1 ⟨rfl, hbl⟩
  rw [HY.out]
  have S1 := Lib.hid (S0.out.below hbl)
  clear hbl S0 t0 t1 t2 t3 t4
  obtain ⟨t0, t1, t2, t3, t4⟩ := S1.out.cells
  go_wp2_with fail
  refine (rins_any t v1).mono ?_
  rintro e w' ⟨rfl, hw'⟩; subst w'
  rw [H2.out]
  go_wp2_with fail
  refine (rread_any B E a n c f K W t v1 S1.out.lrd HV.out HP.out tb0 tb1).mono ?_
  rintro e v2 ⟨rfl, hbl⟩
  have S2 := Lib.hid (S1.out.below hbl)
  clear hbl S1 t0 t1 t2 t3 t4
  obtain ⟨t0, t1, t2, t3, t4⟩ := S2.out.cells
  go_wp2_with fail
  refine (rins_any (rdg B f n K W t) v2).mono ?_
  rintro e w' ⟨rfl, hw'⟩; subst w'
  rw [H3.out]
  go_wp2_with fail
  refine (rread_any B E a n c f K W t v2 S2.out.lrd HV.out HP.out tb0 tb1).mono ?_
  rintro e v3 ⟨rfl, hbl⟩
  have S3 := Lib.hid (S2.out.below hbl)
  clear hbl S2 t0 t1 t2 t3 t4
  go_wp2_with fail
  go_ret2
  exact ⟨rd_good HE.out, S3.out.bel⟩

theorem rrd_any (B E : Int) (a : Option Addr) (n c : Nat) (f : Nat → Int × Int) (K W t : Int) (w : World) (hr : LRd w w.heap.size a n f) :
    Calls Tryd.prog 15 #[.agg #[.int .i64 B, .int .i64 E, .slice a n c], .agg #[.int .i64 K, .int .i64 W], .int .i64 t] w fun e w' => e = .returned (.tuple #[.int .i64 (rdV B E f n K W t), .int .i64 (rdE B E f n K W t)]) ∧ Below w.heap.size w w' := by
  by_cases h : chkS B E f n K W = 0
  · cases h2 : isT t
    · exact rrd_time B E a n c f K W t w hr h h2
    · cases h3 : isT (rdg B f n K W t)
      · exact rrd_out B E a n c f K W t w hr h h2 h3
      · exact rrd_ok B E a n c f K W t w hr h h2 h3
  · exact rrd_bad B E a n c f K W t w hr h
end Go.Proofs.YtghaboanakecjaaDoor
