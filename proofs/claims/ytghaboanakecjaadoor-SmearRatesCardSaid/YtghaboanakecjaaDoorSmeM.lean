/- Contracts of layer 7: the specification's rates. -/
import Derived.Test.YtghaboanakecjaaDoorSmeL
namespace Go.Proofs.YtghaboanakecjaaDoor
open Go.RowKit Fx Cv Lp Sm


set_option maxRecDepth 100000 in
theorem ract_bad (B E : Int) (a : Option Addr) (n c : Nat) (f : Nat → Int × Int) (K W t : Int) (w : World) (hr : LRd w w.heap.size a n f) (h : ¬ chkS B E f n K W = 0) :
    Calls Tryd.prog 19 #[.agg #[.int .i64 B, .int .i64 E, .slice a n c], .agg #[.int .i64 K, .int .i64 W], .int .i64 t] w fun e w' => e = .returned (.bool (smg B E f n K W t != 0)) ∧ Below w.heap.size w w' := by
  obtain ⟨y, hy⟩ : ∃ y, chkS B E f n K W = y := ⟨_, rfl⟩
  have HY := Lib.hid hy
  have HE : Hid (smg B E f n K W t = 0) := Lib.hid (if_neg (fun k => h k.1))
  rw [hy] at h
  have g1 : decide (y = 0) = false := decide_eq_false h
  have g2 : (y == 0) = false := by simpa using h
  have g3 : (y != 0) = true := by simp [bne, g2]
  clear hy h
  obtain ⟨G, hG⟩ : ∃ G, w.heap.size = G := ⟨_, rfl⟩
  obtain ⟨v0, hv0⟩ : ∃ v, (w.alloc (.cells #[.int .i64 B, .int .i64 E, .slice a n c] 24)).alloc (.cells #[.int .i64 K, .int .i64 W] 26) = v := ⟨_, rfl⟩
  have hG1 : (w.alloc (.cells #[.int .i64 B, .int .i64 E, .slice a n c] 24)).heap.size = G + 1 := by rw [← hG]; simp
  have S0' := Lib.hid (bs_new w B E a n c f K W hr)
  have S0 : Hid (Bs w v0 G (G + 1) B E a n c f K W) := Lib.hid (by rw [← hv0, ← hG]; exact S0'.out)
  clear S0' hr
  obtain ⟨t0', t1', t2', t3', t4'⟩ := S0.out.cells
  go_enter Tryd.func19, Tryd.ntmps19
  go_wp2_with fail
  clear hv0 hG1
  refine (rschk_any B E a n c f K W v0 S0.out.lrd).mono ?_
  rintro e v1 ⟨rfl, hbl⟩
  rw [HY.out]
  have S1 := Lib.hid (S0.out.below hbl)
  clear hbl S0 t0' t1' t2' t3' t4'
  obtain ⟨t0, t1, t2, t3, t4⟩ := S1.out.cells
  go_wp2_with fail
  go_ret
  rw [HE.out]
  exact ⟨rfl, S1.out.bel⟩

set_option maxRecDepth 100000 in
theorem ract_time (B E : Int) (a : Option Addr) (n c : Nat) (f : Nat → Int × Int) (K W t : Int) (w : World) (hr : LRd w w.heap.size a n f) (h : chkS B E f n K W = 0) (h2 : isT t = false) :
    Calls Tryd.prog 19 #[.agg #[.int .i64 B, .int .i64 E, .slice a n c], .agg #[.int .i64 K, .int .i64 W], .int .i64 t] w fun e w' => e = .returned (.bool (smg B E f n K W t != 0)) ∧ Below w.heap.size w w' := by
  have HY := Lib.hid h
  have H2 := Lib.hid h2
  have HE : Hid (smg B E f n K W t = 0) := Lib.hid (if_neg (fun k => by rw [h2] at k; exact absurd k.2 (by decide)))
  clear h h2
  obtain ⟨G, hG⟩ : ∃ G, w.heap.size = G := ⟨_, rfl⟩
  obtain ⟨v0, hv0⟩ : ∃ v, (w.alloc (.cells #[.int .i64 B, .int .i64 E, .slice a n c] 24)).alloc (.cells #[.int .i64 K, .int .i64 W] 26) = v := ⟨_, rfl⟩
  have hG1 : (w.alloc (.cells #[.int .i64 B, .int .i64 E, .slice a n c] 24)).heap.size = G + 1 := by rw [← hG]; simp
  have S0' := Lib.hid (bs_new w B E a n c f K W hr)
  have S0 : Hid (Bs w v0 G (G + 1) B E a n c f K W) := Lib.hid (by rw [← hv0, ← hG]; exact S0'.out)
  clear S0' hr
  obtain ⟨t0', t1', t2', t3', t4'⟩ := S0.out.cells
  go_enter Tryd.func19, Tryd.ntmps19
  go_wp2_with fail
  clear hv0 hG1
  refine (rschk_any B E a n c f K W v0 S0.out.lrd).mono ?_
  rintro e v1 ⟨rfl, hbl⟩
  rw [HY.out]
  have S1 := Lib.hid (S0.out.below hbl)
  clear hbl S0 t0' t1' t2' t3' t4'
  obtain ⟨t0, t1, t2, t3, t4⟩ := S1.out.cells
  go_wp2_with fail
  refine (rins_any t v1).mono ?_
  rintro e w' ⟨rfl, hw'⟩; subst w'
  rw [H2.out]
  go_wp2_with fail
  go_ret
  rw [HE.out]
  exact ⟨rfl, S1.out.bel⟩

set_option maxRecDepth 100000 in
theorem ract_ok (B E : Int) (a : Option Addr) (n c : Nat) (f : Nat → Int × Int) (K W t : Int) (w : World) (hr : LRd w w.heap.size a n f) (h : chkS B E f n K W = 0) (h2 : isT t = true) :
    Calls Tryd.prog 19 #[.agg #[.int .i64 B, .int .i64 E, .slice a n c], .agg #[.int .i64 K, .int .i64 W], .int .i64 t] w fun e w' => e = .returned (.bool (smg B E f n K W t != 0)) ∧ Below w.heap.size w w' := by
  have HY := Lib.hid h
  have H2 := Lib.hid h2
  obtain ⟨hz, hP⟩ := chk_pol h
  have HV := Lib.hid (val_of hz)
  have HP := Lib.hid hP
  have tb : -8000000000000000000 ≤ t ∧ t ≤ 8000000000000000000 := of_decide_eq_true h2
  obtain ⟨tb0, tb1⟩ := tb
  have HE : Hid ((smg B E f n K W t != 0) = inW f n K W t) := Lib.hid (by rw [show smg B E f n K W t = plC B f n K W t from if_pos ⟨h, h2⟩, inW_plC (val_of hz)])
  obtain ⟨P, hPP⟩ : ∃ P, pb f n K W t = P := ⟨_, rfl⟩
  have HPB := Lib.hid hPP
  obtain ⟨d, hd⟩ : ∃ d, plS f n K W t = d := ⟨_, rfl⟩
  have HD := Lib.hid hd
  obtain ⟨q, hq⟩ : ∃ q, inW f n K W t = q := ⟨_, rfl⟩
  have HQ := Lib.hid hq
  clear h h2 hz hP hPP hd hq
  obtain ⟨G, hG⟩ : ∃ G, w.heap.size = G := ⟨_, rfl⟩
  obtain ⟨v0, hv0⟩ : ∃ v, (w.alloc (.cells #[.int .i64 B, .int .i64 E, .slice a n c] 24)).alloc (.cells #[.int .i64 K, .int .i64 W] 26) = v := ⟨_, rfl⟩
  have hG1 : (w.alloc (.cells #[.int .i64 B, .int .i64 E, .slice a n c] 24)).heap.size = G + 1 := by rw [← hG]; simp
  have S0' := Lib.hid (bs_new w B E a n c f K W hr)
  have S0 : Hid (Bs w v0 G (G + 1) B E a n c f K W) := Lib.hid (by rw [← hv0, ← hG]; exact S0'.out)
  clear S0' hr
  obtain ⟨t0', t1', t2', t3', t4'⟩ := S0.out.cells
  go_enter Tryd.func19, Tryd.ntmps19
  go_wp2_with fail
  clear hv0 hG1
  refine (rschk_any B E a n c f K W v0 S0.out.lrd).mono ?_
  rintro e v1 ⟨rfl, hbl⟩
  rw [HY.out]
  have S1 := Lib.hid (S0.out.below hbl)
  clear hbl S0 t0' t1' t2' t3' t4'
  obtain ⟨t0, t1, t2, t3, t4⟩ := S1.out.cells
  go_wp2_with fail
  refine (rins_any t v1).mono ?_
  rintro e w' ⟨rfl, hw'⟩; subst w'
  rw [H2.out]
  go_wp2_with fail
  have SD : Hid (Bs w v1.drew G (G + 1) B E a n c f K W) := Lib.hid ⟨S1.out.box, S1.out.pol, S1.out.lrd, S1.out.bel.drew⟩
  clear S1
  go_region_held3 (fun v => v.cell? ⟨G, 0, none⟩ = some (.int .i64 B) ∧ v.cell? ⟨G, 1, none⟩ = some (.int .i64 E) ∧ v.cell? ⟨G, 2, none⟩ = some (.slice a n c) ∧ v.cell? ⟨G + 1, 0, none⟩ = some (.int .i64 K) ∧ v.cell? ⟨G + 1, 1, none⟩ = some (.int .i64 W)) (go_keep)
    (first
      | (go_at_call 37; refine (rplace_any B E a n c f K W t _ ?_ HV.out HP.out tb0 tb1).mono ?_; exact SD.out.lrd; rintro e v3 ⟨rfl, hbl⟩; rw [HPB.out]; have S3 := Lib.hid (SD.out.below hbl); clear hbl SD; obtain ⟨x0, x1, x2, x3, x4⟩ := S3.out.cells; clear t0 t1 t2 t3 t4)
      | (go_at_call 36; refine (rgone_any B E a n c f K W t P _ ?_ HV.out HP.out tb0 tb1 HPB.out).mono ?_; exact S3.out.lrd; rintro e v4 ⟨rfl, hbl⟩; rw [HD.out, HQ.out]; have S4 := Lib.hid (S3.out.below hbl); clear hbl S3; obtain ⟨y0, y1, y2, y3, y4⟩ := S4.out.cells; clear x0 x1 x2 x3 x4))
  go_wp2_with fail
  go_ret
  rw [HE.out, HQ.out]
  exact ⟨rfl, S4.out.bel⟩
theorem ract_any (B E : Int) (a : Option Addr) (n c : Nat) (f : Nat → Int × Int) (K W t : Int) (w : World) (hr : LRd w w.heap.size a n f) :
    Calls Tryd.prog 19 #[.agg #[.int .i64 B, .int .i64 E, .slice a n c], .agg #[.int .i64 K, .int .i64 W], .int .i64 t] w fun e w' => e = .returned (.bool (smg B E f n K W t != 0)) ∧ Below w.heap.size w w' := by
  by_cases h : chkS B E f n K W = 0
  · cases h2 : isT t
    · exact ract_time B E a n c f K W t w hr h h2
    · exact ract_ok B E a n c f K W t w hr h h2
  · exact ract_bad B E a n c f K W t w hr h

set_option maxRecDepth 100000 in
theorem rrat_no (B E : Int) (a : Option Addr) (n c : Nat) (f : Nat → Int × Int) (K W t : Int) (w : World) (hr : LRd w w.heap.size a n f) (h : smg B E f n K W t = 0) :
    Calls Tryd.prog 21 #[.agg #[.int .i64 B, .int .i64 E, .slice a n c], .agg #[.int .i64 K, .int .i64 W], .int .i64 t] w fun e w' => e = .returned (.int .i64 (rat B E f n K W t)) ∧ Below w.heap.size w w' := by
  have HY := Lib.hid (show (smg B E f n K W t != 0) = false by rw [h]; rfl)
  have HE : Hid (rat B E f n K W t = 0) := Lib.hid (if_pos h)
  clear h
  obtain ⟨G, hG⟩ : ∃ G, w.heap.size = G := ⟨_, rfl⟩
  obtain ⟨v0, hv0⟩ : ∃ v, (w.alloc (.cells #[.int .i64 B, .int .i64 E, .slice a n c] 24)).alloc (.cells #[.int .i64 K, .int .i64 W] 26) = v := ⟨_, rfl⟩
  have hG1 : (w.alloc (.cells #[.int .i64 B, .int .i64 E, .slice a n c] 24)).heap.size = G + 1 := by rw [← hG]; simp
  have S0' := Lib.hid (bs_new w B E a n c f K W hr)
  have S0 : Hid (Bs w v0 G (G + 1) B E a n c f K W) := Lib.hid (by rw [← hv0, ← hG]; exact S0'.out)
  clear S0' hr
  obtain ⟨t0', t1', t2', t3', t4'⟩ := S0.out.cells
  go_enter Tryd.func21, Tryd.ntmps21
  go_wp2_with fail
  clear hv0 hG1
  refine (ract_any B E a n c f K W t v0 S0.out.lrd).mono ?_
  rintro e v1 ⟨rfl, hbl⟩
  rw [HY.out]
  have S1 := Lib.hid (S0.out.below hbl)
  clear hbl S0 t0' t1' t2' t3' t4'
  go_wp2_with fail
  go_ret
  rw [HE.out]
  exact ⟨rfl, S1.out.bel⟩

set_option maxRecDepth 100000 in
set_option maxHeartbeats 2000000 in
theorem rrat_yes (B E : Int) (a : Option Addr) (n c : Nat) (f : Nat → Int × Int) (K W t : Int) (w : World) (hr : LRd w w.heap.size a n f) (h : ¬ smg B E f n K W t = 0) :
    Calls Tryd.prog 21 #[.agg #[.int .i64 B, .int .i64 E, .slice a n c], .agg #[.int .i64 K, .int .i64 W], .int .i64 t] w fun e w' => e = .returned (.int .i64 (rat B E f n K W t)) ∧ Below w.heap.size w w' := by
  have hh : chkS B E f n K W = 0 ∧ isT t = true := Classical.byContradiction (fun k => h (if_neg k))
  have hg : smg B E f n K W t = plC B f n K W t := if_pos hh
  obtain ⟨hz, hP⟩ := chk_pol hh.1
  have hv := val_of hz
  have tb : -8000000000000000000 ≤ t ∧ t ≤ 8000000000000000000 := of_decide_eq_true hh.2
  obtain ⟨tb0, tb1⟩ := tb
  have hI : inW f n K W t = true := by
    rw [← inW_plC (B := B) hv, ← hg]
    simpa using h
  have HY : Hid ((smg B E f n K W t != 0) = true) := Lib.hid (by simpa using h)
  obtain ⟨k, hk, hPP, hc, hs, _⟩ := rdg_mid hv hI
  have HPB := Lib.hid hPP
  have w1 := hP.w1
  have w2 := ((place_in (t := t) hv hP).2.resolve_left (fun k => by rw [hI] at k; exact absurd k.2.2 (by decide))).2.2.2.1
  have oa := hv.bndA (k := k) (by omega)
  have ob := hv.bndA (k := k + 1) (by omega)
  have hn64 := hv.le
  rw [← hg] at hc
  obtain ⟨o, ho⟩ : ∃ o, offA B f k = o := ⟨_, rfl⟩
  obtain ⟨q, hq⟩ : ∃ q, offA B f (k + 1) = q := ⟨_, rfl⟩
  rw [ho] at hs hc oa
  rw [hq] at hs hc ob
  have HO := Lib.hid ho
  have HQO := Lib.hid hq
  have HE : Hid (rat B E f n K W t = (o - q) * 1000000000 / W) := Lib.hid (by unfold rat; rw [if_neg h, hc, show -(q - o) = o - q by omega])
  have HQ := Lib.hid (qok_small (a := (o - q) * 1000000000) (b := W) (by omega) (by omega) (by omega))
  have HFL := Lib.hid (flo_pos (a := (o - q) * 1000000000) (b := W) (by omega))
  obtain ⟨oa0, oa1⟩ := oa
  obtain ⟨ob0, ob1⟩ := ob
  have HW := Lib.hid (And.intro w2 w1)
  have hqo : IntKind.i64.wrap (o - q) = o - q := IntWalk.i64_in _ (by omega)
  have hqm : IntKind.i64.wrap ((o - q) * 1000000000) = (o - q) * 1000000000 := IntWalk.i64_in _ (by omega)
  have hkw : IntKind.i64.wrap (k : Int) = (k : Int) := IntWalk.i64_in _ (by omega)
  have hk64 : (k : Int) ≤ 63 := by omega
  have HV := Lib.hid hv
  have HP := Lib.hid hP
  clear hPP hv hP hI hs ho hq w1 w2 h hh hg hz hc
  obtain ⟨G, hG⟩ : ∃ G, w.heap.size = G := ⟨_, rfl⟩
  obtain ⟨v0, hv0⟩ : ∃ v, (w.alloc (.cells #[.int .i64 B, .int .i64 E, .slice a n c] 24)).alloc (.cells #[.int .i64 K, .int .i64 W] 26) = v := ⟨_, rfl⟩
  have hG1 : (w.alloc (.cells #[.int .i64 B, .int .i64 E, .slice a n c] 24)).heap.size = G + 1 := by rw [← hG]; simp
  have S0' := Lib.hid (bs_new w B E a n c f K W hr)
  have S0 : Hid (Bs w v0 G (G + 1) B E a n c f K W) := Lib.hid (by rw [← hv0, ← hG]; exact S0'.out)
  clear S0' hr
  obtain ⟨t0', t1', t2', t3', t4'⟩ := S0.out.cells
  go_enter Tryd.func21, Tryd.ntmps21
  go_wp2_with fail
  clear hv0 hG1
  refine (ract_any B E a n c f K W t v0 S0.out.lrd).mono ?_
  rintro e v1 ⟨rfl, hbl⟩
  rw [HY.out]
  have S1 := Lib.hid (S0.out.below hbl)
  clear hbl S0 t0' t1' t2' t3' t4'
  obtain ⟨t0, t1, t2, t3, t4⟩ := S1.out.cells
  go_wp2_with fail
  refine (rplace_any B E a n c f K W t v1 S1.out.lrd HV.out HP.out tb0 tb1).mono ?_
  rintro e v2 ⟨rfl, hbl⟩
  rw [HPB.out]
  have S2 := Lib.hid (S1.out.below hbl)
  have SD : Hid (Bs w v2.drew G (G + 1) B E a n c f K W) := Lib.hid ⟨S2.out.box, S2.out.pol, S2.out.lrd, S2.out.bel.drew⟩
  clear hbl S1 t0 t1 t2 t3 t4
  obtain ⟨t0, t1, t2, t3, t4⟩ := S2.out.cells
  clear S2
  go_wp2_with fail
  go_region_held3 (fun v => v.cell? ⟨G, 0, none⟩ = some (.int .i64 B) ∧ v.cell? ⟨G, 1, none⟩ = some (.int .i64 E) ∧ v.cell? ⟨G, 2, none⟩ = some (.slice a n c) ∧ v.cell? ⟨G + 1, 1, none⟩ = some (.int .i64 W)) (go_keep)
    (first
      | (go_at_call 40; refine (roff_v (k := k) (by omega) B E a n c f _ ?_ (by omega) HV.out.le).mono ?_; exact SD.out.lrd; rintro e v3 ⟨rfl, hbl⟩; rw [HO.out]; have S3 := Lib.hid (SD.out.below hbl); clear hbl SD; obtain ⟨x0, x1, x2, x3, x4⟩ := S3.out.cells; clear t0 t1 t2 t3 t4)
      | (go_at_call 40; refine (roff_v (k := k + 1) (by omega) B E a n c f _ ?_ (by omega) HV.out.le).mono ?_; exact S3.out.lrd; rintro e v4 ⟨rfl, hbl⟩; rw [HQO.out]; have S4 := Lib.hid (S3.out.below hbl); clear hbl S3; obtain ⟨y0, y1, y2, y3, y4⟩ := S4.out.cells; clear x0 x1 x2 x3 x4)
      | (go_at_call 39; refine (rfloor_yes ((o - q) * 1000000000) W _ (by omega) (by omega) (by have := HW.out; omega) (by have := HW.out; omega) HQ.out).mono ?_; rintro e v5 ⟨rfl, hvv⟩; subst hvv; rw [HFL.out]))
  go_wp2_with fail
  go_ret
  rw [HE.out]
  exact ⟨rfl, S4.out.bel⟩
theorem rrat_any (B E : Int) (a : Option Addr) (n c : Nat) (f : Nat → Int × Int) (K W t : Int) (w : World) (hr : LRd w w.heap.size a n f) :
    Calls Tryd.prog 21 #[.agg #[.int .i64 B, .int .i64 E, .slice a n c], .agg #[.int .i64 K, .int .i64 W], .int .i64 t] w fun e w' => e = .returned (.int .i64 (rat B E f n K W t)) ∧ Below w.heap.size w w' := by
  by_cases h : smg B E f n K W t = 0
  · exact rrat_no B E a n c f K W t w hr h
  · exact rrat_yes B E a n c f K W t w hr h
end Go.Proofs.YtghaboanakecjaaDoor
