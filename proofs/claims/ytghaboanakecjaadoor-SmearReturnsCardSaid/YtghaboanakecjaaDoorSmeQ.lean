/- The walks of SmearRises and SmearJoins. -/
import Derived.Test.YtghaboanakecjaaDoorSmeP
import Derived.Test.YtghaboanakecjaaDoorSmeI
namespace Go.Proofs.YtghaboanakecjaaDoor
open Go.RowKit Fx Cv Lp Sm

theorem Sm.rd_ok {B E : Int} {f : Nat → Int × Int} {n : Nat} {K W t : Int} (h : rdE B E f n K W t = 0) : chkS B E f n K W = 0 ∧ isT t = true ∧ isT (rdg B f n K W t) = true ∧ rdV B E f n K W t = rdg B f n K W t := by
  have hv : rdV B E f n K W t = rdg B f n K W t := by unfold rdV; rw [if_pos h]
  unfold rdE at h
  by_cases c : chkS B E f n K W = 0
  · rw [if_neg (fun k => k c)] at h
    cases h2 : isT t
    · rw [h2, if_pos rfl] at h; omega
    · rw [h2, if_neg (by decide)] at h
      cases h3 : isT (rdg B f n K W t)
      · rw [h3, if_pos rfl] at h; omega
      · exact ⟨c, rfl, rfl, hv⟩
  · rw [if_pos c] at h; exact absurd h c
theorem Sm.isT_b {t : Int} (h : isT t = true) : -8000000000000000000 ≤ t ∧ t ≤ 8000000000000000000 := of_decide_eq_true h

set_option maxRecDepth 100000 in
theorem rises7_large (B E : Int) (a : Option Addr) (n c : Nat) (f : Nat → Int × Int) (K W t : Int) (d : Int) (w : World) (ht : MT w) (hr : LRd w w.heap.size a n f) (hn : ¬ n ≤ 80) :
    Calls Tryd.prog 7 #[.agg #[.int .i64 B, .int .i64 E, .slice a n c], .agg #[.int .i64 K, .int .i64 W], .int .i64 t, .int .u32 d] w fun e w' => e = .returned (.bool true) ∧ Below w.heap.size w w' := by
  have HN := Lib.hid (decide_eq_false hn)
  clear hn
  have S0' := Lib.hid (bm_new w B E a n c f K W ht hr)
  clear ht hr
  obtain ⟨G, hG⟩ : ∃ G, w.heap.size = G := ⟨_, rfl⟩
  obtain ⟨v0, hv0⟩ : ∃ v, (w.alloc (.cells #[.int .i64 B, .int .i64 E, .slice a n c] 24)).alloc (.cells #[.int .i64 K, .int .i64 W] 26) = v := ⟨_, rfl⟩
  have S0 : Hid (Bm w v0 G (G + 1) B E a n c f K W) := Lib.hid (by rw [← hv0, ← hG]; exact S0'.out)
  clear S0'
  obtain ⟨t0', t1', t2', t3', t4'⟩ := S0.out.bs.cells
  have hG1 : (w.alloc (.cells #[.int .i64 B, .int .i64 E, .slice a n c] 24)).heap.size = G + 1 := by rw [← hG]; simp
  go_enter Tryd.func7, Tryd.ntmps7
  go_wp2_with fail
  clear hv0 hG1
  refine (small7_v HN.out v0).mono ?_
  rintro e v1 ⟨rfl, hbl⟩
  have S1 := Lib.hid (S0.out.below hbl)
  clear hbl S0 t0' t1' t2' t3' t4'
  obtain ⟨t0, t1, t2, t3, t4⟩ := S1.out.bs.cells
  go_wp2_with fail
  refine (awake7_any v1 S1.out.mt).mono ?_
  rintro e v2 ⟨rfl, hbl⟩
  have S2 := Lib.hid (S1.out.below hbl)
  clear hbl S1 t0 t1 t2 t3 t4
  obtain ⟨t0, t1, t2, t3, t4⟩ := S2.out.bs.cells
  go_wp2_with fail
  go_ret
  exact ⟨rfl, S2.out.bs.bel⟩

set_option maxRecDepth 100000 in
theorem rises7_one (B E : Int) (a : Option Addr) (n c : Nat) (f : Nat → Int × Int) (K W t : Int) (d : Int) (w : World) (ht : MT w) (hr : LRd w w.heap.size a n f) (hn : n ≤ 80) (hK : K = 1) :
    Calls Tryd.prog 7 #[.agg #[.int .i64 B, .int .i64 E, .slice a n c], .agg #[.int .i64 K, .int .i64 W], .int .i64 t, .int .u32 d] w fun e w' => e = .returned (.bool true) ∧ Below w.heap.size w w' := by
  have HN := Lib.hid (decide_eq_true hn)
  clear hn
  have k1 : decide (K = 1) = true := decide_eq_true hK
  have k2 : (K == 1) = true := by simpa using hK
  clear hK
  have S0' := Lib.hid (bm_new w B E a n c f K W ht hr)
  clear ht hr
  obtain ⟨G, hG⟩ : ∃ G, w.heap.size = G := ⟨_, rfl⟩
  obtain ⟨v0, hv0⟩ : ∃ v, (w.alloc (.cells #[.int .i64 B, .int .i64 E, .slice a n c] 24)).alloc (.cells #[.int .i64 K, .int .i64 W] 26) = v := ⟨_, rfl⟩
  have S0 : Hid (Bm w v0 G (G + 1) B E a n c f K W) := Lib.hid (by rw [← hv0, ← hG]; exact S0'.out)
  clear S0'
  obtain ⟨t0', t1', t2', t3', t4'⟩ := S0.out.bs.cells
  have hG1 : (w.alloc (.cells #[.int .i64 B, .int .i64 E, .slice a n c] 24)).heap.size = G + 1 := by rw [← hG]; simp
  go_enter Tryd.func7, Tryd.ntmps7
  go_wp2_with fail
  clear hv0 hG1
  refine (small7_v HN.out v0).mono ?_
  rintro e v1 ⟨rfl, hbl⟩
  have S1 := Lib.hid (S0.out.below hbl)
  clear hbl S0 t0' t1' t2' t3' t4'
  obtain ⟨t0, t1, t2, t3, t4⟩ := S1.out.bs.cells
  go_wp2_with fail
  refine (awake7_any v1 S1.out.mt).mono ?_
  rintro e v2 ⟨rfl, hbl⟩
  have S2 := Lib.hid (S1.out.below hbl)
  clear hbl S1 t0 t1 t2 t3 t4
  obtain ⟨t0, t1, t2, t3, t4⟩ := S2.out.bs.cells
  go_wp2_with fail
  go_ret
  exact ⟨rfl, S2.out.bs.bel⟩

set_option maxRecDepth 100000 in
theorem rises7_low (B E : Int) (a : Option Addr) (n c : Nat) (f : Nat → Int × Int) (K W t : Int) (d : Int) (w : World) (ht : MT w) (hr : LRd w w.heap.size a n f) (hn : n ≤ 80) (hK : K ≠ 1) (hl : t < -8000000000000000000) :
    Calls Tryd.prog 7 #[.agg #[.int .i64 B, .int .i64 E, .slice a n c], .agg #[.int .i64 K, .int .i64 W], .int .i64 t, .int .u32 d] w fun e w' => e = .returned (.bool true) ∧ Below w.heap.size w w' := by
  have HN := Lib.hid (decide_eq_true hn)
  clear hn
  have k1 : decide (K = 1) = false := decide_eq_false hK
  have k2 : (K == 1) = false := by simpa using hK
  have S0' := Lib.hid (bm_new w B E a n c f K W ht hr)
  clear ht hr
  obtain ⟨G, hG⟩ : ∃ G, w.heap.size = G := ⟨_, rfl⟩
  obtain ⟨v0, hv0⟩ : ∃ v, (w.alloc (.cells #[.int .i64 B, .int .i64 E, .slice a n c] 24)).alloc (.cells #[.int .i64 K, .int .i64 W] 26) = v := ⟨_, rfl⟩
  have S0 : Hid (Bm w v0 G (G + 1) B E a n c f K W) := Lib.hid (by rw [← hv0, ← hG]; exact S0'.out)
  clear S0'
  obtain ⟨t0', t1', t2', t3', t4'⟩ := S0.out.bs.cells
  have hG1 : (w.alloc (.cells #[.int .i64 B, .int .i64 E, .slice a n c] 24)).heap.size = G + 1 := by rw [← hG]; simp
  go_enter Tryd.func7, Tryd.ntmps7
  go_wp2_with fail
  clear hv0 hG1
  refine (small7_v HN.out v0).mono ?_
  rintro e v1 ⟨rfl, hbl⟩
  have S1 := Lib.hid (S0.out.below hbl)
  clear hbl S0 t0' t1' t2' t3' t4'
  obtain ⟨t0, t1, t2, t3, t4⟩ := S1.out.bs.cells
  go_wp2_with fail
  refine (awake7_any v1 S1.out.mt).mono ?_
  rintro e v2 ⟨rfl, hbl⟩
  have S2 := Lib.hid (S1.out.below hbl)
  clear hbl S1 t0 t1 t2 t3 t4
  obtain ⟨t0, t1, t2, t3, t4⟩ := S2.out.bs.cells
  go_wp2_with fail
  go_ret
  exact ⟨rfl, S2.out.bs.bel⟩

set_option maxRecDepth 100000 in
theorem rises7_high (B E : Int) (a : Option Addr) (n c : Nat) (f : Nat → Int × Int) (K W t : Int) (d : Int) (w : World) (ht : MT w) (hr : LRd w w.heap.size a n f) (hn : n ≤ 80) (hK : K ≠ 1) (hl : ¬ t < -8000000000000000000) (hh : 8000000000000000000 < t) :
    Calls Tryd.prog 7 #[.agg #[.int .i64 B, .int .i64 E, .slice a n c], .agg #[.int .i64 K, .int .i64 W], .int .i64 t, .int .u32 d] w fun e w' => e = .returned (.bool true) ∧ Below w.heap.size w w' := by
  have HN := Lib.hid (decide_eq_true hn)
  clear hn
  have k1 : decide (K = 1) = false := decide_eq_false hK
  have k2 : (K == 1) = false := by simpa using hK
  have l2 : decide (t < -8000000000000000000) = false := decide_eq_false hl
  have S0' := Lib.hid (bm_new w B E a n c f K W ht hr)
  clear ht hr
  obtain ⟨G, hG⟩ : ∃ G, w.heap.size = G := ⟨_, rfl⟩
  obtain ⟨v0, hv0⟩ : ∃ v, (w.alloc (.cells #[.int .i64 B, .int .i64 E, .slice a n c] 24)).alloc (.cells #[.int .i64 K, .int .i64 W] 26) = v := ⟨_, rfl⟩
  have S0 : Hid (Bm w v0 G (G + 1) B E a n c f K W) := Lib.hid (by rw [← hv0, ← hG]; exact S0'.out)
  clear S0'
  obtain ⟨t0', t1', t2', t3', t4'⟩ := S0.out.bs.cells
  have hG1 : (w.alloc (.cells #[.int .i64 B, .int .i64 E, .slice a n c] 24)).heap.size = G + 1 := by rw [← hG]; simp
  go_enter Tryd.func7, Tryd.ntmps7
  go_wp2_with fail
  clear hv0 hG1
  refine (small7_v HN.out v0).mono ?_
  rintro e v1 ⟨rfl, hbl⟩
  have S1 := Lib.hid (S0.out.below hbl)
  clear hbl S0 t0' t1' t2' t3' t4'
  obtain ⟨t0, t1, t2, t3, t4⟩ := S1.out.bs.cells
  go_wp2_with fail
  refine (awake7_any v1 S1.out.mt).mono ?_
  rintro e v2 ⟨rfl, hbl⟩
  have S2 := Lib.hid (S1.out.below hbl)
  clear hbl S1 t0 t1 t2 t3 t4
  obtain ⟨t0, t1, t2, t3, t4⟩ := S2.out.bs.cells
  go_wp2_with fail
  go_ret
  exact ⟨rfl, S2.out.bs.bel⟩

set_option maxRecDepth 100000 in
theorem rises7_e1 (B E : Int) (a : Option Addr) (n c : Nat) (f : Nat → Int × Int) (K W t : Int) (d : Int) (w : World) (ht : MT w) (hr : LRd w w.heap.size a n f) (hn : n ≤ 80) (hK : K ≠ 1) (hl : ¬ t < -8000000000000000000) (hh : ¬ 8000000000000000000 < t) (d0 : 0 ≤ d) (d1 : d ≤ 4294967295) (h1 : ¬ rdE B E f n K W t = 0) :
    Calls Tryd.prog 7 #[.agg #[.int .i64 B, .int .i64 E, .slice a n c], .agg #[.int .i64 K, .int .i64 W], .int .i64 t, .int .u32 d] w fun e w' => e = .returned (.bool true) ∧ Below w.heap.size w w' := by
  have HN := Lib.hid (decide_eq_true hn)
  clear hn
  have k1 : decide (K = 1) = false := decide_eq_false hK
  have k2 : (K == 1) = false := by simpa using hK
  have l2 : decide (t < -8000000000000000000) = false := decide_eq_false hl
  have l3 : decide (8000000000000000000 < t) = false := decide_eq_false hh
  have l4 : -8000000000000000000 ≤ t := by omega
  have l5 : t ≤ 8000000000000000000 := by omega
  have hdw : IntKind.i64.wrap d = d := IntWalk.i64_in _ (by omega)
  obtain ⟨Z1, hZ1⟩ : ∃ V, rdE B E f n K W t = V := ⟨_, rfl⟩
  obtain ⟨V1, hV1⟩ : ∃ V, rdV B E f n K W t = V := ⟨_, rfl⟩
  obtain ⟨Z2, hZ2⟩ : ∃ V, rdE B E f n K W (t + d) = V := ⟨_, rfl⟩
  obtain ⟨V2, hV2⟩ : ∃ V, rdV B E f n K W (t + d) = V := ⟨_, rfl⟩
  have HZ1 := Lib.hid hZ1
  have HV1 := Lib.hid hV1
  have HZ2 := Lib.hid hZ2
  have HV2 := Lib.hid hV2
  have p0 := h1
  rw [hZ1] at p0
  have p1 : decide (Z1 = 0) = false := decide_eq_false p0
  have p2 : (Z1 == 0) = false := by simpa using p0
  have p3 : (Z1 != 0) = true := by simp [bne, p2]
  clear hZ1 hV1 hZ2 hV2 h1
  have S0' := Lib.hid (bm_new w B E a n c f K W ht hr)
  clear ht hr
  obtain ⟨G, hG⟩ : ∃ G, w.heap.size = G := ⟨_, rfl⟩
  obtain ⟨v0, hv0⟩ : ∃ v, (w.alloc (.cells #[.int .i64 B, .int .i64 E, .slice a n c] 24)).alloc (.cells #[.int .i64 K, .int .i64 W] 26) = v := ⟨_, rfl⟩
  have S0 : Hid (Bm w v0 G (G + 1) B E a n c f K W) := Lib.hid (by rw [← hv0, ← hG]; exact S0'.out)
  clear S0'
  obtain ⟨t0', t1', t2', t3', t4'⟩ := S0.out.bs.cells
  have hG1 : (w.alloc (.cells #[.int .i64 B, .int .i64 E, .slice a n c] 24)).heap.size = G + 1 := by rw [← hG]; simp
  go_enter Tryd.func7, Tryd.ntmps7
  go_wp2_with fail
  clear hv0 hG1
  refine (small7_v HN.out v0).mono ?_
  rintro e v1 ⟨rfl, hbl⟩
  have S1 := Lib.hid (S0.out.below hbl)
  clear hbl S0 t0' t1' t2' t3' t4'
  obtain ⟨t0, t1, t2, t3, t4⟩ := S1.out.bs.cells
  go_wp2_with fail
  refine (sread_any B E a n c f K W t v1 S1.out.mt S1.out.bs.lrd).mono ?_
  rintro e v2 ⟨rfl, hbl⟩
  rw [HV1.out, HZ1.out]
  have S2 := Lib.hid (S1.out.below hbl)
  clear hbl S1 t0 t1 t2 t3 t4
  obtain ⟨t0, t1, t2, t3, t4⟩ := S2.out.bs.cells
  go_wp2_with fail
  refine (sread_any B E a n c f K W (t + d) v2 S2.out.mt S2.out.bs.lrd).mono ?_
  rintro e v3 ⟨rfl, hbl⟩
  rw [HV2.out, HZ2.out]
  have S3 := Lib.hid (S2.out.below hbl)
  clear hbl S2 t0 t1 t2 t3 t4
  obtain ⟨t0, t1, t2, t3, t4⟩ := S3.out.bs.cells
  go_wp2_with fail
  refine (awake7_any v3 S3.out.mt).mono ?_
  rintro e v4 ⟨rfl, hbl⟩
  have S4 := Lib.hid (S3.out.below hbl)
  clear hbl S3 t0 t1 t2 t3 t4
  obtain ⟨t0, t1, t2, t3, t4⟩ := S4.out.bs.cells
  go_wp2_with fail
  go_ret
  exact ⟨rfl, S4.out.bs.bel⟩

set_option maxRecDepth 100000 in
theorem rises7_e2 (B E : Int) (a : Option Addr) (n c : Nat) (f : Nat → Int × Int) (K W t : Int) (d : Int) (w : World) (ht : MT w) (hr : LRd w w.heap.size a n f) (hn : n ≤ 80) (hK : K ≠ 1) (hl : ¬ t < -8000000000000000000) (hh : ¬ 8000000000000000000 < t) (d0 : 0 ≤ d) (d1 : d ≤ 4294967295) (h1 : rdE B E f n K W t = 0) (h2 : ¬ rdE B E f n K W (t + d) = 0) :
    Calls Tryd.prog 7 #[.agg #[.int .i64 B, .int .i64 E, .slice a n c], .agg #[.int .i64 K, .int .i64 W], .int .i64 t, .int .u32 d] w fun e w' => e = .returned (.bool true) ∧ Below w.heap.size w w' := by
  have HN := Lib.hid (decide_eq_true hn)
  clear hn
  have k1 : decide (K = 1) = false := decide_eq_false hK
  have k2 : (K == 1) = false := by simpa using hK
  have l2 : decide (t < -8000000000000000000) = false := decide_eq_false hl
  have l3 : decide (8000000000000000000 < t) = false := decide_eq_false hh
  have l4 : -8000000000000000000 ≤ t := by omega
  have l5 : t ≤ 8000000000000000000 := by omega
  have hdw : IntKind.i64.wrap d = d := IntWalk.i64_in _ (by omega)
  obtain ⟨Z1, hZ1⟩ : ∃ V, rdE B E f n K W t = V := ⟨_, rfl⟩
  obtain ⟨V1, hV1⟩ : ∃ V, rdV B E f n K W t = V := ⟨_, rfl⟩
  obtain ⟨Z2, hZ2⟩ : ∃ V, rdE B E f n K W (t + d) = V := ⟨_, rfl⟩
  obtain ⟨V2, hV2⟩ : ∃ V, rdV B E f n K W (t + d) = V := ⟨_, rfl⟩
  have HZ1 := Lib.hid hZ1
  have HV1 := Lib.hid hV1
  have HZ2 := Lib.hid hZ2
  have HV2 := Lib.hid hV2
  have p0 := h2
  rw [hZ2] at p0
  rw [hZ1] at h1
  subst h1
  have p1 : decide (Z2 = 0) = false := decide_eq_false p0
  have p2 : (Z2 == 0) = false := by simpa using p0
  have p3 : (Z2 != 0) = true := by simp [bne, p2]
  clear hZ1 hV1 hZ2 hV2 h2
  have S0' := Lib.hid (bm_new w B E a n c f K W ht hr)
  clear ht hr
  obtain ⟨G, hG⟩ : ∃ G, w.heap.size = G := ⟨_, rfl⟩
  obtain ⟨v0, hv0⟩ : ∃ v, (w.alloc (.cells #[.int .i64 B, .int .i64 E, .slice a n c] 24)).alloc (.cells #[.int .i64 K, .int .i64 W] 26) = v := ⟨_, rfl⟩
  have S0 : Hid (Bm w v0 G (G + 1) B E a n c f K W) := Lib.hid (by rw [← hv0, ← hG]; exact S0'.out)
  clear S0'
  obtain ⟨t0', t1', t2', t3', t4'⟩ := S0.out.bs.cells
  have hG1 : (w.alloc (.cells #[.int .i64 B, .int .i64 E, .slice a n c] 24)).heap.size = G + 1 := by rw [← hG]; simp
  go_enter Tryd.func7, Tryd.ntmps7
  go_wp2_with fail
  clear hv0 hG1
  refine (small7_v HN.out v0).mono ?_
  rintro e v1 ⟨rfl, hbl⟩
  have S1 := Lib.hid (S0.out.below hbl)
  clear hbl S0 t0' t1' t2' t3' t4'
  obtain ⟨t0, t1, t2, t3, t4⟩ := S1.out.bs.cells
  go_wp2_with fail
  refine (sread_any B E a n c f K W t v1 S1.out.mt S1.out.bs.lrd).mono ?_
  rintro e v2 ⟨rfl, hbl⟩
  rw [HV1.out, HZ1.out]
  have S2 := Lib.hid (S1.out.below hbl)
  clear hbl S1 t0 t1 t2 t3 t4
  obtain ⟨t0, t1, t2, t3, t4⟩ := S2.out.bs.cells
  go_wp2_with fail
  refine (sread_any B E a n c f K W (t + d) v2 S2.out.mt S2.out.bs.lrd).mono ?_
  rintro e v3 ⟨rfl, hbl⟩
  rw [HV2.out, HZ2.out]
  have S3 := Lib.hid (S2.out.below hbl)
  clear hbl S2 t0 t1 t2 t3 t4
  obtain ⟨t0, t1, t2, t3, t4⟩ := S3.out.bs.cells
  go_wp2_with fail
  refine (awake7_any v3 S3.out.mt).mono ?_
  rintro e v4 ⟨rfl, hbl⟩
  have S4 := Lib.hid (S3.out.below hbl)
  clear hbl S3 t0 t1 t2 t3 t4
  obtain ⟨t0, t1, t2, t3, t4⟩ := S4.out.bs.cells
  go_wp2_with fail
  go_ret
  exact ⟨rfl, S4.out.bs.bel⟩

set_option maxRecDepth 100000 in
theorem rises7_ok (B E : Int) (a : Option Addr) (n c : Nat) (f : Nat → Int × Int) (K W t : Int) (d : Int) (w : World) (ht : MT w) (hr : LRd w w.heap.size a n f) (hn : n ≤ 80) (hK : K ≠ 1) (hl : ¬ t < -8000000000000000000) (hh : ¬ 8000000000000000000 < t) (d0 : 0 ≤ d) (d1 : d ≤ 4294967295) (h1 : rdE B E f n K W t = 0) (h2 : rdE B E f n K W (t + d) = 0) :
    Calls Tryd.prog 7 #[.agg #[.int .i64 B, .int .i64 E, .slice a n c], .agg #[.int .i64 K, .int .i64 W], .int .i64 t, .int .u32 d] w fun e w' => e = .returned (.bool true) ∧ Below w.heap.size w w' := by
  have HN := Lib.hid (decide_eq_true hn)
  clear hn
  have k1 : decide (K = 1) = false := decide_eq_false hK
  have k2 : (K == 1) = false := by simpa using hK
  have l2 : decide (t < -8000000000000000000) = false := decide_eq_false hl
  have l3 : decide (8000000000000000000 < t) = false := decide_eq_false hh
  have l4 : -8000000000000000000 ≤ t := by omega
  have l5 : t ≤ 8000000000000000000 := by omega
  have hdw : IntKind.i64.wrap d = d := IntWalk.i64_in _ (by omega)
  obtain ⟨Z1, hZ1⟩ : ∃ V, rdE B E f n K W t = V := ⟨_, rfl⟩
  obtain ⟨V1, hV1⟩ : ∃ V, rdV B E f n K W t = V := ⟨_, rfl⟩
  obtain ⟨Z2, hZ2⟩ : ∃ V, rdE B E f n K W (t + d) = V := ⟨_, rfl⟩
  obtain ⟨V2, hV2⟩ : ∃ V, rdV B E f n K W (t + d) = V := ⟨_, rfl⟩
  have HZ1 := Lib.hid hZ1
  have HV1 := Lib.hid hV1
  have HZ2 := Lib.hid hZ2
  have HV2 := Lib.hid hV2
  obtain ⟨c1, _, r1, e1⟩ := rd_ok h1
  obtain ⟨_, _, r2, e2⟩ := rd_ok h2
  obtain ⟨hz, hP⟩ := chk_pol c1
  have mo := rdg_mono (t := t) (u := t + d) (val_of hz) hP hK (by omega)
  have r1 := isT_b r1
  have r2 := isT_b r2
  rw [← e1, hV1] at r1 mo
  rw [← e2, hV2] at r2 mo
  rw [hZ1] at h1
  rw [hZ2] at h2
  subst h1
  subst h2
  obtain ⟨m1, m2⟩ := mo
  have m3 : V2 - V1 ≤ 2 * d := by omega
  have m5 : 0 ≤ V2 - V1 := by omega
  have m4 : IntKind.i64.wrap (V2 - V1) = V2 - V1 := IntWalk.i64_in _ (by omega)
  clear hZ1 hV1 hZ2 hV2 c1 e1 e2 hz hP r1 r2
  have S0' := Lib.hid (bm_new w B E a n c f K W ht hr)
  clear ht hr
  obtain ⟨G, hG⟩ : ∃ G, w.heap.size = G := ⟨_, rfl⟩
  obtain ⟨v0, hv0⟩ : ∃ v, (w.alloc (.cells #[.int .i64 B, .int .i64 E, .slice a n c] 24)).alloc (.cells #[.int .i64 K, .int .i64 W] 26) = v := ⟨_, rfl⟩
  have S0 : Hid (Bm w v0 G (G + 1) B E a n c f K W) := Lib.hid (by rw [← hv0, ← hG]; exact S0'.out)
  clear S0'
  obtain ⟨t0', t1', t2', t3', t4'⟩ := S0.out.bs.cells
  have hG1 : (w.alloc (.cells #[.int .i64 B, .int .i64 E, .slice a n c] 24)).heap.size = G + 1 := by rw [← hG]; simp
  go_enter Tryd.func7, Tryd.ntmps7
  go_wp2_with fail
  clear hv0 hG1
  refine (small7_v HN.out v0).mono ?_
  rintro e v1 ⟨rfl, hbl⟩
  have S1 := Lib.hid (S0.out.below hbl)
  clear hbl S0 t0' t1' t2' t3' t4'
  obtain ⟨t0, t1, t2, t3, t4⟩ := S1.out.bs.cells
  go_wp2_with fail
  refine (sread_any B E a n c f K W t v1 S1.out.mt S1.out.bs.lrd).mono ?_
  rintro e v2 ⟨rfl, hbl⟩
  rw [HV1.out, HZ1.out]
  have S2 := Lib.hid (S1.out.below hbl)
  clear hbl S1 t0 t1 t2 t3 t4
  obtain ⟨t0, t1, t2, t3, t4⟩ := S2.out.bs.cells
  go_wp2_with fail
  refine (sread_any B E a n c f K W (t + d) v2 S2.out.mt S2.out.bs.lrd).mono ?_
  rintro e v3 ⟨rfl, hbl⟩
  rw [HV2.out, HZ2.out]
  have S3 := Lib.hid (S2.out.below hbl)
  clear hbl S2 t0 t1 t2 t3 t4
  obtain ⟨t0, t1, t2, t3, t4⟩ := S3.out.bs.cells
  go_wp2_with fail
  refine (awake7_any v3 S3.out.mt).mono ?_
  rintro e v4 ⟨rfl, hbl⟩
  have S4 := Lib.hid (S3.out.below hbl)
  clear hbl S3 t0 t1 t2 t3 t4
  obtain ⟨t0, t1, t2, t3, t4⟩ := S4.out.bs.cells
  go_wp2_with fail
  go_ret
  exact ⟨rfl, S4.out.bs.bel⟩
theorem rises7_law (B E : Int) (a : Option Addr) (n c : Nat) (f : Nat → Int × Int) (K W t : Int) (d : Int) (w : World) (ht : MT w) (hr : LRd w w.heap.size a n f) (d0 : 0 ≤ d) (d1 : d ≤ 4294967295) :
    Calls Tryd.prog 7 #[.agg #[.int .i64 B, .int .i64 E, .slice a n c], .agg #[.int .i64 K, .int .i64 W], .int .i64 t, .int .u32 d] w fun e w' => e = .returned (.bool true) ∧ Below w.heap.size w w' := by
  by_cases hn : n ≤ 80
  · by_cases hK : K = 1
    · exact rises7_one B E a n c f K W t d w ht hr hn hK
    · by_cases hl : t < -8000000000000000000
      · exact rises7_low B E a n c f K W t d w ht hr hn hK hl
      · by_cases hh : 8000000000000000000 < t
        · exact rises7_high B E a n c f K W t d w ht hr hn hK hl hh
        · by_cases h1 : rdE B E f n K W t = 0
          · by_cases h2 : rdE B E f n K W (t + d) = 0
            · exact rises7_ok B E a n c f K W t d w ht hr hn hK hl hh d0 d1 h1 h2
            · exact rises7_e2 B E a n c f K W t d w ht hr hn hK hl hh d0 d1 h1 h2
          · exact rises7_e1 B E a n c f K W t d w ht hr hn hK hl hh d0 d1 h1
  · exact rises7_large B E a n c f K W t d w ht hr hn

set_option maxRecDepth 100000 in
theorem joins7_large (B E : Int) (a : Option Addr) (n c : Nat) (f : Nat → Int × Int) (K W t : Int) (w : World) (ht : MT w) (hr : LRd w w.heap.size a n f) (hn : ¬ n ≤ 80) :
    Calls Tryd.prog 9 #[.agg #[.int .i64 B, .int .i64 E, .slice a n c], .agg #[.int .i64 K, .int .i64 W], .int .i64 t] w fun e w' => e = .returned (.bool true) ∧ Below w.heap.size w w' := by
  have HN := Lib.hid (decide_eq_false hn)
  clear hn
  have S0' := Lib.hid (bm_new w B E a n c f K W ht hr)
  clear ht hr
  obtain ⟨G, hG⟩ : ∃ G, w.heap.size = G := ⟨_, rfl⟩
  obtain ⟨v0, hv0⟩ : ∃ v, (w.alloc (.cells #[.int .i64 B, .int .i64 E, .slice a n c] 24)).alloc (.cells #[.int .i64 K, .int .i64 W] 26) = v := ⟨_, rfl⟩
  have S0 : Hid (Bm w v0 G (G + 1) B E a n c f K W) := Lib.hid (by rw [← hv0, ← hG]; exact S0'.out)
  clear S0'
  obtain ⟨t0', t1', t2', t3', t4'⟩ := S0.out.bs.cells
  have hG1 : (w.alloc (.cells #[.int .i64 B, .int .i64 E, .slice a n c] 24)).heap.size = G + 1 := by rw [← hG]; simp
  go_enter Tryd.func9, Tryd.ntmps9
  go_wp2_with fail
  clear hv0 hG1
  refine (small7_v HN.out v0).mono ?_
  rintro e v1 ⟨rfl, hbl⟩
  have S1 := Lib.hid (S0.out.below hbl)
  clear hbl S0 t0' t1' t2' t3' t4'
  obtain ⟨t0, t1, t2, t3, t4⟩ := S1.out.bs.cells
  go_wp2_with fail
  refine (awake7_any v1 S1.out.mt).mono ?_
  rintro e v2 ⟨rfl, hbl⟩
  have S2 := Lib.hid (S1.out.below hbl)
  clear hbl S1 t0 t1 t2 t3 t4
  obtain ⟨t0, t1, t2, t3, t4⟩ := S2.out.bs.cells
  go_wp2_with fail
  go_ret
  exact ⟨rfl, S2.out.bs.bel⟩

set_option maxRecDepth 100000 in
theorem joins7_one (B E : Int) (a : Option Addr) (n c : Nat) (f : Nat → Int × Int) (K W t : Int) (w : World) (ht : MT w) (hr : LRd w w.heap.size a n f) (hn : n ≤ 80) (hK : K = 1) :
    Calls Tryd.prog 9 #[.agg #[.int .i64 B, .int .i64 E, .slice a n c], .agg #[.int .i64 K, .int .i64 W], .int .i64 t] w fun e w' => e = .returned (.bool true) ∧ Below w.heap.size w w' := by
  have HN := Lib.hid (decide_eq_true hn)
  clear hn
  have k1 : decide (K = 1) = true := decide_eq_true hK
  have k2 : (K == 1) = true := by simpa using hK
  clear hK
  have S0' := Lib.hid (bm_new w B E a n c f K W ht hr)
  clear ht hr
  obtain ⟨G, hG⟩ : ∃ G, w.heap.size = G := ⟨_, rfl⟩
  obtain ⟨v0, hv0⟩ : ∃ v, (w.alloc (.cells #[.int .i64 B, .int .i64 E, .slice a n c] 24)).alloc (.cells #[.int .i64 K, .int .i64 W] 26) = v := ⟨_, rfl⟩
  have S0 : Hid (Bm w v0 G (G + 1) B E a n c f K W) := Lib.hid (by rw [← hv0, ← hG]; exact S0'.out)
  clear S0'
  obtain ⟨t0', t1', t2', t3', t4'⟩ := S0.out.bs.cells
  have hG1 : (w.alloc (.cells #[.int .i64 B, .int .i64 E, .slice a n c] 24)).heap.size = G + 1 := by rw [← hG]; simp
  go_enter Tryd.func9, Tryd.ntmps9
  go_wp2_with fail
  clear hv0 hG1
  refine (small7_v HN.out v0).mono ?_
  rintro e v1 ⟨rfl, hbl⟩
  have S1 := Lib.hid (S0.out.below hbl)
  clear hbl S0 t0' t1' t2' t3' t4'
  obtain ⟨t0, t1, t2, t3, t4⟩ := S1.out.bs.cells
  go_wp2_with fail
  refine (awake7_any v1 S1.out.mt).mono ?_
  rintro e v2 ⟨rfl, hbl⟩
  have S2 := Lib.hid (S1.out.below hbl)
  clear hbl S1 t0 t1 t2 t3 t4
  obtain ⟨t0, t1, t2, t3, t4⟩ := S2.out.bs.cells
  go_wp2_with fail
  go_ret
  exact ⟨rfl, S2.out.bs.bel⟩

set_option maxRecDepth 100000 in
theorem joins7_bad (B E : Int) (a : Option Addr) (n c : Nat) (f : Nat → Int × Int) (K W t : Int) (w : World) (ht : MT w) (hr : LRd w w.heap.size a n f) (hn : n ≤ 80) (hK : K ≠ 1) (hc : ¬ chkS B E f n K W = 0) :
    Calls Tryd.prog 9 #[.agg #[.int .i64 B, .int .i64 E, .slice a n c], .agg #[.int .i64 K, .int .i64 W], .int .i64 t] w fun e w' => e = .returned (.bool true) ∧ Below w.heap.size w w' := by
  have HN := Lib.hid (decide_eq_true hn)
  clear hn
  have k1 : decide (K = 1) = false := decide_eq_false hK
  have k2 : (K == 1) = false := by simpa using hK
  obtain ⟨y, hy⟩ : ∃ y, chkS B E f n K W = y := ⟨_, rfl⟩
  have HY := Lib.hid hy
  have p0 := hc
  rw [hy] at p0
  have p1 : decide (y = 0) = false := decide_eq_false p0
  have p2 : (y == 0) = false := by simpa using p0
  have p3 : (y != 0) = true := by simp [bne, p2]
  clear hy hc
  have S0' := Lib.hid (bm_new w B E a n c f K W ht hr)
  clear ht hr
  obtain ⟨G, hG⟩ : ∃ G, w.heap.size = G := ⟨_, rfl⟩
  obtain ⟨v0, hv0⟩ : ∃ v, (w.alloc (.cells #[.int .i64 B, .int .i64 E, .slice a n c] 24)).alloc (.cells #[.int .i64 K, .int .i64 W] 26) = v := ⟨_, rfl⟩
  have S0 : Hid (Bm w v0 G (G + 1) B E a n c f K W) := Lib.hid (by rw [← hv0, ← hG]; exact S0'.out)
  clear S0'
  obtain ⟨t0', t1', t2', t3', t4'⟩ := S0.out.bs.cells
  have hG1 : (w.alloc (.cells #[.int .i64 B, .int .i64 E, .slice a n c] 24)).heap.size = G + 1 := by rw [← hG]; simp
  go_enter Tryd.func9, Tryd.ntmps9
  go_wp2_with fail
  clear hv0 hG1
  refine (small7_v HN.out v0).mono ?_
  rintro e v1 ⟨rfl, hbl⟩
  have S1 := Lib.hid (S0.out.below hbl)
  clear hbl S0 t0' t1' t2' t3' t4'
  obtain ⟨t0, t1, t2, t3, t4⟩ := S1.out.bs.cells
  go_wp2_with fail
  refine (schk_any B E a n c f K W v1 S1.out.mt S1.out.bs.lrd).mono ?_
  rintro e v2 ⟨rfl, hbl⟩
  rw [HY.out]
  have S2 := Lib.hid (S1.out.below hbl)
  clear hbl S1 t0 t1 t2 t3 t4
  obtain ⟨t0, t1, t2, t3, t4⟩ := S2.out.bs.cells
  go_wp2_with fail
  refine (awake7_any v2 S2.out.mt).mono ?_
  rintro e v3 ⟨rfl, hbl⟩
  have S3 := Lib.hid (S2.out.below hbl)
  clear hbl S2 t0 t1 t2 t3 t4
  obtain ⟨t0, t1, t2, t3, t4⟩ := S3.out.bs.cells
  go_wp2_with fail
  go_ret
  exact ⟨rfl, S3.out.bs.bel⟩

set_option maxRecDepth 100000 in
theorem joins7_e1 (B E : Int) (a : Option Addr) (n c : Nat) (f : Nat → Int × Int) (K W t : Int) (w : World) (ht : MT w) (hr : LRd w w.heap.size a n f) (hn : n ≤ 80) (hK : K ≠ 1) (hc : chkS B E f n K W = 0) (h1 : ¬ rdE B E f n K W t = 0) :
    Calls Tryd.prog 9 #[.agg #[.int .i64 B, .int .i64 E, .slice a n c], .agg #[.int .i64 K, .int .i64 W], .int .i64 t] w fun e w' => e = .returned (.bool true) ∧ Below w.heap.size w w' := by
  have HN := Lib.hid (decide_eq_true hn)
  clear hn
  have k1 : decide (K = 1) = false := decide_eq_false hK
  have k2 : (K == 1) = false := by simpa using hK
  have HY := Lib.hid hc
  obtain ⟨Z1, hZ1⟩ : ∃ V, rdE B E f n K W t = V := ⟨_, rfl⟩
  obtain ⟨V1, hV1⟩ : ∃ V, rdV B E f n K W t = V := ⟨_, rfl⟩
  obtain ⟨Z2, hZ2⟩ : ∃ V, rdE B E f n 1 0 t = V := ⟨_, rfl⟩
  obtain ⟨V2, hV2⟩ : ∃ V, rdV B E f n 1 0 t = V := ⟨_, rfl⟩
  have HZ1 := Lib.hid hZ1
  have HV1 := Lib.hid hV1
  have HZ2 := Lib.hid hZ2
  have HV2 := Lib.hid hV2
  have p0 := h1
  rw [hZ1] at p0
  have p1 : decide (Z1 = 0) = false := decide_eq_false p0
  have p2 : (Z1 == 0) = false := by simpa using p0
  have p3 : (Z1 != 0) = true := by simp [bne, p2]
  clear hZ1 hV1 hZ2 hV2 h1 hc
  have S0' := Lib.hid (bm_new w B E a n c f K W ht hr)
  clear ht hr
  obtain ⟨G, hG⟩ : ∃ G, w.heap.size = G := ⟨_, rfl⟩
  obtain ⟨v0, hv0⟩ : ∃ v, (w.alloc (.cells #[.int .i64 B, .int .i64 E, .slice a n c] 24)).alloc (.cells #[.int .i64 K, .int .i64 W] 26) = v := ⟨_, rfl⟩
  have S0 : Hid (Bm w v0 G (G + 1) B E a n c f K W) := Lib.hid (by rw [← hv0, ← hG]; exact S0'.out)
  clear S0'
  obtain ⟨t0', t1', t2', t3', t4'⟩ := S0.out.bs.cells
  have hG1 : (w.alloc (.cells #[.int .i64 B, .int .i64 E, .slice a n c] 24)).heap.size = G + 1 := by rw [← hG]; simp
  go_enter Tryd.func9, Tryd.ntmps9
  go_wp2_with fail
  clear hv0 hG1
  refine (small7_v HN.out v0).mono ?_
  rintro e v1 ⟨rfl, hbl⟩
  have S1 := Lib.hid (S0.out.below hbl)
  clear hbl S0 t0' t1' t2' t3' t4'
  obtain ⟨t0, t1, t2, t3, t4⟩ := S1.out.bs.cells
  go_wp2_with fail
  refine (schk_any B E a n c f K W v1 S1.out.mt S1.out.bs.lrd).mono ?_
  rintro e v2 ⟨rfl, hbl⟩
  rw [HY.out]
  have S2 := Lib.hid (S1.out.below hbl)
  clear hbl S1 t0 t1 t2 t3 t4
  obtain ⟨t0, t1, t2, t3, t4⟩ := S2.out.bs.cells
  go_wp2_with fail
  refine (sread_any B E a n c f K W t v2 S2.out.mt S2.out.bs.lrd).mono ?_
  rintro e v3 ⟨rfl, hbl⟩
  rw [HV1.out, HZ1.out]
  have S3 := Lib.hid (S2.out.below hbl)
  clear hbl S2 t0 t1 t2 t3 t4
  obtain ⟨t0, t1, t2, t3, t4⟩ := S3.out.bs.cells
  go_wp2_with fail
  refine (sread_any B E a n c f 1 0 t v3 S3.out.mt S3.out.bs.lrd).mono ?_
  rintro e v4 ⟨rfl, hbl⟩
  rw [HV2.out, HZ2.out]
  have S4 := Lib.hid (S3.out.below hbl)
  clear hbl S3 t0 t1 t2 t3 t4
  obtain ⟨t0, t1, t2, t3, t4⟩ := S4.out.bs.cells
  go_wp2_with fail
  refine (awake7_any v4 S4.out.mt).mono ?_
  rintro e v5 ⟨rfl, hbl⟩
  have S5 := Lib.hid (S4.out.below hbl)
  clear hbl S4 t0 t1 t2 t3 t4
  obtain ⟨t0, t1, t2, t3, t4⟩ := S5.out.bs.cells
  go_wp2_with fail
  go_ret
  exact ⟨rfl, S5.out.bs.bel⟩

set_option maxRecDepth 100000 in
theorem joins7_e2 (B E : Int) (a : Option Addr) (n c : Nat) (f : Nat → Int × Int) (K W t : Int) (w : World) (ht : MT w) (hr : LRd w w.heap.size a n f) (hn : n ≤ 80) (hK : K ≠ 1) (hc : chkS B E f n K W = 0) (h1 : rdE B E f n K W t = 0) (h2 : ¬ rdE B E f n 1 0 t = 0) :
    Calls Tryd.prog 9 #[.agg #[.int .i64 B, .int .i64 E, .slice a n c], .agg #[.int .i64 K, .int .i64 W], .int .i64 t] w fun e w' => e = .returned (.bool true) ∧ Below w.heap.size w w' := by
  have HN := Lib.hid (decide_eq_true hn)
  clear hn
  have k1 : decide (K = 1) = false := decide_eq_false hK
  have k2 : (K == 1) = false := by simpa using hK
  have HY := Lib.hid hc
  obtain ⟨Z1, hZ1⟩ : ∃ V, rdE B E f n K W t = V := ⟨_, rfl⟩
  obtain ⟨V1, hV1⟩ : ∃ V, rdV B E f n K W t = V := ⟨_, rfl⟩
  obtain ⟨Z2, hZ2⟩ : ∃ V, rdE B E f n 1 0 t = V := ⟨_, rfl⟩
  obtain ⟨V2, hV2⟩ : ∃ V, rdV B E f n 1 0 t = V := ⟨_, rfl⟩
  have HZ1 := Lib.hid hZ1
  have HV1 := Lib.hid hV1
  have HZ2 := Lib.hid hZ2
  have HV2 := Lib.hid hV2
  have p0 := h2
  rw [hZ2] at p0
  rw [hZ1] at h1
  subst h1
  have p1 : decide (Z2 = 0) = false := decide_eq_false p0
  have p2 : (Z2 == 0) = false := by simpa using p0
  have p3 : (Z2 != 0) = true := by simp [bne, p2]
  clear hZ1 hV1 hZ2 hV2 h2 hc
  have S0' := Lib.hid (bm_new w B E a n c f K W ht hr)
  clear ht hr
  obtain ⟨G, hG⟩ : ∃ G, w.heap.size = G := ⟨_, rfl⟩
  obtain ⟨v0, hv0⟩ : ∃ v, (w.alloc (.cells #[.int .i64 B, .int .i64 E, .slice a n c] 24)).alloc (.cells #[.int .i64 K, .int .i64 W] 26) = v := ⟨_, rfl⟩
  have S0 : Hid (Bm w v0 G (G + 1) B E a n c f K W) := Lib.hid (by rw [← hv0, ← hG]; exact S0'.out)
  clear S0'
  obtain ⟨t0', t1', t2', t3', t4'⟩ := S0.out.bs.cells
  have hG1 : (w.alloc (.cells #[.int .i64 B, .int .i64 E, .slice a n c] 24)).heap.size = G + 1 := by rw [← hG]; simp
  go_enter Tryd.func9, Tryd.ntmps9
  go_wp2_with fail
  clear hv0 hG1
  refine (small7_v HN.out v0).mono ?_
  rintro e v1 ⟨rfl, hbl⟩
  have S1 := Lib.hid (S0.out.below hbl)
  clear hbl S0 t0' t1' t2' t3' t4'
  obtain ⟨t0, t1, t2, t3, t4⟩ := S1.out.bs.cells
  go_wp2_with fail
  refine (schk_any B E a n c f K W v1 S1.out.mt S1.out.bs.lrd).mono ?_
  rintro e v2 ⟨rfl, hbl⟩
  rw [HY.out]
  have S2 := Lib.hid (S1.out.below hbl)
  clear hbl S1 t0 t1 t2 t3 t4
  obtain ⟨t0, t1, t2, t3, t4⟩ := S2.out.bs.cells
  go_wp2_with fail
  refine (sread_any B E a n c f K W t v2 S2.out.mt S2.out.bs.lrd).mono ?_
  rintro e v3 ⟨rfl, hbl⟩
  rw [HV1.out, HZ1.out]
  have S3 := Lib.hid (S2.out.below hbl)
  clear hbl S2 t0 t1 t2 t3 t4
  obtain ⟨t0, t1, t2, t3, t4⟩ := S3.out.bs.cells
  go_wp2_with fail
  refine (sread_any B E a n c f 1 0 t v3 S3.out.mt S3.out.bs.lrd).mono ?_
  rintro e v4 ⟨rfl, hbl⟩
  rw [HV2.out, HZ2.out]
  have S4 := Lib.hid (S3.out.below hbl)
  clear hbl S3 t0 t1 t2 t3 t4
  obtain ⟨t0, t1, t2, t3, t4⟩ := S4.out.bs.cells
  go_wp2_with fail
  refine (awake7_any v4 S4.out.mt).mono ?_
  rintro e v5 ⟨rfl, hbl⟩
  have S5 := Lib.hid (S4.out.below hbl)
  clear hbl S4 t0 t1 t2 t3 t4
  obtain ⟨t0, t1, t2, t3, t4⟩ := S5.out.bs.cells
  go_wp2_with fail
  go_ret
  exact ⟨rfl, S5.out.bs.bel⟩

set_option maxRecDepth 100000 in
theorem joins7_out (B E : Int) (a : Option Addr) (n c : Nat) (f : Nat → Int × Int) (K W t : Int) (w : World) (ht : MT w) (hr : LRd w w.heap.size a n f) (hn : n ≤ 80) (hK : K ≠ 1) (hc : chkS B E f n K W = 0) (h1 : rdE B E f n K W t = 0) (h2 : rdE B E f n 1 0 t = 0) (h3 : smg B E f n K W t = 0) :
    Calls Tryd.prog 9 #[.agg #[.int .i64 B, .int .i64 E, .slice a n c], .agg #[.int .i64 K, .int .i64 W], .int .i64 t] w fun e w' => e = .returned (.bool true) ∧ Below w.heap.size w w' := by
  have HN := Lib.hid (decide_eq_true hn)
  clear hn
  have k1 : decide (K = 1) = false := decide_eq_false hK
  have k2 : (K == 1) = false := by simpa using hK
  have HY := Lib.hid hc
  obtain ⟨Z1, hZ1⟩ : ∃ V, rdE B E f n K W t = V := ⟨_, rfl⟩
  obtain ⟨V1, hV1⟩ : ∃ V, rdV B E f n K W t = V := ⟨_, rfl⟩
  obtain ⟨Z2, hZ2⟩ : ∃ V, rdE B E f n 1 0 t = V := ⟨_, rfl⟩
  obtain ⟨V2, hV2⟩ : ∃ V, rdV B E f n 1 0 t = V := ⟨_, rfl⟩
  have HZ1 := Lib.hid hZ1
  have HV1 := Lib.hid hV1
  have HZ2 := Lib.hid hZ2
  have HV2 := Lib.hid hV2
  have hT := (rd_ok h1).2.1
  obtain ⟨_, _, r1, e1⟩ := rd_ok h1
  obtain ⟨_, _, r2, e2⟩ := rd_ok h2
  obtain ⟨hz, hP⟩ := chk_pol hc
  have jo := joins (val_of hz) hP hK t
  have r1 := isT_b r1
  have r2 := isT_b r2
  rw [← e1, ← e2, hV1, hV2] at jo
  rw [← e1, hV1] at r1
  rw [← e2, hV2] at r2
  have tb := isT_b (rd_ok h1).2.1
  rw [hZ1] at h1
  rw [hZ2] at h2
  subst h1
  subst h2
  have hi : inW f n K W t = false := by
    rw [← inW_plC (B := B) (val_of hz), ← show smg B E f n K W t = plC B f n K W t from if_pos ⟨hc, hT⟩, h3]; rfl
  have eq := jo.1 hi
  subst eq
  have HA := Lib.hid (show (smg B E f n K W t != 0) = false by rw [h3]; rfl)
  clear hZ1 hV1 hZ2 hV2 e1 e2 hz hP r1 r2 jo hi h3 hT tb hc
  have S0' := Lib.hid (bm_new w B E a n c f K W ht hr)
  clear ht hr
  obtain ⟨G, hG⟩ : ∃ G, w.heap.size = G := ⟨_, rfl⟩
  obtain ⟨v0, hv0⟩ : ∃ v, (w.alloc (.cells #[.int .i64 B, .int .i64 E, .slice a n c] 24)).alloc (.cells #[.int .i64 K, .int .i64 W] 26) = v := ⟨_, rfl⟩
  have S0 : Hid (Bm w v0 G (G + 1) B E a n c f K W) := Lib.hid (by rw [← hv0, ← hG]; exact S0'.out)
  clear S0'
  obtain ⟨t0', t1', t2', t3', t4'⟩ := S0.out.bs.cells
  have hG1 : (w.alloc (.cells #[.int .i64 B, .int .i64 E, .slice a n c] 24)).heap.size = G + 1 := by rw [← hG]; simp
  go_enter Tryd.func9, Tryd.ntmps9
  go_wp2_with fail
  clear hv0 hG1
  refine (small7_v HN.out v0).mono ?_
  rintro e v1 ⟨rfl, hbl⟩
  have S1 := Lib.hid (S0.out.below hbl)
  clear hbl S0 t0' t1' t2' t3' t4'
  obtain ⟨t0, t1, t2, t3, t4⟩ := S1.out.bs.cells
  go_wp2_with fail
  refine (schk_any B E a n c f K W v1 S1.out.mt S1.out.bs.lrd).mono ?_
  rintro e v2 ⟨rfl, hbl⟩
  rw [HY.out]
  have S2 := Lib.hid (S1.out.below hbl)
  clear hbl S1 t0 t1 t2 t3 t4
  obtain ⟨t0, t1, t2, t3, t4⟩ := S2.out.bs.cells
  go_wp2_with fail
  refine (sread_any B E a n c f K W t v2 S2.out.mt S2.out.bs.lrd).mono ?_
  rintro e v3 ⟨rfl, hbl⟩
  rw [HV1.out, HZ1.out]
  have S3 := Lib.hid (S2.out.below hbl)
  clear hbl S2 t0 t1 t2 t3 t4
  obtain ⟨t0, t1, t2, t3, t4⟩ := S3.out.bs.cells
  go_wp2_with fail
  refine (sread_any B E a n c f 1 0 t v3 S3.out.mt S3.out.bs.lrd).mono ?_
  rintro e v4 ⟨rfl, hbl⟩
  rw [HV2.out, HZ2.out]
  have S4 := Lib.hid (S3.out.below hbl)
  clear hbl S3 t0 t1 t2 t3 t4
  obtain ⟨t0, t1, t2, t3, t4⟩ := S4.out.bs.cells
  go_wp2_with fail
  refine (active_any B E a n c f K W t v4 S4.out.mt S4.out.bs.lrd).mono ?_
  rintro e v5 ⟨rfl, hbl⟩
  rw [HA.out]
  have S5 := Lib.hid (S4.out.below hbl)
  clear hbl S4 t0 t1 t2 t3 t4
  obtain ⟨t0, t1, t2, t3, t4⟩ := S5.out.bs.cells
  go_wp2_with fail
  refine (awake7_any v5 S5.out.mt).mono ?_
  rintro e v6 ⟨rfl, hbl⟩
  have S6 := Lib.hid (S5.out.below hbl)
  clear hbl S5 t0 t1 t2 t3 t4
  obtain ⟨t0, t1, t2, t3, t4⟩ := S6.out.bs.cells
  go_wp2_with fail
  go_ret
  exact ⟨rfl, S6.out.bs.bel⟩

set_option maxRecDepth 100000 in
theorem joins7_in (B E : Int) (a : Option Addr) (n c : Nat) (f : Nat → Int × Int) (K W t : Int) (w : World) (ht : MT w) (hr : LRd w w.heap.size a n f) (hn : n ≤ 80) (hK : K ≠ 1) (hc : chkS B E f n K W = 0) (h1 : rdE B E f n K W t = 0) (h2 : rdE B E f n 1 0 t = 0) (h3 : ¬ smg B E f n K W t = 0) :
    Calls Tryd.prog 9 #[.agg #[.int .i64 B, .int .i64 E, .slice a n c], .agg #[.int .i64 K, .int .i64 W], .int .i64 t] w fun e w' => e = .returned (.bool true) ∧ Below w.heap.size w w' := by
  have HN := Lib.hid (decide_eq_true hn)
  clear hn
  have k1 : decide (K = 1) = false := decide_eq_false hK
  have k2 : (K == 1) = false := by simpa using hK
  have HY := Lib.hid hc
  obtain ⟨Z1, hZ1⟩ : ∃ V, rdE B E f n K W t = V := ⟨_, rfl⟩
  obtain ⟨V1, hV1⟩ : ∃ V, rdV B E f n K W t = V := ⟨_, rfl⟩
  obtain ⟨Z2, hZ2⟩ : ∃ V, rdE B E f n 1 0 t = V := ⟨_, rfl⟩
  obtain ⟨V2, hV2⟩ : ∃ V, rdV B E f n 1 0 t = V := ⟨_, rfl⟩
  have HZ1 := Lib.hid hZ1
  have HV1 := Lib.hid hV1
  have HZ2 := Lib.hid hZ2
  have HV2 := Lib.hid hV2
  obtain ⟨_, _, r1, e1⟩ := rd_ok h1
  obtain ⟨_, _, r2, e2⟩ := rd_ok h2
  obtain ⟨hz, hP⟩ := chk_pol hc
  have jo := joins (val_of hz) hP hK t
  have r1 := isT_b r1
  have r2 := isT_b r2
  rw [← e1, ← e2, hV1, hV2] at jo
  rw [← e1, hV1] at r1
  rw [← e2, hV2] at r2
  have tb := isT_b (rd_ok h1).2.1
  rw [hZ1] at h1
  rw [hZ2] at h2
  subst h1
  subst h2
  have nzr := rat_nz (val_of hz) hP h3
  obtain ⟨R, hR⟩ : ∃ R, rat B E f n K W t = R := ⟨_, rfl⟩
  rw [hR] at nzr
  have HR := Lib.hid hR
  have p0 := nzr
  have p1 : decide (R = 0) = false := decide_eq_false p0
  have p2 : (R == 0) = false := by simpa using p0
  have p3 : (R != 0) = true := by simp [bne, p2]
  have HA := Lib.hid (show (smg B E f n K W t != 0) = true by simpa using h3)
  obtain ⟨_, j1, j2⟩ := jo
  have m4 : IntKind.i64.wrap (V1 - V2) = V1 - V2 := IntWalk.i64_in _ (by omega)
  clear hZ1 hV1 hZ2 hV2 e1 e2 hz hP r1 r2 h3 hR tb nzr hc
  have S0' := Lib.hid (bm_new w B E a n c f K W ht hr)
  clear ht hr
  obtain ⟨G, hG⟩ : ∃ G, w.heap.size = G := ⟨_, rfl⟩
  obtain ⟨v0, hv0⟩ : ∃ v, (w.alloc (.cells #[.int .i64 B, .int .i64 E, .slice a n c] 24)).alloc (.cells #[.int .i64 K, .int .i64 W] 26) = v := ⟨_, rfl⟩
  have S0 : Hid (Bm w v0 G (G + 1) B E a n c f K W) := Lib.hid (by rw [← hv0, ← hG]; exact S0'.out)
  clear S0'
  obtain ⟨t0', t1', t2', t3', t4'⟩ := S0.out.bs.cells
  have hG1 : (w.alloc (.cells #[.int .i64 B, .int .i64 E, .slice a n c] 24)).heap.size = G + 1 := by rw [← hG]; simp
  go_enter Tryd.func9, Tryd.ntmps9
  go_wp2_with fail
  clear hv0 hG1
  refine (small7_v HN.out v0).mono ?_
  rintro e v1 ⟨rfl, hbl⟩
  have S1 := Lib.hid (S0.out.below hbl)
  clear hbl S0 t0' t1' t2' t3' t4'
  obtain ⟨t0, t1, t2, t3, t4⟩ := S1.out.bs.cells
  go_wp2_with fail
  refine (schk_any B E a n c f K W v1 S1.out.mt S1.out.bs.lrd).mono ?_
  rintro e v2 ⟨rfl, hbl⟩
  rw [HY.out]
  have S2 := Lib.hid (S1.out.below hbl)
  clear hbl S1 t0 t1 t2 t3 t4
  obtain ⟨t0, t1, t2, t3, t4⟩ := S2.out.bs.cells
  go_wp2_with fail
  refine (sread_any B E a n c f K W t v2 S2.out.mt S2.out.bs.lrd).mono ?_
  rintro e v3 ⟨rfl, hbl⟩
  rw [HV1.out, HZ1.out]
  have S3 := Lib.hid (S2.out.below hbl)
  clear hbl S2 t0 t1 t2 t3 t4
  obtain ⟨t0, t1, t2, t3, t4⟩ := S3.out.bs.cells
  go_wp2_with fail
  refine (sread_any B E a n c f 1 0 t v3 S3.out.mt S3.out.bs.lrd).mono ?_
  rintro e v4 ⟨rfl, hbl⟩
  rw [HV2.out, HZ2.out]
  have S4 := Lib.hid (S3.out.below hbl)
  clear hbl S3 t0 t1 t2 t3 t4
  obtain ⟨t0, t1, t2, t3, t4⟩ := S4.out.bs.cells
  go_wp2_with fail
  refine (active_any B E a n c f K W t v4 S4.out.mt S4.out.bs.lrd).mono ?_
  rintro e v5 ⟨rfl, hbl⟩
  rw [HA.out]
  have S5 := Lib.hid (S4.out.below hbl)
  clear hbl S4 t0 t1 t2 t3 t4
  obtain ⟨t0, t1, t2, t3, t4⟩ := S5.out.bs.cells
  go_wp2_with fail
  refine (rate_any B E a n c f K W t v5 S5.out.mt S5.out.bs.lrd).mono ?_
  rintro e v6 ⟨rfl, hbl⟩
  rw [HR.out]
  have S6 := Lib.hid (S5.out.below hbl)
  clear hbl S5 t0 t1 t2 t3 t4
  obtain ⟨t0, t1, t2, t3, t4⟩ := S6.out.bs.cells
  go_wp2_with fail
  refine (awake7_any v6 S6.out.mt).mono ?_
  rintro e v7 ⟨rfl, hbl⟩
  have S7 := Lib.hid (S6.out.below hbl)
  clear hbl S6 t0 t1 t2 t3 t4
  obtain ⟨t0, t1, t2, t3, t4⟩ := S7.out.bs.cells
  go_wp2_with fail
  go_ret
  exact ⟨rfl, S7.out.bs.bel⟩
theorem joins7_law (B E : Int) (a : Option Addr) (n c : Nat) (f : Nat → Int × Int) (K W t : Int) (w : World) (ht : MT w) (hr : LRd w w.heap.size a n f) :
    Calls Tryd.prog 9 #[.agg #[.int .i64 B, .int .i64 E, .slice a n c], .agg #[.int .i64 K, .int .i64 W], .int .i64 t] w fun e w' => e = .returned (.bool true) ∧ Below w.heap.size w w' := by
  by_cases hn : n ≤ 80
  · by_cases hK : K = 1
    · exact joins7_one B E a n c f K W t w ht hr hn hK
    · by_cases hc : chkS B E f n K W = 0
      · by_cases h1 : rdE B E f n K W t = 0
        · by_cases h2 : rdE B E f n 1 0 t = 0
          · by_cases h3 : smg B E f n K W t = 0
            · exact joins7_out B E a n c f K W t w ht hr hn hK hc h1 h2 h3
            · exact joins7_in B E a n c f K W t w ht hr hn hK hc h1 h2 h3
          · exact joins7_e2 B E a n c f K W t w ht hr hn hK hc h1 h2
        · exact joins7_e1 B E a n c f K W t w ht hr hn hK hc h1
      · exact joins7_bad B E a n c f K W t w ht hr hn hK hc
  · exact joins7_large B E a n c f K W t w ht hr hn
end Go.Proofs.YtghaboanakecjaaDoor
