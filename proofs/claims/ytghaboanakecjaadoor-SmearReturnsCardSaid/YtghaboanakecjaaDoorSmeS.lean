/- The walk of SmearReturns. -/
import Derived.Test.YtghaboanakecjaaDoorSmeR
import Derived.Test.YtghaboanakecjaaDoorSmeQ
namespace Go.Proofs.YtghaboanakecjaaDoor
open Go.RowKit Fx Cv Lp Sm


set_option maxRecDepth 100000 in
theorem returns7_large (B E : Int) (a : Option Addr) (n c : Nat) (f : Nat → Int × Int) (K W t : Int) (w : World) (ht : MT w) (hr : LRd w w.heap.size a n f) (hn : ¬ n ≤ 80) :
    Calls Tryd.prog 8 #[.agg #[.int .i64 B, .int .i64 E, .slice a n c], .agg #[.int .i64 K, .int .i64 W], .int .i64 t] w fun e w' => e = .returned (.bool true) ∧ Below w.heap.size w w' := by
  have HN := Lib.hid (decide_eq_false hn)
  clear hn
  have S0' := Lib.hid (bm_new w B E a n c f K W ht hr)
  clear ht hr
  obtain ⟨G, hG⟩ : ∃ G, w.heap.size = G := ⟨_, rfl⟩
  obtain ⟨v0, hv0⟩ : ∃ v, (w.alloc (.cells #[.int .i64 B, .int .i64 E, .slice a n c] 24)).alloc (.cells #[.int .i64 K, .int .i64 W] 26) = v := ⟨_, rfl⟩
  have S0 : Hid (Bm w v0 G (G + 1) B E a n c f K W) := Lib.hid (by rw [← hv0, ← hG]; exact S0'.out)
  clear S0'
  obtain ⟨t0', t1', t2', t3', t4'⟩ := S0.out.bs.cells
  have hG1 : (w.alloc (.cells #[.int .i64 B, .int .i64 E, .slice a n c] 24)).heap.size = G + 1 := by rw [← hG]; simp
  go_enter Tryd.func8, Tryd.ntmps8
  go_wp2_with fail
  clear hv0 hG1
  refine (small7_v HN.out v0).mono ?_
  rintro e v1 ⟨rfl, hbl⟩
  have S1 := Lib.hid (S0.out.below hbl)
  clear hbl S0 t0' t1' t2' t3' t4'
  obtain ⟨t0, t1, t2, t3, t4⟩ := S1.out.bs.cells
  go_wp2_with fail
  refine (awake7_any v1 S1.out.mt).mono ?_
  rintro e v2 ⟨rfl, hbl⟩
  have S2 := Lib.hid (S1.out.below hbl)
  clear hbl S1 t0 t1 t2 t3 t4
  obtain ⟨t0, t1, t2, t3, t4⟩ := S2.out.bs.cells
  go_wp2_with fail
  go_ret
  exact ⟨rfl, S2.out.bs.bel⟩

set_option maxRecDepth 100000 in
theorem returns7_bad (B E : Int) (a : Option Addr) (n c : Nat) (f : Nat → Int × Int) (K W t : Int) (w : World) (ht : MT w) (hr : LRd w w.heap.size a n f) (hn : n ≤ 80) (h1 : ¬ rdE B E f n K W t = 0) :
    Calls Tryd.prog 8 #[.agg #[.int .i64 B, .int .i64 E, .slice a n c], .agg #[.int .i64 K, .int .i64 W], .int .i64 t] w fun e w' => e = .returned (.bool true) ∧ Below w.heap.size w w' := by
  have HN := Lib.hid (decide_eq_true hn)
  clear hn
  obtain ⟨Z1, hZ1⟩ : ∃ V, rdE B E f n K W t = V := ⟨_, rfl⟩
  obtain ⟨V1, hV1⟩ : ∃ V, rdV B E f n K W t = V := ⟨_, rfl⟩
  have HZ1 := Lib.hid hZ1
  have HV1 := Lib.hid hV1
  have p0 := h1
  rw [hZ1] at p0
  have p1 : decide (Z1 = 0) = false := decide_eq_false p0
  have p2 : (Z1 == 0) = false := by simpa using p0
  have p3 : (Z1 != 0) = true := by simp [bne, p2]
  clear hZ1 hV1 h1
  have S0' := Lib.hid (bm_new w B E a n c f K W ht hr)
  clear ht hr
  obtain ⟨G, hG⟩ : ∃ G, w.heap.size = G := ⟨_, rfl⟩
  obtain ⟨v0, hv0⟩ : ∃ v, (w.alloc (.cells #[.int .i64 B, .int .i64 E, .slice a n c] 24)).alloc (.cells #[.int .i64 K, .int .i64 W] 26) = v := ⟨_, rfl⟩
  have S0 : Hid (Bm w v0 G (G + 1) B E a n c f K W) := Lib.hid (by rw [← hv0, ← hG]; exact S0'.out)
  clear S0'
  obtain ⟨t0', t1', t2', t3', t4'⟩ := S0.out.bs.cells
  have hG1 : (w.alloc (.cells #[.int .i64 B, .int .i64 E, .slice a n c] 24)).heap.size = G + 1 := by rw [← hG]; simp
  go_enter Tryd.func8, Tryd.ntmps8
  go_wp2_with fail
  clear hv0 hG1
  refine (small7_v HN.out v0).mono ?_
  rintro e v1 ⟨rfl, hbl⟩
  have S1 := Lib.hid (S0.out.below hbl)
  clear hbl S0 t0' t1' t2' t3' t4'
  obtain ⟨t0, t1, t2, t3, t4⟩ := S1.out.bs.cells
  go_wp2_with fail
  refine (sread_any B E a n c f K W t v1 S1.out.mt S1.out.bs.lrd).mono ?_
  rintro e v2 ⟨rfl, hbl⟩
  rw [HV1.out, HZ1.out]
  have S2 := Lib.hid (S1.out.below hbl)
  clear hbl S1 t0 t1 t2 t3 t4
  obtain ⟨t0, t1, t2, t3, t4⟩ := S2.out.bs.cells
  go_wp2_with fail
  refine (awake7_any v2 S2.out.mt).mono ?_
  rintro e v3 ⟨rfl, hbl⟩
  have S3 := Lib.hid (S2.out.below hbl)
  clear hbl S2 t0 t1 t2 t3 t4
  obtain ⟨t0, t1, t2, t3, t4⟩ := S3.out.bs.cells
  go_wp2_with fail
  go_ret
  exact ⟨rfl, S3.out.bs.bel⟩

set_option maxRecDepth 100000 in
theorem returns7_ok (B E : Int) (a : Option Addr) (n c : Nat) (f : Nat → Int × Int) (K W t : Int) (w : World) (ht : MT w) (hr : LRd w w.heap.size a n f) (hn : n ≤ 80) (h1 : rdE B E f n K W t = 0) :
    Calls Tryd.prog 8 #[.agg #[.int .i64 B, .int .i64 E, .slice a n c], .agg #[.int .i64 K, .int .i64 W], .int .i64 t] w fun e w' => e = .returned (.bool true) ∧ Below w.heap.size w w' := by
  have HN := Lib.hid (decide_eq_true hn)
  clear hn
  obtain ⟨Z1, hZ1⟩ : ∃ V, rdE B E f n K W t = V := ⟨_, rfl⟩
  obtain ⟨V1, hV1⟩ : ∃ V, rdV B E f n K W t = V := ⟨_, rfl⟩
  have HZ1 := Lib.hid hZ1
  have HV1 := Lib.hid hV1
  obtain ⟨c1, i1, r1, e1⟩ := rd_ok h1
  have HRT : Hid (∀ X e, TaiR B E f n K W V1 X e → e = 0 ∧ rdE B E f n K W X = 0 ∧ rdV B E f n K W X = V1 ∧ X ≤ t) := Lib.hid (fun X e hh => by
    have ev : rdg B f n K W t = V1 := e1.symm.trans hV1
    rw [← ev] at hh ⊢
    obtain ⟨a1, a2, a3, a4⟩ := returns c1 i1 r1 hh
    have z : rdE B E f n K W X = 0 := by
      unfold rdE
      rw [if_neg (fun k => k c1), if_neg (by rw [a2]; decide), if_neg (by rw [a3, r1]; decide)]
    exact ⟨a1, z, by unfold rdV; rw [if_pos z, a3], a4⟩)
  have rb := isT_b r1
  rw [← e1, hV1] at rb
  obtain ⟨rb0, rb1⟩ := rb
  rw [hZ1] at h1
  subst h1
  clear hZ1 hV1 c1 i1 r1 e1
  have S0' := Lib.hid (bm_new w B E a n c f K W ht hr)
  clear ht hr
  obtain ⟨G, hG⟩ : ∃ G, w.heap.size = G := ⟨_, rfl⟩
  obtain ⟨v0, hv0⟩ : ∃ v, (w.alloc (.cells #[.int .i64 B, .int .i64 E, .slice a n c] 24)).alloc (.cells #[.int .i64 K, .int .i64 W] 26) = v := ⟨_, rfl⟩
  have S0 : Hid (Bm w v0 G (G + 1) B E a n c f K W) := Lib.hid (by rw [← hv0, ← hG]; exact S0'.out)
  clear S0'
  obtain ⟨t0', t1', t2', t3', t4'⟩ := S0.out.bs.cells
  have hG1 : (w.alloc (.cells #[.int .i64 B, .int .i64 E, .slice a n c] 24)).heap.size = G + 1 := by rw [← hG]; simp
  go_enter Tryd.func8, Tryd.ntmps8
  go_wp2_with fail
  clear hv0 hG1
  refine (small7_v HN.out v0).mono ?_
  rintro e v1 ⟨rfl, hbl⟩
  have S1 := Lib.hid (S0.out.below hbl)
  clear hbl S0 t0' t1' t2' t3' t4'
  obtain ⟨t0, t1, t2, t3, t4⟩ := S1.out.bs.cells
  go_wp2_with fail
  refine (sread_any B E a n c f K W t v1 S1.out.mt S1.out.bs.lrd).mono ?_
  rintro e v2 ⟨rfl, hbl⟩
  rw [HV1.out, HZ1.out]
  have S2 := Lib.hid (S1.out.below hbl)
  clear hbl S1 t0 t1 t2 t3 t4
  obtain ⟨t0, t1, t2, t3, t4⟩ := S2.out.bs.cells
  go_wp2_with fail
  refine (stai_any B E a n c f K W V1 v2 S2.out.mt S2.out.bs.lrd (by omega) (by omega)).mono ?_
  rintro e v3 ⟨X, e0, rfl, hT, hbl⟩
  obtain ⟨rfl, hx1, hx2, hx3⟩ := HRT.out X e0 hT
  have HX1 := Lib.hid hx1
  have HX2 := Lib.hid hx2
  clear hx1 hx2 hT HRT
  have S3 := Lib.hid (S2.out.below hbl)
  clear hbl S2 t0 t1 t2 t3 t4
  obtain ⟨t0, t1, t2, t3, t4⟩ := S3.out.bs.cells
  go_wp2_with fail
  refine (sread_any B E a n c f K W X v3 S3.out.mt S3.out.bs.lrd).mono ?_
  rintro e v4 ⟨rfl, hbl⟩
  rw [HX2.out, HX1.out]
  have S4 := Lib.hid (S3.out.below hbl)
  clear hbl S3 t0 t1 t2 t3 t4
  obtain ⟨t0, t1, t2, t3, t4⟩ := S4.out.bs.cells
  go_wp2_with fail
  refine (awake7_any v4 S4.out.mt).mono ?_
  rintro e v5 ⟨rfl, hbl⟩
  have S5 := Lib.hid (S4.out.below hbl)
  clear hbl S4 t0 t1 t2 t3 t4
  obtain ⟨t0, t1, t2, t3, t4⟩ := S5.out.bs.cells
  go_wp2_with fail
  go_ret
  exact ⟨rfl, S5.out.bs.bel⟩
theorem returns7_law (B E : Int) (a : Option Addr) (n c : Nat) (f : Nat → Int × Int) (K W t : Int) (w : World) (ht : MT w) (hr : LRd w w.heap.size a n f) :
    Calls Tryd.prog 8 #[.agg #[.int .i64 B, .int .i64 E, .slice a n c], .agg #[.int .i64 K, .int .i64 W], .int .i64 t] w fun e w' => e = .returned (.bool true) ∧ Below w.heap.size w w' := by
  by_cases hn : n ≤ 80
  · by_cases h1 : rdE B E f n K W t = 0
    · exact returns7_ok B E a n c f K W t w ht hr hn h1
    · exact returns7_bad B E a n c f K W t w ht hr hn h1
  · exact returns7_large B E a n c f K W t w ht hr hn
end Go.Proofs.YtghaboanakecjaaDoor
