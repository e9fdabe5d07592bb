/- The walk of SmearReads. -/
import Derived.Test.YtghaboanakecjaaDoorSmeL
namespace Go.Proofs.YtghaboanakecjaaDoor
open Go.RowKit Fx Cv Lp Sm

set_option maxRecDepth 100000 in
theorem reads7_large (B E : Int) (a : Option Addr) (n c : Nat) (f : Nat → Int × Int) (K W t : Int) (w : World) (ht : MT w) (hr : LRd w w.heap.size a n f) (hn : ¬ n ≤ 80) :
    Calls Tryd.prog 4 #[.agg #[.int .i64 B, .int .i64 E, .slice a n c], .agg #[.int .i64 K, .int .i64 W], .int .i64 t] w fun e w' => e = .returned (.bool true) ∧ Below w.heap.size w w' := by
  have HN := Lib.hid (decide_eq_false hn)
  clear hn
  have S0' := Lib.hid (bm_new w B E a n c f K W ht hr)
  clear ht hr
  obtain ⟨G, hG⟩ : ∃ G, w.heap.size = G := ⟨_, rfl⟩
  obtain ⟨v0, hv0⟩ : ∃ v, (w.alloc (.cells #[.int .i64 B, .int .i64 E, .slice a n c] 24)).alloc (.cells #[.int .i64 K, .int .i64 W] 26) = v := ⟨_, rfl⟩
  have S0 : Hid (Bm w v0 G (G + 1) B E a n c f K W) := Lib.hid (by rw [← hv0, ← hG]; exact S0'.out)
  clear S0'
  obtain ⟨t0', t1', t2', t3', t4'⟩ := S0.out.bs.cells
  have hG1 : (w.alloc (.cells #[.int .i64 B, .int .i64 E, .slice a n c] 24)).heap.size = G + 1 := by rw [← hG]; simp
  go_enter Tryd.func4, Tryd.ntmps4
  go_wp2_with fail
  clear hv0 hG1
  refine (small7_v HN.out v0).mono ?_
  rintro e v1 ⟨rfl, hbl⟩
  have S1 := Lib.hid (S0.out.below hbl)
  clear hbl S0 t0' t1' t2' t3' t4'
  obtain ⟨t0, t1, t2, t3, t4⟩ := S1.out.bs.cells
  go_wp2_with fail
  refine (awake7_any v1 S1.out.mt).mono ?_
  rintro e v2 ⟨rfl, hbl⟩
  have S2 := Lib.hid (S1.out.below hbl)
  clear hbl S1 t0 t1 t2 t3 t4
  obtain ⟨t0, t1, t2, t3, t4⟩ := S2.out.bs.cells
  go_wp2_with fail
  go_ret
  exact ⟨rfl, S2.out.bs.bel⟩

set_option maxRecDepth 100000 in
theorem reads7_fits (B E : Int) (a : Option Addr) (n c : Nat) (f : Nat → Int × Int) (K W t : Int) (w : World) (ht : MT w) (hr : LRd w w.heap.size a n f) (hn : n ≤ 80) :
    Calls Tryd.prog 4 #[.agg #[.int .i64 B, .int .i64 E, .slice a n c], .agg #[.int .i64 K, .int .i64 W], .int .i64 t] w fun e w' => e = .returned (.bool true) ∧ Below w.heap.size w w' := by
  have HN := Lib.hid (decide_eq_true hn)
  clear hn
  obtain ⟨V, hV⟩ : ∃ V, rdV B E f n K W t = V := ⟨_, rfl⟩
  obtain ⟨Z, hZ⟩ : ∃ V, rdE B E f n K W t = V := ⟨_, rfl⟩
  have HV := Lib.hid hV
  have HZ := Lib.hid hZ
  clear hV hZ
  have S0' := Lib.hid (bm_new w B E a n c f K W ht hr)
  clear ht hr
  obtain ⟨G, hG⟩ : ∃ G, w.heap.size = G := ⟨_, rfl⟩
  obtain ⟨v0, hv0⟩ : ∃ v, (w.alloc (.cells #[.int .i64 B, .int .i64 E, .slice a n c] 24)).alloc (.cells #[.int .i64 K, .int .i64 W] 26) = v := ⟨_, rfl⟩
  have S0 : Hid (Bm w v0 G (G + 1) B E a n c f K W) := Lib.hid (by rw [← hv0, ← hG]; exact S0'.out)
  clear S0'
  obtain ⟨t0', t1', t2', t3', t4'⟩ := S0.out.bs.cells
  have hG1 : (w.alloc (.cells #[.int .i64 B, .int .i64 E, .slice a n c] 24)).heap.size = G + 1 := by rw [← hG]; simp
  go_enter Tryd.func4, Tryd.ntmps4
  go_wp2_with fail
  clear hv0 hG1
  refine (small7_v HN.out v0).mono ?_
  rintro e v1 ⟨rfl, hbl⟩
  have S1 := Lib.hid (S0.out.below hbl)
  clear hbl S0 t0' t1' t2' t3' t4'
  obtain ⟨t0, t1, t2, t3, t4⟩ := S1.out.bs.cells
  go_wp2_with fail
  refine (sread_any B E a n c f K W t v1 S1.out.mt S1.out.bs.lrd).mono ?_
  rintro e v2 ⟨rfl, hbl⟩
  rw [HV.out, HZ.out]
  have S2 := Lib.hid (S1.out.below hbl)
  clear hbl S1 t0 t1 t2 t3 t4
  obtain ⟨t0, t1, t2, t3, t4⟩ := S2.out.bs.cells
  go_wp2_with fail
  refine (rrd_any B E a n c f K W t v2 S2.out.bs.lrd).mono ?_
  rintro e v3 ⟨rfl, hbl⟩
  rw [HV.out, HZ.out]
  have S3 := Lib.hid (S2.out.below hbl)
  clear hbl S2 t0 t1 t2 t3 t4
  obtain ⟨t0, t1, t2, t3, t4⟩ := S3.out.bs.cells
  go_wp2_with fail
  refine (awake7_any v3 S3.out.mt).mono ?_
  rintro e v4 ⟨rfl, hbl⟩
  have S4 := Lib.hid (S3.out.below hbl)
  clear hbl S3 t0 t1 t2 t3 t4
  obtain ⟨t0, t1, t2, t3, t4⟩ := S4.out.bs.cells
  go_wp2_with fail
  go_ret
  exact ⟨rfl, S4.out.bs.bel⟩
theorem reads7_law (B E : Int) (a : Option Addr) (n c : Nat) (f : Nat → Int × Int) (K W t : Int) (w : World) (ht : MT w) (hr : LRd w w.heap.size a n f) :
    Calls Tryd.prog 4 #[.agg #[.int .i64 B, .int .i64 E, .slice a n c], .agg #[.int .i64 K, .int .i64 W], .int .i64 t] w fun e w' => e = .returned (.bool true) ∧ Below w.heap.size w w' := by
  by_cases hn : n ≤ 80
  · exact reads7_fits B E a n c f K W t w ht hr hn
  · exact reads7_large B E a n c f K W t w ht hr hn
end Go.Proofs.YtghaboanakecjaaDoor
