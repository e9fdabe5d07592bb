/- The walk of TopScales. -/
import Derived.Test.YtgeklbpkmfeheaaDoorSmeP
import Derived.Test.YtgeklbpkmfeheaaDoorSmeI
namespace Go.Proofs.YtgeklbpkmfeheaaDoor
open Go.RowKit Fx Cv Lp Sm

def Sm.fz : Nat → Int × Int := fun _ => (0, 0)
theorem aw02_r : rdV 10 0 fz 0 1 0 10000000000 = 0 ∧ rdE 10 0 fz 0 1 0 10000000000 = 0 := ⟨by kernel_rfl, by kernel_rfl⟩
set_option maxRecDepth 100000 in
theorem awake02_any (w : World) (ht : MT w) :
    Calls Tryd.prog 5 #[] w fun e w' => e = .returned (.bool true) ∧ Below w.heap.size w w' := by
  have HR : LRd w w.heap.size none 0 fz := fun h => absurd h (by omega)
  have HM := Lib.hid ht
  clear ht
  go_enter Tryd.func5, Tryd.ntmps5
  go_wp2_with fail
  refine (sread_any 10 0 none 0 0 fz 1 0 10000000000 w HM.out HR).mono ?_
  rintro e v1 ⟨rfl, hbl⟩
  rw [aw02_r.1, aw02_r.2]
  have S1 := Lib.hid hbl
  clear hbl
  go_wp2_with fail
  go_ret
  exact ⟨rfl, S1.out⟩
theorem Sm.ut_zero {B E : Int} {f : Nat → Int × Int} {n : Nat} {t : Int} (hz : chkL B E f n = 0) (t0 : -7000000000 ≤ t) (t1 : t ≤ 7000000000) : utE B E f n t = 0 := by
  have hb := (val_of hz).bndA (psT_le f n t)
  unfold utE
  rw [if_neg (fun k => k hz), if_pos]
  refine ⟨okI_yes (by omega) (by omega), decide_eq_true ?_⟩
  unfold utU
  split <;> omega
theorem Sm.label {B E : Int} {f : Nat → Int × Int} {n : Nat} {K W t : Int} (hz : chkL B E f n = 0) (hP : Pol K W) (hK : K ≠ 1) (hi : inW f n K W (t * 1000000000) = false) (he : utE B E f n t = 0) (hp : utP B E f n t = false) :
    rdg B f n K W (t * 1000000000) = utV B E f n t * 1000000000 := by
  rw [(joins (val_of hz) hP hK (t * 1000000000)).1 hi]
  have hv := val_of hz
  obtain ⟨h1, h2⟩ := psT_spec f n t
  have cg : ∀ i, enI f 1 0 i = ((f i).1 + (f i).2) * 1000000000 := fun i => by
    rw [en_one]; unfold fsI sft chg; rw [if_neg (by decide), if_neg (by decide)]; omega
  have e1 : psW f n 1 0 (t * 1000000000) = psT f n t := psW_eq (psT_le f n t) (fun i hi => by have := h1 i hi; rw [cg]; omega) (fun hl => by have := h2 hl; rw [cg]; omega)
  have hi1 : inW f n 1 0 (t * 1000000000) = false := by
    cases h : inW f n 1 0 (t * 1000000000)
    · rfl
    · have b := (place_in (B := B) (E := E) (t := t * 1000000000) hv pol_one).2
      rw [h] at b
      have := (b.resolve_left (fun h => by have := h.2.2; cases this)).2.2.2.1
      omega
  obtain ⟨hr, _⟩ := rdg_out (B := B) hi1
  have e : pb f n 1 0 (t * 1000000000) = psT f n t := by unfold pb; rw [hi1, if_neg (by decide), e1]
  rw [hr, e]
  unfold utP at hp
  rw [if_pos he] at hp
  unfold utV utU
  rw [if_pos he, hp, if_neg (by decide)]
  omega
theorem Sm.rd_fine {B E : Int} {f : Nat → Int × Int} {n : Nat} {K W t : Int} (hc : chkS B E f n K W = 0) (t0 : -7100000000000000000 ≤ t) (t1 : t ≤ 7100000000000000000) : rdE B E f n K W t = 0 ∧ rdV B E f n K W t = rdg B f n K W t ∧ -7200000000000000000 ≤ rdg B f n K W t ∧ rdg B f n K W t ≤ 7200000000000000000 := by
  obtain ⟨hz, hP⟩ := chk_pol hc
  have hn := rdg_near (val_of hz) hP t
  have h0 : rdE B E f n K W t = 0 := by
    unfold rdE
    rw [if_neg (fun k => k hc), if_neg (by rw [show isT t = true from decide_eq_true (by omega)]; decide), if_neg (by rw [show isT (rdg B f n K W t) = true from decide_eq_true (by omega)]; decide)]
  refine ⟨h0, by unfold rdV; rw [if_pos h0], by omega, by omega⟩

set_option maxRecDepth 100000 in
theorem scales_large (B E : Int) (a : Option Addr) (n c : Nat) (f : Nat → Int × Int) (K W t m : Int) (w : World) (ht : MT w) (hr : LRd w w.heap.size a n f) (hn : ¬ n ≤ 100) :
    Calls Tryd.prog 3 #[.agg #[.int .i64 B, .int .i64 E, .slice a n c], .agg #[.int .i64 K, .int .i64 W], .int .i64 t, .int .i64 m] w fun e w' => e = .returned (.bool true) ∧ Below w.heap.size w w' := by
  have hn2 : (100 : Int) < n := by omega
  clear hn
  have S0' := Lib.hid (bm_new w B E a n c f K W ht hr)
  clear ht hr
  obtain ⟨G, hG⟩ : ∃ G, w.heap.size = G := ⟨_, rfl⟩
  obtain ⟨v0, hv0⟩ : ∃ v, (w.alloc (.cells #[.int .i64 B, .int .i64 E, .slice a n c] 24)).alloc (.cells #[.int .i64 K, .int .i64 W] 26) = v := ⟨_, rfl⟩
  have S0 : Hid (Bm w v0 G (G + 1) B E a n c f K W) := Lib.hid (by rw [← hv0, ← hG]; exact S0'.out)
  clear S0'
  obtain ⟨t0', t1', t2', t3', t4'⟩ := S0.out.bs.cells
  have hG1 : (w.alloc (.cells #[.int .i64 B, .int .i64 E, .slice a n c] 24)).heap.size = G + 1 := by rw [← hG]; simp
  go_enter Tryd.func3, Tryd.ntmps3
  go_wp2_with fail
  clear hv0 hG1
  refine (awake02_any v0 S0.out.mt).mono ?_
  rintro e v1 ⟨rfl, hbl⟩
  have S1 := Lib.hid (S0.out.below hbl)
  clear hbl S0 t0' t1' t2' t3' t4'
  obtain ⟨t0, t1, t2, t3, t4⟩ := S1.out.bs.cells
  go_wp2_with fail
  go_ret
  exact ⟨rfl, S1.out.bs.bel⟩

set_option maxRecDepth 100000 in
theorem scales_bad (B E : Int) (a : Option Addr) (n c : Nat) (f : Nat → Int × Int) (K W t m : Int) (w : World) (ht : MT w) (hr : LRd w w.heap.size a n f) (hn : n ≤ 100) (hc : ¬ chkS B E f n K W = 0) :
    Calls Tryd.prog 3 #[.agg #[.int .i64 B, .int .i64 E, .slice a n c], .agg #[.int .i64 K, .int .i64 W], .int .i64 t, .int .i64 m] w fun e w' => e = .returned (.bool true) ∧ Below w.heap.size w w' := by
  have hn2 : (n : Int) ≤ 100 := by omega
  have hn3 : decide ((100 : Int) < n) = false := decide_eq_false (by omega)
  clear hn
  obtain ⟨y, hy⟩ : ∃ y, chkS B E f n K W = y := ⟨_, rfl⟩
  have HY := Lib.hid hy
  have p0 := hc
  rw [hy] at p0
  have p1 : decide (y = 0) = false := decide_eq_false p0
  have p2 : (y == 0) = false := by simpa using p0
  have p3 : (y != 0) = true := by simp [bne, p2]
  clear hy hc
  have S0' := Lib.hid (bm_new w B E a n c f K W ht hr)
  clear ht hr
  obtain ⟨G, hG⟩ : ∃ G, w.heap.size = G := ⟨_, rfl⟩
  obtain ⟨v0, hv0⟩ : ∃ v, (w.alloc (.cells #[.int .i64 B, .int .i64 E, .slice a n c] 24)).alloc (.cells #[.int .i64 K, .int .i64 W] 26) = v := ⟨_, rfl⟩
  have S0 : Hid (Bm w v0 G (G + 1) B E a n c f K W) := Lib.hid (by rw [← hv0, ← hG]; exact S0'.out)
  clear S0'
  obtain ⟨t0', t1', t2', t3', t4'⟩ := S0.out.bs.cells
  have hG1 : (w.alloc (.cells #[.int .i64 B, .int .i64 E, .slice a n c] 24)).heap.size = G + 1 := by rw [← hG]; simp
  go_enter Tryd.func3, Tryd.ntmps3
  go_wp2_with fail
  clear hv0 hG1
  refine (schk_any B E a n c f K W v0 S0.out.mt S0.out.bs.lrd).mono ?_
  rintro e v1 ⟨rfl, hbl⟩
  rw [HY.out]
  have S1 := Lib.hid (S0.out.below hbl)
  clear hbl S0 t0' t1' t2' t3' t4'
  obtain ⟨t0, t1, t2, t3, t4⟩ := S1.out.bs.cells
  go_wp2_with fail
  refine (awake02_any v1 S1.out.mt).mono ?_
  rintro e v2 ⟨rfl, hbl⟩
  have S2 := Lib.hid (S1.out.below hbl)
  clear hbl S1 t0 t1 t2 t3 t4
  obtain ⟨t0, t1, t2, t3, t4⟩ := S2.out.bs.cells
  go_wp2_with fail
  go_ret
  exact ⟨rfl, S2.out.bs.bel⟩

set_option maxRecDepth 100000 in
theorem scales_low (B E : Int) (a : Option Addr) (n c : Nat) (f : Nat → Int × Int) (K W t m : Int) (w : World) (ht : MT w) (hr : LRd w w.heap.size a n f) (hn : n ≤ 100) (hc : chkS B E f n K W = 0) (h1 : t < -7000000000) :
    Calls Tryd.prog 3 #[.agg #[.int .i64 B, .int .i64 E, .slice a n c], .agg #[.int .i64 K, .int .i64 W], .int .i64 t, .int .i64 m] w fun e w' => e = .returned (.bool true) ∧ Below w.heap.size w w' := by
  have hn2 : (n : Int) ≤ 100 := by omega
  have hn3 : decide ((100 : Int) < n) = false := decide_eq_false (by omega)
  clear hn
  have HY := Lib.hid hc
  clear hc
  have S0' := Lib.hid (bm_new w B E a n c f K W ht hr)
  clear ht hr
  obtain ⟨G, hG⟩ : ∃ G, w.heap.size = G := ⟨_, rfl⟩
  obtain ⟨v0, hv0⟩ : ∃ v, (w.alloc (.cells #[.int .i64 B, .int .i64 E, .slice a n c] 24)).alloc (.cells #[.int .i64 K, .int .i64 W] 26) = v := ⟨_, rfl⟩
  have S0 : Hid (Bm w v0 G (G + 1) B E a n c f K W) := Lib.hid (by rw [← hv0, ← hG]; exact S0'.out)
  clear S0'
  obtain ⟨t0', t1', t2', t3', t4'⟩ := S0.out.bs.cells
  have hG1 : (w.alloc (.cells #[.int .i64 B, .int .i64 E, .slice a n c] 24)).heap.size = G + 1 := by rw [← hG]; simp
  go_enter Tryd.func3, Tryd.ntmps3
  go_wp2_with fail
  clear hv0 hG1
  refine (schk_any B E a n c f K W v0 S0.out.mt S0.out.bs.lrd).mono ?_
  rintro e v1 ⟨rfl, hbl⟩
  rw [HY.out]
  have S1 := Lib.hid (S0.out.below hbl)
  clear hbl S0 t0' t1' t2' t3' t4'
  obtain ⟨t0, t1, t2, t3, t4⟩ := S1.out.bs.cells
  go_wp2_with fail
  refine (awake02_any v1 S1.out.mt).mono ?_
  rintro e v2 ⟨rfl, hbl⟩
  have S2 := Lib.hid (S1.out.below hbl)
  clear hbl S1 t0 t1 t2 t3 t4
  obtain ⟨t0, t1, t2, t3, t4⟩ := S2.out.bs.cells
  go_wp2_with fail
  go_ret
  exact ⟨rfl, S2.out.bs.bel⟩

set_option maxRecDepth 100000 in
theorem scales_high (B E : Int) (a : Option Addr) (n c : Nat) (f : Nat → Int × Int) (K W t m : Int) (w : World) (ht : MT w) (hr : LRd w w.heap.size a n f) (hn : n ≤ 100) (hc : chkS B E f n K W = 0) (h1 : ¬ t < -7000000000) (h2 : 7000000000 < t) :
    Calls Tryd.prog 3 #[.agg #[.int .i64 B, .int .i64 E, .slice a n c], .agg #[.int .i64 K, .int .i64 W], .int .i64 t, .int .i64 m] w fun e w' => e = .returned (.bool true) ∧ Below w.heap.size w w' := by
  have hn2 : (n : Int) ≤ 100 := by omega
  have hn3 : decide ((100 : Int) < n) = false := decide_eq_false (by omega)
  clear hn
  have HY := Lib.hid hc
  clear hc
  have l1 : decide (t < -7000000000) = false := decide_eq_false h1
  have S0' := Lib.hid (bm_new w B E a n c f K W ht hr)
  clear ht hr
  obtain ⟨G, hG⟩ : ∃ G, w.heap.size = G := ⟨_, rfl⟩
  obtain ⟨v0, hv0⟩ : ∃ v, (w.alloc (.cells #[.int .i64 B, .int .i64 E, .slice a n c] 24)).alloc (.cells #[.int .i64 K, .int .i64 W] 26) = v := ⟨_, rfl⟩
  have S0 : Hid (Bm w v0 G (G + 1) B E a n c f K W) := Lib.hid (by rw [← hv0, ← hG]; exact S0'.out)
  clear S0'
  obtain ⟨t0', t1', t2', t3', t4'⟩ := S0.out.bs.cells
  have hG1 : (w.alloc (.cells #[.int .i64 B, .int .i64 E, .slice a n c] 24)).heap.size = G + 1 := by rw [← hG]; simp
  go_enter Tryd.func3, Tryd.ntmps3
  go_wp2_with fail
  clear hv0 hG1
  refine (schk_any B E a n c f K W v0 S0.out.mt S0.out.bs.lrd).mono ?_
  rintro e v1 ⟨rfl, hbl⟩
  rw [HY.out]
  have S1 := Lib.hid (S0.out.below hbl)
  clear hbl S0 t0' t1' t2' t3' t4'
  obtain ⟨t0, t1, t2, t3, t4⟩ := S1.out.bs.cells
  go_wp2_with fail
  refine (awake02_any v1 S1.out.mt).mono ?_
  rintro e v2 ⟨rfl, hbl⟩
  have S2 := Lib.hid (S1.out.below hbl)
  clear hbl S1 t0 t1 t2 t3 t4
  obtain ⟨t0, t1, t2, t3, t4⟩ := S2.out.bs.cells
  go_wp2_with fail
  go_ret
  exact ⟨rfl, S2.out.bs.bel⟩

set_option maxRecDepth 100000 in
theorem scales_neg (B E : Int) (a : Option Addr) (n c : Nat) (f : Nat → Int × Int) (K W t m : Int) (w : World) (ht : MT w) (hr : LRd w w.heap.size a n f) (hn : n ≤ 100) (hc : chkS B E f n K W = 0) (h1 : ¬ t < -7000000000) (h2 : ¬ 7000000000 < t) (h3 : m < 0) :
    Calls Tryd.prog 3 #[.agg #[.int .i64 B, .int .i64 E, .slice a n c], .agg #[.int .i64 K, .int .i64 W], .int .i64 t, .int .i64 m] w fun e w' => e = .returned (.bool true) ∧ Below w.heap.size w w' := by
  have hn2 : (n : Int) ≤ 100 := by omega
  have hn3 : decide ((100 : Int) < n) = false := decide_eq_false (by omega)
  clear hn
  have HY := Lib.hid hc
  clear hc
  have l1 : decide (t < -7000000000) = false := decide_eq_false h1
  have l2 : decide (7000000000 < t) = false := decide_eq_false h2
  have S0' := Lib.hid (bm_new w B E a n c f K W ht hr)
  clear ht hr
  obtain ⟨G, hG⟩ : ∃ G, w.heap.size = G := ⟨_, rfl⟩
  obtain ⟨v0, hv0⟩ : ∃ v, (w.alloc (.cells #[.int .i64 B, .int .i64 E, .slice a n c] 24)).alloc (.cells #[.int .i64 K, .int .i64 W] 26) = v := ⟨_, rfl⟩
  have S0 : Hid (Bm w v0 G (G + 1) B E a n c f K W) := Lib.hid (by rw [← hv0, ← hG]; exact S0'.out)
  clear S0'
  obtain ⟨t0', t1', t2', t3', t4'⟩ := S0.out.bs.cells
  have hG1 : (w.alloc (.cells #[.int .i64 B, .int .i64 E, .slice a n c] 24)).heap.size = G + 1 := by rw [← hG]; simp
  go_enter Tryd.func3, Tryd.ntmps3
  go_wp2_with fail
  clear hv0 hG1
  refine (schk_any B E a n c f K W v0 S0.out.mt S0.out.bs.lrd).mono ?_
  rintro e v1 ⟨rfl, hbl⟩
  rw [HY.out]
  have S1 := Lib.hid (S0.out.below hbl)
  clear hbl S0 t0' t1' t2' t3' t4'
  obtain ⟨t0, t1, t2, t3, t4⟩ := S1.out.bs.cells
  go_wp2_with fail
  refine (awake02_any v1 S1.out.mt).mono ?_
  rintro e v2 ⟨rfl, hbl⟩
  have S2 := Lib.hid (S1.out.below hbl)
  clear hbl S1 t0 t1 t2 t3 t4
  obtain ⟨t0, t1, t2, t3, t4⟩ := S2.out.bs.cells
  go_wp2_with fail
  go_ret
  exact ⟨rfl, S2.out.bs.bel⟩

set_option maxRecDepth 100000 in
theorem scales_far (B E : Int) (a : Option Addr) (n c : Nat) (f : Nat → Int × Int) (K W t m : Int) (w : World) (ht : MT w) (hr : LRd w w.heap.size a n f) (hn : n ≤ 100) (hc : chkS B E f n K W = 0) (h1 : ¬ t < -7000000000) (h2 : ¬ 7000000000 < t) (h3 : ¬ m < 0) (h4 : 1000000000000000 < m) :
    Calls Tryd.prog 3 #[.agg #[.int .i64 B, .int .i64 E, .slice a n c], .agg #[.int .i64 K, .int .i64 W], .int .i64 t, .int .i64 m] w fun e w' => e = .returned (.bool true) ∧ Below w.heap.size w w' := by
  have hn2 : (n : Int) ≤ 100 := by omega
  have hn3 : decide ((100 : Int) < n) = false := decide_eq_false (by omega)
  clear hn
  have HY := Lib.hid hc
  clear hc
  have l1 : decide (t < -7000000000) = false := decide_eq_false h1
  have l2 : decide (7000000000 < t) = false := decide_eq_false h2
  have l3 : decide (m < 0) = false := decide_eq_false h3
  have S0' := Lib.hid (bm_new w B E a n c f K W ht hr)
  clear ht hr
  obtain ⟨G, hG⟩ : ∃ G, w.heap.size = G := ⟨_, rfl⟩
  obtain ⟨v0, hv0⟩ : ∃ v, (w.alloc (.cells #[.int .i64 B, .int .i64 E, .slice a n c] 24)).alloc (.cells #[.int .i64 K, .int .i64 W] 26) = v := ⟨_, rfl⟩
  have S0 : Hid (Bm w v0 G (G + 1) B E a n c f K W) := Lib.hid (by rw [← hv0, ← hG]; exact S0'.out)
  clear S0'
  obtain ⟨t0', t1', t2', t3', t4'⟩ := S0.out.bs.cells
  have hG1 : (w.alloc (.cells #[.int .i64 B, .int .i64 E, .slice a n c] 24)).heap.size = G + 1 := by rw [← hG]; simp
  go_enter Tryd.func3, Tryd.ntmps3
  go_wp2_with fail
  clear hv0 hG1
  refine (schk_any B E a n c f K W v0 S0.out.mt S0.out.bs.lrd).mono ?_
  rintro e v1 ⟨rfl, hbl⟩
  rw [HY.out]
  have S1 := Lib.hid (S0.out.below hbl)
  clear hbl S0 t0' t1' t2' t3' t4'
  obtain ⟨t0, t1, t2, t3, t4⟩ := S1.out.bs.cells
  go_wp2_with fail
  refine (awake02_any v1 S1.out.mt).mono ?_
  rintro e v2 ⟨rfl, hbl⟩
  have S2 := Lib.hid (S1.out.below hbl)
  clear hbl S1 t0 t1 t2 t3 t4
  obtain ⟨t0, t1, t2, t3, t4⟩ := S2.out.bs.cells
  go_wp2_with fail
  go_ret
  exact ⟨rfl, S2.out.bs.bel⟩

set_option maxRecDepth 100000 in
set_option maxHeartbeats 2000000 in
theorem scales_one (B E : Int) (a : Option Addr) (n c : Nat) (f : Nat → Int × Int) (K W t m : Int) (w : World) (ht : MT w) (hr : LRd w w.heap.size a n f) (hn : n ≤ 100) (hc : chkS B E f n K W = 0) (h1 : ¬ t < -7000000000) (h2 : ¬ 7000000000 < t) (h3 : ¬ m < 0) (h4 : ¬ 1000000000000000 < m) (hK : K = 1) :
    Calls Tryd.prog 3 #[.agg #[.int .i64 B, .int .i64 E, .slice a n c], .agg #[.int .i64 K, .int .i64 W], .int .i64 t, .int .i64 m] w fun e w' => e = .returned (.bool true) ∧ Below w.heap.size w w' := by
  have hn2 : (n : Int) ≤ 100 := by omega
  have hn3 : decide ((100 : Int) < n) = false := decide_eq_false (by omega)
  clear hn
  have l1 : decide (t < -7000000000) = false := decide_eq_false h1
  have l2 : decide (7000000000 < t) = false := decide_eq_false h2
  have l3 : decide (m < 0) = false := decide_eq_false h3
  have l4 : decide (1000000000000000 < m) = false := decide_eq_false h4
  have HY := Lib.hid hc
  have q1 : -7000000000 ≤ t := by omega
  have q2 : t ≤ 7000000000 := by omega
  have q3 : 0 ≤ m := by omega
  have q4 : m ≤ 1000000000000000 := by omega
  obtain ⟨hz, hP⟩ := chk_pol hc
  have u0 := ut_zero hz q1 q2
  have HU := Lib.hid u0
  have bk := ut_tai u0
  have HB := Lib.hid bk
  obtain ⟨r1, x1, _, _⟩ := rd_fine hc (t := t * 1000000000) (by omega) (by omega)
  obtain ⟨r2, x2, _, _⟩ := rd_fine hc (t := t * 1000000000 + m) (by omega) (by omega)
  obtain ⟨V, hV⟩ : ∃ V, utV B E f n t = V := ⟨_, rfl⟩
  obtain ⟨P, hPP⟩ : ∃ V, utP B E f n t = V := ⟨_, rfl⟩
  have hVb : -8000000000 ≤ V ∧ V ≤ 8000000000 := by
    have hb := (val_of hz).bndA (psT_le f n t)
    rw [← hV]
    unfold utV utU
    rw [if_pos u0]
    split <;> omega
  obtain ⟨hV0, hV1⟩ := hVb
  have HV := Lib.hid hV
  have HPP := Lib.hid hPP
  rw [hV, hPP] at HB
  obtain ⟨A, hA⟩ : ∃ V, rdV B E f n K W (t * 1000000000) = V := ⟨_, rfl⟩
  obtain ⟨A2, hA2⟩ : ∃ V, rdV B E f n K W (t * 1000000000 + m) = V := ⟨_, rfl⟩
  have HA := Lib.hid hA
  have HA2 := Lib.hid hA2
  have HR1 := Lib.hid r1
  have HR2 := Lib.hid r2
  clear bk hV hPP hA hA2 r1 r2 x1 x2 hz hP u0 hc h1 h2 h3 h4
  have k1 : decide (K = 1) = true := decide_eq_true hK
  have k2 : (K == 1) = true := by simpa using hK
  have k3 : (K != 1) = false := by simp [bne, k2]
  clear hK
  have S0' := Lib.hid (bm_new w B E a n c f K W ht hr)
  clear ht hr
  obtain ⟨G, hG⟩ : ∃ G, w.heap.size = G := ⟨_, rfl⟩
  obtain ⟨v0, hv0⟩ : ∃ v, (w.alloc (.cells #[.int .i64 B, .int .i64 E, .slice a n c] 24)).alloc (.cells #[.int .i64 K, .int .i64 W] 26) = v := ⟨_, rfl⟩
  have S0 : Hid (Bm w v0 G (G + 1) B E a n c f K W) := Lib.hid (by rw [← hv0, ← hG]; exact S0'.out)
  clear S0'
  obtain ⟨t0', t1', t2', t3', t4'⟩ := S0.out.bs.cells
  have hG1 : (w.alloc (.cells #[.int .i64 B, .int .i64 E, .slice a n c] 24)).heap.size = G + 1 := by rw [← hG]; simp
  go_enter Tryd.func3, Tryd.ntmps3
  go_wp2_with fail
  clear hv0 hG1
  refine (schk_any B E a n c f K W v0 S0.out.mt S0.out.bs.lrd).mono ?_
  rintro e v1 ⟨rfl, hbl⟩
  rw [HY.out]
  have S1 := Lib.hid (S0.out.below hbl)
  clear hbl S0 t0' t1' t2' t3' t4'
  obtain ⟨t0, t1, t2, t3, t4⟩ := S1.out.bs.cells
  go_wp2_with fail
  refine (lutc_any B E a n c f t v1 S1.out.mt S1.out.bs.lrd (by omega) (by omega)).mono ?_
  rintro e v2 ⟨rfl, hbl⟩
  rw [HV.out, HPP.out, HU.out]
  have S2 := Lib.hid (S1.out.below hbl)
  clear hbl S1 t0 t1 t2 t3 t4
  obtain ⟨t0, t1, t2, t3, t4⟩ := S2.out.bs.cells
  go_wp2_with fail
  refine (ltai_any B E a n c f V P v2 S2.out.mt S2.out.bs.lrd).mono ?_
  rintro e v3 ⟨rfl, hbl⟩
  rw [HB.out.1, HB.out.2]
  have S3 := Lib.hid (S2.out.below hbl)
  clear hbl S2 t0 t1 t2 t3 t4
  obtain ⟨t0, t1, t2, t3, t4⟩ := S3.out.bs.cells
  go_wp2_with fail
  refine (sread_any B E a n c f K W (t * 1000000000) v3 S3.out.mt S3.out.bs.lrd).mono ?_
  rintro e v4 ⟨rfl, hbl⟩
  rw [HA.out, HR1.out]
  have S4 := Lib.hid (S3.out.below hbl)
  clear hbl S3 t0 t1 t2 t3 t4
  obtain ⟨t0, t1, t2, t3, t4⟩ := S4.out.bs.cells
  go_wp2_with fail
  refine (sread_any B E a n c f K W (t * 1000000000 + m) v4 S4.out.mt S4.out.bs.lrd).mono ?_
  rintro e v5 ⟨rfl, hbl⟩
  rw [HA2.out, HR2.out]
  have S5 := Lib.hid (S4.out.below hbl)
  clear hbl S4 t0 t1 t2 t3 t4
  obtain ⟨t0, t1, t2, t3, t4⟩ := S5.out.bs.cells
  go_wp2_with fail
  go_ret
  exact ⟨rfl, S5.out.bs.bel⟩

set_option maxRecDepth 100000 in
set_option maxHeartbeats 2000000 in
theorem scales_in (B E : Int) (a : Option Addr) (n c : Nat) (f : Nat → Int × Int) (K W t m : Int) (w : World) (ht : MT w) (hr : LRd w w.heap.size a n f) (hn : n ≤ 100) (hc : chkS B E f n K W = 0) (h1 : ¬ t < -7000000000) (h2 : ¬ 7000000000 < t) (h3 : ¬ m < 0) (h4 : ¬ 1000000000000000 < m) (hK : K ≠ 1) (hs : ¬ smg B E f n K W (t * 1000000000) = 0) :
    Calls Tryd.prog 3 #[.agg #[.int .i64 B, .int .i64 E, .slice a n c], .agg #[.int .i64 K, .int .i64 W], .int .i64 t, .int .i64 m] w fun e w' => e = .returned (.bool true) ∧ Below w.heap.size w w' := by
  have hn2 : (n : Int) ≤ 100 := by omega
  have hn3 : decide ((100 : Int) < n) = false := decide_eq_false (by omega)
  clear hn
  have l1 : decide (t < -7000000000) = false := decide_eq_false h1
  have l2 : decide (7000000000 < t) = false := decide_eq_false h2
  have l3 : decide (m < 0) = false := decide_eq_false h3
  have l4 : decide (1000000000000000 < m) = false := decide_eq_false h4
  have HY := Lib.hid hc
  have q1 : -7000000000 ≤ t := by omega
  have q2 : t ≤ 7000000000 := by omega
  have q3 : 0 ≤ m := by omega
  have q4 : m ≤ 1000000000000000 := by omega
  obtain ⟨hz, hP⟩ := chk_pol hc
  have u0 := ut_zero hz q1 q2
  have HU := Lib.hid u0
  have bk := ut_tai u0
  have HB := Lib.hid bk
  obtain ⟨r1, x1, _, _⟩ := rd_fine hc (t := t * 1000000000) (by omega) (by omega)
  obtain ⟨r2, x2, _, _⟩ := rd_fine hc (t := t * 1000000000 + m) (by omega) (by omega)
  obtain ⟨V, hV⟩ : ∃ V, utV B E f n t = V := ⟨_, rfl⟩
  obtain ⟨P, hPP⟩ : ∃ V, utP B E f n t = V := ⟨_, rfl⟩
  have hVb : -8000000000 ≤ V ∧ V ≤ 8000000000 := by
    have hb := (val_of hz).bndA (psT_le f n t)
    rw [← hV]
    unfold utV utU
    rw [if_pos u0]
    split <;> omega
  obtain ⟨hV0, hV1⟩ := hVb
  have HV := Lib.hid hV
  have HPP := Lib.hid hPP
  rw [hV, hPP] at HB
  obtain ⟨A, hA⟩ : ∃ V, rdV B E f n K W (t * 1000000000) = V := ⟨_, rfl⟩
  obtain ⟨A2, hA2⟩ : ∃ V, rdV B E f n K W (t * 1000000000 + m) = V := ⟨_, rfl⟩
  have HA := Lib.hid hA
  have HA2 := Lib.hid hA2
  have HR1 := Lib.hid r1
  have HR2 := Lib.hid r2
  have mo := (rdg_mono (t := t * 1000000000) (u := t * 1000000000 + m) (val_of hz) hP hK (by omega)).1
  rw [← x1, ← x2, hA, hA2] at mo
  have k1 : decide (K = 1) = false := decide_eq_false hK
  have k2 : (K == 1) = false := by simpa using hK
  have k3 : (K != 1) = true := by simp [bne, k2]
  have HS := Lib.hid (show (smg B E f n K W (t * 1000000000) != 0) = true by simpa using hs)
  clear hs
  clear bk hV hPP hA hA2 r1 r2 x1 x2 hz hP u0 hc h1 h2 h3 h4
  have S0' := Lib.hid (bm_new w B E a n c f K W ht hr)
  clear ht hr
  obtain ⟨G, hG⟩ : ∃ G, w.heap.size = G := ⟨_, rfl⟩
  obtain ⟨v0, hv0⟩ : ∃ v, (w.alloc (.cells #[.int .i64 B, .int .i64 E, .slice a n c] 24)).alloc (.cells #[.int .i64 K, .int .i64 W] 26) = v := ⟨_, rfl⟩
  have S0 : Hid (Bm w v0 G (G + 1) B E a n c f K W) := Lib.hid (by rw [← hv0, ← hG]; exact S0'.out)
  clear S0'
  obtain ⟨t0', t1', t2', t3', t4'⟩ := S0.out.bs.cells
  have hG1 : (w.alloc (.cells #[.int .i64 B, .int .i64 E, .slice a n c] 24)).heap.size = G + 1 := by rw [← hG]; simp
  go_enter Tryd.func3, Tryd.ntmps3
  go_wp2_with fail
  clear hv0 hG1
  refine (schk_any B E a n c f K W v0 S0.out.mt S0.out.bs.lrd).mono ?_
  rintro e v1 ⟨rfl, hbl⟩
  rw [HY.out]
  have S1 := Lib.hid (S0.out.below hbl)
  clear hbl S0 t0' t1' t2' t3' t4'
  obtain ⟨t0, t1, t2, t3, t4⟩ := S1.out.bs.cells
  go_wp2_with fail
  refine (lutc_any B E a n c f t v1 S1.out.mt S1.out.bs.lrd (by omega) (by omega)).mono ?_
  rintro e v2 ⟨rfl, hbl⟩
  rw [HV.out, HPP.out, HU.out]
  have S2 := Lib.hid (S1.out.below hbl)
  clear hbl S1 t0 t1 t2 t3 t4
  obtain ⟨t0, t1, t2, t3, t4⟩ := S2.out.bs.cells
  go_wp2_with fail
  refine (ltai_any B E a n c f V P v2 S2.out.mt S2.out.bs.lrd).mono ?_
  rintro e v3 ⟨rfl, hbl⟩
  rw [HB.out.1, HB.out.2]
  have S3 := Lib.hid (S2.out.below hbl)
  clear hbl S2 t0 t1 t2 t3 t4
  obtain ⟨t0, t1, t2, t3, t4⟩ := S3.out.bs.cells
  go_wp2_with fail
  refine (sread_any B E a n c f K W (t * 1000000000) v3 S3.out.mt S3.out.bs.lrd).mono ?_
  rintro e v4 ⟨rfl, hbl⟩
  rw [HA.out, HR1.out]
  have S4 := Lib.hid (S3.out.below hbl)
  clear hbl S3 t0 t1 t2 t3 t4
  obtain ⟨t0, t1, t2, t3, t4⟩ := S4.out.bs.cells
  go_wp2_with fail
  refine (sread_any B E a n c f K W (t * 1000000000 + m) v4 S4.out.mt S4.out.bs.lrd).mono ?_
  rintro e v5 ⟨rfl, hbl⟩
  rw [HA2.out, HR2.out]
  have S5 := Lib.hid (S4.out.below hbl)
  clear hbl S4 t0 t1 t2 t3 t4
  obtain ⟨t0, t1, t2, t3, t4⟩ := S5.out.bs.cells
  go_wp2_with fail
  refine (active_any B E a n c f K W (t * 1000000000) v5 S5.out.mt S5.out.bs.lrd).mono ?_
  rintro e v6 ⟨rfl, hbl⟩
  rw [HS.out]
  have S6 := Lib.hid (S5.out.below hbl)
  clear hbl S5 t0 t1 t2 t3 t4
  obtain ⟨t0, t1, t2, t3, t4⟩ := S6.out.bs.cells
  go_wp2_with fail
  go_ret
  exact ⟨rfl, S6.out.bs.bel⟩

set_option maxRecDepth 100000 in
set_option maxHeartbeats 2000000 in
theorem scales_ext (B E : Int) (a : Option Addr) (n c : Nat) (f : Nat → Int × Int) (K W t m : Int) (w : World) (ht : MT w) (hr : LRd w w.heap.size a n f) (hn : n ≤ 100) (hc : chkS B E f n K W = 0) (h1 : ¬ t < -7000000000) (h2 : ¬ 7000000000 < t) (h3 : ¬ m < 0) (h4 : ¬ 1000000000000000 < m) (hK : K ≠ 1) (hs : smg B E f n K W (t * 1000000000) = 0) (hx : utP B E f n t = true) :
    Calls Tryd.prog 3 #[.agg #[.int .i64 B, .int .i64 E, .slice a n c], .agg #[.int .i64 K, .int .i64 W], .int .i64 t, .int .i64 m] w fun e w' => e = .returned (.bool true) ∧ Below w.heap.size w w' := by
  have hn2 : (n : Int) ≤ 100 := by omega
  have hn3 : decide ((100 : Int) < n) = false := decide_eq_false (by omega)
  clear hn
  have l1 : decide (t < -7000000000) = false := decide_eq_false h1
  have l2 : decide (7000000000 < t) = false := decide_eq_false h2
  have l3 : decide (m < 0) = false := decide_eq_false h3
  have l4 : decide (1000000000000000 < m) = false := decide_eq_false h4
  have HY := Lib.hid hc
  have q1 : -7000000000 ≤ t := by omega
  have q2 : t ≤ 7000000000 := by omega
  have q3 : 0 ≤ m := by omega
  have q4 : m ≤ 1000000000000000 := by omega
  obtain ⟨hz, hP⟩ := chk_pol hc
  have u0 := ut_zero hz q1 q2
  have HU := Lib.hid u0
  have bk := ut_tai u0
  have HB := Lib.hid bk
  obtain ⟨r1, x1, _, _⟩ := rd_fine hc (t := t * 1000000000) (by omega) (by omega)
  obtain ⟨r2, x2, _, _⟩ := rd_fine hc (t := t * 1000000000 + m) (by omega) (by omega)
  obtain ⟨V, hV⟩ : ∃ V, utV B E f n t = V := ⟨_, rfl⟩
  obtain ⟨P, hPP⟩ : ∃ V, utP B E f n t = V := ⟨_, rfl⟩
  have hVb : -8000000000 ≤ V ∧ V ≤ 8000000000 := by
    have hb := (val_of hz).bndA (psT_le f n t)
    rw [← hV]
    unfold utV utU
    rw [if_pos u0]
    split <;> omega
  obtain ⟨hV0, hV1⟩ := hVb
  have HV := Lib.hid hV
  have HPP := Lib.hid hPP
  rw [hV, hPP] at HB
  obtain ⟨A, hA⟩ : ∃ V, rdV B E f n K W (t * 1000000000) = V := ⟨_, rfl⟩
  obtain ⟨A2, hA2⟩ : ∃ V, rdV B E f n K W (t * 1000000000 + m) = V := ⟨_, rfl⟩
  have HA := Lib.hid hA
  have HA2 := Lib.hid hA2
  have HR1 := Lib.hid r1
  have HR2 := Lib.hid r2
  have mo := (rdg_mono (t := t * 1000000000) (u := t * 1000000000 + m) (val_of hz) hP hK (by omega)).1
  rw [← x1, ← x2, hA, hA2] at mo
  have k1 : decide (K = 1) = false := decide_eq_false hK
  have k2 : (K == 1) = false := by simpa using hK
  have k3 : (K != 1) = true := by simp [bne, k2]
  have HS := Lib.hid (show (smg B E f n K W (t * 1000000000) != 0) = false by rw [hs]; rfl)
  rw [hPP] at hx
  subst hx
  clear hs
  clear bk hV hPP hA hA2 r1 r2 x1 x2 hz hP u0 hc h1 h2 h3 h4
  have S0' := Lib.hid (bm_new w B E a n c f K W ht hr)
  clear ht hr
  obtain ⟨G, hG⟩ : ∃ G, w.heap.size = G := ⟨_, rfl⟩
  obtain ⟨v0, hv0⟩ : ∃ v, (w.alloc (.cells #[.int .i64 B, .int .i64 E, .slice a n c] 24)).alloc (.cells #[.int .i64 K, .int .i64 W] 26) = v := ⟨_, rfl⟩
  have S0 : Hid (Bm w v0 G (G + 1) B E a n c f K W) := Lib.hid (by rw [← hv0, ← hG]; exact S0'.out)
  clear S0'
  obtain ⟨t0', t1', t2', t3', t4'⟩ := S0.out.bs.cells
  have hG1 : (w.alloc (.cells #[.int .i64 B, .int .i64 E, .slice a n c] 24)).heap.size = G + 1 := by rw [← hG]; simp
  go_enter Tryd.func3, Tryd.ntmps3
  go_wp2_with fail
  clear hv0 hG1
  refine (schk_any B E a n c f K W v0 S0.out.mt S0.out.bs.lrd).mono ?_
  rintro e v1 ⟨rfl, hbl⟩
  rw [HY.out]
  have S1 := Lib.hid (S0.out.below hbl)
  clear hbl S0 t0' t1' t2' t3' t4'
  obtain ⟨t0, t1, t2, t3, t4⟩ := S1.out.bs.cells
  go_wp2_with fail
  refine (lutc_any B E a n c f t v1 S1.out.mt S1.out.bs.lrd (by omega) (by omega)).mono ?_
  rintro e v2 ⟨rfl, hbl⟩
  rw [HV.out, HPP.out, HU.out]
  have S2 := Lib.hid (S1.out.below hbl)
  clear hbl S1 t0 t1 t2 t3 t4
  obtain ⟨t0, t1, t2, t3, t4⟩ := S2.out.bs.cells
  go_wp2_with fail
  refine (ltai_any B E a n c f V true v2 S2.out.mt S2.out.bs.lrd).mono ?_
  rintro e v3 ⟨rfl, hbl⟩
  rw [HB.out.1, HB.out.2]
  have S3 := Lib.hid (S2.out.below hbl)
  clear hbl S2 t0 t1 t2 t3 t4
  obtain ⟨t0, t1, t2, t3, t4⟩ := S3.out.bs.cells
  go_wp2_with fail
  refine (sread_any B E a n c f K W (t * 1000000000) v3 S3.out.mt S3.out.bs.lrd).mono ?_
  rintro e v4 ⟨rfl, hbl⟩
  rw [HA.out, HR1.out]
  have S4 := Lib.hid (S3.out.below hbl)
  clear hbl S3 t0 t1 t2 t3 t4
  obtain ⟨t0, t1, t2, t3, t4⟩ := S4.out.bs.cells
  go_wp2_with fail
  refine (sread_any B E a n c f K W (t * 1000000000 + m) v4 S4.out.mt S4.out.bs.lrd).mono ?_
  rintro e v5 ⟨rfl, hbl⟩
  rw [HA2.out, HR2.out]
  have S5 := Lib.hid (S4.out.below hbl)
  clear hbl S4 t0 t1 t2 t3 t4
  obtain ⟨t0, t1, t2, t3, t4⟩ := S5.out.bs.cells
  go_wp2_with fail
  refine (active_any B E a n c f K W (t * 1000000000) v5 S5.out.mt S5.out.bs.lrd).mono ?_
  rintro e v6 ⟨rfl, hbl⟩
  rw [HS.out]
  have S6 := Lib.hid (S5.out.below hbl)
  clear hbl S5 t0 t1 t2 t3 t4
  obtain ⟨t0, t1, t2, t3, t4⟩ := S6.out.bs.cells
  go_wp2_with fail
  go_ret
  exact ⟨rfl, S6.out.bs.bel⟩

set_option maxRecDepth 100000 in
set_option maxHeartbeats 2000000 in
theorem scales_out (B E : Int) (a : Option Addr) (n c : Nat) (f : Nat → Int × Int) (K W t m : Int) (w : World) (ht : MT w) (hr : LRd w w.heap.size a n f) (hn : n ≤ 100) (hc : chkS B E f n K W = 0) (h1 : ¬ t < -7000000000) (h2 : ¬ 7000000000 < t) (h3 : ¬ m < 0) (h4 : ¬ 1000000000000000 < m) (hK : K ≠ 1) (hs : smg B E f n K W (t * 1000000000) = 0) (hx : utP B E f n t = false) :
    Calls Tryd.prog 3 #[.agg #[.int .i64 B, .int .i64 E, .slice a n c], .agg #[.int .i64 K, .int .i64 W], .int .i64 t, .int .i64 m] w fun e w' => e = .returned (.bool true) ∧ Below w.heap.size w w' := by
  have hn2 : (n : Int) ≤ 100 := by omega
  have hn3 : decide ((100 : Int) < n) = false := decide_eq_false (by omega)
  clear hn
  have l1 : decide (t < -7000000000) = false := decide_eq_false h1
  have l2 : decide (7000000000 < t) = false := decide_eq_false h2
  have l3 : decide (m < 0) = false := decide_eq_false h3
  have l4 : decide (1000000000000000 < m) = false := decide_eq_false h4
  have HY := Lib.hid hc
  have q1 : -7000000000 ≤ t := by omega
  have q2 : t ≤ 7000000000 := by omega
  have q3 : 0 ≤ m := by omega
  have q4 : m ≤ 1000000000000000 := by omega
  obtain ⟨hz, hP⟩ := chk_pol hc
  have u0 := ut_zero hz q1 q2
  have HU := Lib.hid u0
  have bk := ut_tai u0
  have HB := Lib.hid bk
  obtain ⟨r1, x1, _, _⟩ := rd_fine hc (t := t * 1000000000) (by omega) (by omega)
  obtain ⟨r2, x2, _, _⟩ := rd_fine hc (t := t * 1000000000 + m) (by omega) (by omega)
  obtain ⟨V, hV⟩ : ∃ V, utV B E f n t = V := ⟨_, rfl⟩
  obtain ⟨P, hPP⟩ : ∃ V, utP B E f n t = V := ⟨_, rfl⟩
  have hVb : -8000000000 ≤ V ∧ V ≤ 8000000000 := by
    have hb := (val_of hz).bndA (psT_le f n t)
    rw [← hV]
    unfold utV utU
    rw [if_pos u0]
    split <;> omega
  obtain ⟨hV0, hV1⟩ := hVb
  have HV := Lib.hid hV
  have HPP := Lib.hid hPP
  rw [hV, hPP] at HB
  obtain ⟨A, hA⟩ : ∃ V, rdV B E f n K W (t * 1000000000) = V := ⟨_, rfl⟩
  obtain ⟨A2, hA2⟩ : ∃ V, rdV B E f n K W (t * 1000000000 + m) = V := ⟨_, rfl⟩
  have HA := Lib.hid hA
  have HA2 := Lib.hid hA2
  have HR1 := Lib.hid r1
  have HR2 := Lib.hid r2
  have mo := (rdg_mono (t := t * 1000000000) (u := t * 1000000000 + m) (val_of hz) hP hK (by omega)).1
  rw [← x1, ← x2, hA, hA2] at mo
  have k1 : decide (K = 1) = false := decide_eq_false hK
  have k2 : (K == 1) = false := by simpa using hK
  have k3 : (K != 1) = true := by simp [bne, k2]
  have HS := Lib.hid (show (smg B E f n K W (t * 1000000000) != 0) = false by rw [hs]; rfl)
  have hi : inW f n K W (t * 1000000000) = false := by
    rw [← inW_plC (B := B) (val_of hz), ← show smg B E f n K W (t * 1000000000) = plC B f n K W (t * 1000000000) from if_pos ⟨hc, decide_eq_true (by omega)⟩, hs]; rfl
  have lb := label hz hP hK hi u0 hx
  rw [← x1, hA, hV] at lb
  rw [hPP] at hx
  subst hx
  subst lb
  clear hs hi
  clear bk hV hPP hA hA2 r1 r2 x1 x2 hz hP u0 hc h1 h2 h3 h4
  have S0' := Lib.hid (bm_new w B E a n c f K W ht hr)
  clear ht hr
  obtain ⟨G, hG⟩ : ∃ G, w.heap.size = G := ⟨_, rfl⟩
  obtain ⟨v0, hv0⟩ : ∃ v, (w.alloc (.cells #[.int .i64 B, .int .i64 E, .slice a n c] 24)).alloc (.cells #[.int .i64 K, .int .i64 W] 26) = v := ⟨_, rfl⟩
  have S0 : Hid (Bm w v0 G (G + 1) B E a n c f K W) := Lib.hid (by rw [← hv0, ← hG]; exact S0'.out)
  clear S0'
  obtain ⟨t0', t1', t2', t3', t4'⟩ := S0.out.bs.cells
  have hG1 : (w.alloc (.cells #[.int .i64 B, .int .i64 E, .slice a n c] 24)).heap.size = G + 1 := by rw [← hG]; simp
  go_enter Tryd.func3, Tryd.ntmps3
  go_wp2_with fail
  clear hv0 hG1
  refine (schk_any B E a n c f K W v0 S0.out.mt S0.out.bs.lrd).mono ?_
  rintro e v1 ⟨rfl, hbl⟩
  rw [HY.out]
  have S1 := Lib.hid (S0.out.below hbl)
  clear hbl S0 t0' t1' t2' t3' t4'
  obtain ⟨t0, t1, t2, t3, t4⟩ := S1.out.bs.cells
  go_wp2_with fail
  refine (lutc_any B E a n c f t v1 S1.out.mt S1.out.bs.lrd (by omega) (by omega)).mono ?_
  rintro e v2 ⟨rfl, hbl⟩
  rw [HV.out, HPP.out, HU.out]
  have S2 := Lib.hid (S1.out.below hbl)
  clear hbl S1 t0 t1 t2 t3 t4
  obtain ⟨t0, t1, t2, t3, t4⟩ := S2.out.bs.cells
  go_wp2_with fail
  refine (ltai_any B E a n c f V false v2 S2.out.mt S2.out.bs.lrd).mono ?_
  rintro e v3 ⟨rfl, hbl⟩
  rw [HB.out.1, HB.out.2]
  have S3 := Lib.hid (S2.out.below hbl)
  clear hbl S2 t0 t1 t2 t3 t4
  obtain ⟨t0, t1, t2, t3, t4⟩ := S3.out.bs.cells
  go_wp2_with fail
  refine (sread_any B E a n c f K W (t * 1000000000) v3 S3.out.mt S3.out.bs.lrd).mono ?_
  rintro e v4 ⟨rfl, hbl⟩
  rw [HA.out, HR1.out]
  have S4 := Lib.hid (S3.out.below hbl)
  clear hbl S3 t0 t1 t2 t3 t4
  obtain ⟨t0, t1, t2, t3, t4⟩ := S4.out.bs.cells
  go_wp2_with fail
  refine (sread_any B E a n c f K W (t * 1000000000 + m) v4 S4.out.mt S4.out.bs.lrd).mono ?_
  rintro e v5 ⟨rfl, hbl⟩
  rw [HA2.out, HR2.out]
  have S5 := Lib.hid (S4.out.below hbl)
  clear hbl S4 t0 t1 t2 t3 t4
  obtain ⟨t0, t1, t2, t3, t4⟩ := S5.out.bs.cells
  go_wp2_with fail
  refine (active_any B E a n c f K W (t * 1000000000) v5 S5.out.mt S5.out.bs.lrd).mono ?_
  rintro e v6 ⟨rfl, hbl⟩
  rw [HS.out]
  have S6 := Lib.hid (S5.out.below hbl)
  clear hbl S5 t0 t1 t2 t3 t4
  obtain ⟨t0, t1, t2, t3, t4⟩ := S6.out.bs.cells
  go_wp2_with fail
  go_ret
  exact ⟨rfl, S6.out.bs.bel⟩
theorem scales_law (B E : Int) (a : Option Addr) (n c : Nat) (f : Nat → Int × Int) (K W t m : Int) (w : World) (ht : MT w) (hr : LRd w w.heap.size a n f) :
    Calls Tryd.prog 3 #[.agg #[.int .i64 B, .int .i64 E, .slice a n c], .agg #[.int .i64 K, .int .i64 W], .int .i64 t, .int .i64 m] w fun e w' => e = .returned (.bool true) ∧ Below w.heap.size w w' := by
  by_cases hn : n ≤ 100
  · by_cases hc : chkS B E f n K W = 0
    · by_cases h1 : t < -7000000000
      · exact scales_low B E a n c f K W t m w ht hr hn hc h1
      · by_cases h2 : 7000000000 < t
        · exact scales_high B E a n c f K W t m w ht hr hn hc h1 h2
        · by_cases h3 : m < 0
          · exact scales_neg B E a n c f K W t m w ht hr hn hc h1 h2 h3
          · by_cases h4 : 1000000000000000 < m
            · exact scales_far B E a n c f K W t m w ht hr hn hc h1 h2 h3 h4
            · by_cases hK : K = 1
              · exact scales_one B E a n c f K W t m w ht hr hn hc h1 h2 h3 h4 hK
              · by_cases hs : smg B E f n K W (t * 1000000000) = 0
                · cases hx : utP B E f n t
                  · exact scales_out B E a n c f K W t m w ht hr hn hc h1 h2 h3 h4 hK hs hx
                  · exact scales_ext B E a n c f K W t m w ht hr hn hc h1 h2 h3 h4 hK hs hx
                · exact scales_in B E a n c f K W t m w ht hr hn hc h1 h2 h3 h4 hK hs
    · exact scales_bad B E a n c f K W t m w ht hr hn hc
  · exact scales_large B E a n c f K W t m w ht hr hn
end Go.Proofs.YtgeklbpkmfeheaaDoor
