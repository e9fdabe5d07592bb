/- Small tables of layer 7; the walk of SmearChecks. -/
import Derived.Test.YtghaboanakecjaaDoorSmeG
import Derived.Deep.RegionHeld3
namespace Go.Proofs.YtghaboanakecjaaDoor
open Go.RowKit Fx Cv Lp Sm

set_option maxRecDepth 100000 in
theorem small7_any (B E : Int) (a : Option Addr) (n c : Nat) (w : World) :
    Calls Tryd.prog 10 #[.agg #[.int .i64 B, .int .i64 E, .slice a n c]] w fun e w' => e = .returned (.bool (decide (n ≤ 80))) ∧ Below w.heap.size w w' := by
  have BB0 := Lib.hid ((Below.refl w.heap.size w).alloc (Nat.le_refl _) (.cells #[.int .i64 B, .int .i64 E, .slice a n c] 24))
  have X0 := Lib.hid (tbx_new w B E a n c)
  obtain ⟨W0, hW0⟩ : ∃ W, w.alloc (.cells #[.int .i64 B, .int .i64 E, .slice a n c] 24) = W := ⟨_, rfl⟩
  rw [hW0] at BB0 X0
  obtain ⟨t0, t1, t2⟩ := X0.out.cells
  by_cases h : n ≤ 80
  · have hi : (n : Int) ≤ 80 := by omega
    have HD := Lib.hid (decide_eq_true h)
    clear h
    go_enter Tryd.func10, Tryd.ntmps10
    go_wp2_with fail
    go_ret
    rw [HD.out]
    exact ⟨rfl, BB0.out⟩
  · have hi : ¬ (n : Int) ≤ 80 := by omega
    have hib : decide ((n : Int) ≤ 80) = false := decide_eq_false hi
    have HD := Lib.hid (decide_eq_false h)
    clear h
    go_enter Tryd.func10, Tryd.ntmps10
    go_wp2_with fail
    go_ret
    rw [HD.out]
    exact ⟨rfl, BB0.out⟩
theorem small7_v {B E : Int} {a : Option Addr} {n c : Nat} {p : Bool} (hp : decide (n ≤ 80) = p) (w : World) :
    Calls Tryd.prog 10 #[.agg #[.int .i64 B, .int .i64 E, .slice a n c]] w fun e w' => e = .returned (.bool p) ∧ Below w.heap.size w w' := by
  subst hp; exact small7_any B E a n c w
/-- The boxes of a table and of a policy, the entries, and the lengths of the months. -/
structure Sm.Bm (w v : World) (G H : Nat) (B E : Int) (a : Option Addr) (n c : Nat) (f : Nat → Int × Int) (K W : Int) : Prop where
  bs : Bs w v G H B E a n c f K W
  mt : MT v
theorem Sm.Bm.below {w v v' : World} {G H : Nat} {B E : Int} {a : Option Addr} {n c : Nat} {f : Nat → Int × Int} {K W : Int} (h : Bm w v G H B E a n c f K W) (hb : Below v.heap.size v v') : Bm w v' G H B E a n c f K W :=
  ⟨h.bs.below hb, h.mt.below hb⟩
theorem Sm.Bm.drew {w v : World} {G H : Nat} {B E : Int} {a : Option Addr} {n c : Nat} {f : Nat → Int × Int} {K W : Int} (h : Bm w v G H B E a n c f K W) : Bm w v.drew G H B E a n c f K W :=
  ⟨⟨h.bs.box, h.bs.pol, h.bs.lrd, h.bs.bel.drew⟩, h.mt⟩
theorem Sm.bm_new (w : World) (B E : Int) (a : Option Addr) (n c : Nat) (f : Nat → Int × Int) (K W : Int) (ht : MT w) (hr : LRd w w.heap.size a n f) :
    Bm w ((w.alloc (.cells #[.int .i64 B, .int .i64 E, .slice a n c] 24)).alloc (.cells #[.int .i64 K, .int .i64 W] 26)) w.heap.size (w.heap.size + 1) B E a n c f K W :=
  ⟨bs_new w B E a n c f K W hr, ht.below (bs_new w B E a n c f K W hr).bel⟩

set_option maxRecDepth 100000 in
theorem checks7_large (B E : Int) (a : Option Addr) (n c : Nat) (f : Nat → Int × Int) (K W : Int) (w : World) (ht : MT w) (hr : LRd w w.heap.size a n f) (hn : ¬ n ≤ 80) :
    Calls Tryd.prog 3 #[.agg #[.int .i64 B, .int .i64 E, .slice a n c], .agg #[.int .i64 K, .int .i64 W]] w fun e w' => e = .returned (.bool true) ∧ Below w.heap.size w w' := by
  have HN := Lib.hid (decide_eq_false hn)
  clear hn
  have S0' := Lib.hid (bm_new w B E a n c f K W ht hr)
  clear ht hr
  obtain ⟨G, hG⟩ : ∃ G, w.heap.size = G := ⟨_, rfl⟩
  obtain ⟨v0, hv0⟩ : ∃ v, (w.alloc (.cells #[.int .i64 B, .int .i64 E, .slice a n c] 24)).alloc (.cells #[.int .i64 K, .int .i64 W] 26) = v := ⟨_, rfl⟩
  have S0 : Hid (Bm w v0 G (G + 1) B E a n c f K W) := Lib.hid (by rw [← hv0, ← hG]; exact S0'.out)
  clear S0'
  obtain ⟨t0', t1', t2', t3', t4'⟩ := S0.out.bs.cells
  have hG1 : (w.alloc (.cells #[.int .i64 B, .int .i64 E, .slice a n c] 24)).heap.size = G + 1 := by rw [← hG]; simp
  go_enter Tryd.func3, Tryd.ntmps3
  go_wp2_with fail
  have S0d : Hid (Bm w v0.drew G (G + 1) B E a n c f K W) := Lib.hid S0.out.drew
  refine wp_region_held_drew (S := (fun w' => w'.cell? ⟨G, 0, none⟩ = some (.int .i64 B) ∧ w'.cell? ⟨G, 1, none⟩ = some (.int .i64 E) ∧ w'.cell? ⟨G, 2, none⟩ = some (.slice a n c) ∧ w'.cell? ⟨G + 1, 0, none⟩ = some (.int .i64 K) ∧ w'.cell? ⟨G + 1, 1, none⟩ = some (.int .i64 W))) (by kernel_rfl) ⟨t0', t1', t2', t3', t4'⟩ (fun hHeld => ?_)
  refine wpAnyH_take (i := 0) (oi := ⟨some 5, _, _, _, _, _⟩) (v := ?v0) rfl (by kernel_rfl) (by kernel_rfl) (by kernel_rfl) (fun _ _ _ h => h) (Or.inl ⟨by kernel_rfl, ?h0⟩) (by assumption) ?r0
  case h0 => (intro w' hSw; (try dsimp only at hSw); go_simp; (try with_reducible rfl))
  try simp only [Act.put, List.setIfInBounds_toArray, List.set_cons_zero, List.set_cons_succ]
  refine wpAnyH_ready (rs := [1]) (by kernel_rfl) (by simp) ?_
  refine AllReadyH.cons (o := ⟨some 6, _, _, _, _, _⟩) rfl (fun K hK => ?_) AllReadyH.nil
  rw [if_pos (by kernel_rfl)]
  go_simp
  refine (small7_v HN.out _).mono ?_
  rintro e v1 ⟨rfl, hbl⟩
  have S1 := Lib.hid (S0d.out.below hbl)
  clear hbl
  obtain ⟨r0, r1, r2, r3, r4⟩ := S1.out.bs.cells
  go_wp2_with fail
  refine hK.out _ _ ⟨r0, r1, r2, r3, r4⟩ (fun hHeld1 => ?_)
  clear hK K
  try simp only [Act.put, List.setIfInBounds_toArray, List.set_cons_zero, List.set_cons_succ]
  refine wpAnyH_take (i := 2) (oi := ⟨some 7, _, _, _, _, _⟩) (v := ?v2) rfl (by kernel_rfl) (by kernel_rfl) (by kernel_rfl) (fun _ _ _ h => h) (Or.inl ⟨by kernel_rfl, ?h2⟩) (by assumption) ?r2
  case h2 => (intro w' hSw; (try dsimp only at hSw); go_simp; (try with_reducible rfl))
  try simp only [Act.put, List.setIfInBounds_toArray, List.set_cons_zero, List.set_cons_succ]
  refine wpAnyH_take (i := 3) (oi := ⟨some 8, _, _, _, _, _⟩) (v := ?v3) rfl (by kernel_rfl) (by kernel_rfl) (by kernel_rfl) (fun _ _ _ h => h) (Or.inl ⟨by kernel_rfl, ?h3⟩) (by assumption) ?r3
  case h3 => (intro w' hSw; (try dsimp only at hSw); go_simp; (try with_reducible rfl))
  try simp only [Act.put, List.setIfInBounds_toArray, List.set_cons_zero, List.set_cons_succ]
  refine wpAnyH_take (i := 4) (oi := ⟨some 9, _, _, _, _, _⟩) (v := undef) rfl (by kernel_rfl) (by kernel_rfl) (by kernel_rfl) (fun _ _ _ h => h) (Or.inr ⟨by kernel_rfl, rfl⟩) (by assumption) ?_
  try simp only [Act.put, List.setIfInBounds_toArray, List.set_cons_zero, List.set_cons_succ]
  refine wpAnyH_take (i := 5) (oi := ⟨some 10, _, _, _, _, _⟩) (v := undef) rfl (by kernel_rfl) (by kernel_rfl) (by kernel_rfl) (fun _ _ _ h => h) (Or.inr ⟨by kernel_rfl, rfl⟩) (by assumption) ?_
  try simp only [Act.put, List.setIfInBounds_toArray, List.set_cons_zero, List.set_cons_succ]
  refine wpAnyH_take (i := 6) (oi := ⟨some 11, _, _, _, _, _⟩) (v := undef) rfl (by kernel_rfl) (by kernel_rfl) (by kernel_rfl) (fun _ _ _ h => h) (Or.inr ⟨by kernel_rfl, rfl⟩) (by assumption) ?_
  try simp only [Act.put, List.setIfInBounds_toArray, List.set_cons_zero, List.set_cons_succ]
  refine wpAnyH_take (i := 7) (oi := ⟨some 12, _, _, _, _, _⟩) (v := undef) rfl (by kernel_rfl) (by kernel_rfl) (by kernel_rfl) (fun _ _ _ h => h) (Or.inr ⟨by kernel_rfl, rfl⟩) (by assumption) ?_
  try simp only [Act.put, List.setIfInBounds_toArray, List.set_cons_zero, List.set_cons_succ]
  refine wpAnyH_take (i := 8) (oi := ⟨some 13, _, _, _, _, _⟩) (v := undef) rfl (by kernel_rfl) (by kernel_rfl) (by kernel_rfl) (fun _ _ _ h => h) (Or.inr ⟨by kernel_rfl, rfl⟩) (by assumption) ?_
  try simp only [Act.put, List.setIfInBounds_toArray, List.set_cons_zero, List.set_cons_succ]
  refine wpAnyH_take (i := 9) (oi := ⟨some 14, _, _, _, _, _⟩) (v := undef) rfl (by kernel_rfl) (by kernel_rfl) (by kernel_rfl) (fun _ _ _ h => h) (Or.inr ⟨by kernel_rfl, rfl⟩) (by assumption) ?_
  try simp only [Act.put, List.setIfInBounds_toArray, List.set_cons_zero, List.set_cons_succ]
  refine wpAnyH_take (i := 10) (oi := ⟨some 15, _, _, _, _, _⟩) (v := undef) rfl (by kernel_rfl) (by kernel_rfl) (by kernel_rfl) (fun _ _ _ h => h) (Or.inr ⟨by kernel_rfl, rfl⟩) (by assumption) ?_
  try simp only [Act.put, List.setIfInBounds_toArray, List.set_cons_zero, List.set_cons_succ]
  refine wpAnyH_take (i := 11) (oi := ⟨some 16, _, _, _, _, _⟩) (v := undef) rfl (by kernel_rfl) (by kernel_rfl) (by kernel_rfl) (fun _ _ _ h => h) (Or.inr ⟨by kernel_rfl, rfl⟩) (by assumption) ?_
  try simp only [Act.put, List.setIfInBounds_toArray, List.set_cons_zero, List.set_cons_succ]
  refine wpAnyH_take (i := 12) (oi := ⟨some 17, _, _, _, _, _⟩) (v := undef) rfl (by kernel_rfl) (by kernel_rfl) (by kernel_rfl) (fun _ _ _ h => h) (Or.inr ⟨by kernel_rfl, rfl⟩) (by assumption) ?_
  try simp only [Act.put, List.setIfInBounds_toArray, List.set_cons_zero, List.set_cons_succ]
  refine wpAnyH_take (i := 13) (oi := ⟨some 18, _, _, _, _, _⟩) (v := undef) rfl (by kernel_rfl) (by kernel_rfl) (by kernel_rfl) (fun _ _ _ h => h) (Or.inr ⟨by kernel_rfl, rfl⟩) (by assumption) ?_
  try simp only [Act.put, List.setIfInBounds_toArray, List.set_cons_zero, List.set_cons_succ]
  refine wpAnyH_take (i := 14) (oi := ⟨some 19, _, _, _, _, _⟩) (v := ?v14) rfl (by kernel_rfl) (by kernel_rfl) (by kernel_rfl) (fun _ _ _ h => h) (Or.inl ⟨by kernel_rfl, ?h14⟩) (by assumption) ?r14
  case h14 => (intro w' hSw; (try dsimp only at hSw); go_simp; (try with_reducible rfl))
  try simp only [Act.put, List.setIfInBounds_toArray, List.set_cons_zero, List.set_cons_succ]
  refine wpAnyH_take (i := 15) (oi := ⟨some 4, _, _, _, _, _⟩) (v := ?v15) rfl (by kernel_rfl) (by kernel_rfl) (by kernel_rfl) (fun _ _ _ h => h) (Or.inl ⟨by kernel_rfl, ?h15⟩) (by assumption) ?r15
  case h15 => (intro w' hSw; (try dsimp only at hSw); go_simp; (try with_reducible rfl))
  try simp only [Act.put, List.setIfInBounds_toArray, List.set_cons_zero, List.set_cons_succ]
  refine wpAnyH_done (by kernel_rfl) ?_ _
  go_wp2_with fail
  go_ret
  exact ⟨rfl, S1.out.bs.bel⟩
set_option maxRecDepth 100000 in
theorem checks7_fits (B E : Int) (a : Option Addr) (n c : Nat) (f : Nat → Int × Int) (K W : Int) (w : World) (ht : MT w) (hr : LRd w w.heap.size a n f) (hn : n ≤ 80) :
    Calls Tryd.prog 3 #[.agg #[.int .i64 B, .int .i64 E, .slice a n c], .agg #[.int .i64 K, .int .i64 W]] w fun e w' => e = .returned (.bool true) ∧ Below w.heap.size w w' := by
  have HN := Lib.hid (decide_eq_true hn)
  clear hn
  have S0' := Lib.hid (bm_new w B E a n c f K W ht hr)
  clear ht hr
  obtain ⟨G, hG⟩ : ∃ G, w.heap.size = G := ⟨_, rfl⟩
  obtain ⟨v0, hv0⟩ : ∃ v, (w.alloc (.cells #[.int .i64 B, .int .i64 E, .slice a n c] 24)).alloc (.cells #[.int .i64 K, .int .i64 W] 26) = v := ⟨_, rfl⟩
  have S0 : Hid (Bm w v0 G (G + 1) B E a n c f K W) := Lib.hid (by rw [← hv0, ← hG]; exact S0'.out)
  clear S0'
  obtain ⟨t0', t1', t2', t3', t4'⟩ := S0.out.bs.cells
  have hG1 : (w.alloc (.cells #[.int .i64 B, .int .i64 E, .slice a n c] 24)).heap.size = G + 1 := by rw [← hG]; simp
  go_enter Tryd.func3, Tryd.ntmps3
  go_wp2_with fail
  have S0d : Hid (Bm w v0.drew G (G + 1) B E a n c f K W) := Lib.hid S0.out.drew
  go_region_held3 (fun w' => w'.cell? ⟨G, 0, none⟩ = some (.int .i64 B) ∧ w'.cell? ⟨G, 1, none⟩ = some (.int .i64 E) ∧ w'.cell? ⟨G, 2, none⟩ = some (.slice a n c) ∧ w'.cell? ⟨G + 1, 0, none⟩ = some (.int .i64 K) ∧ w'.cell? ⟨G + 1, 1, none⟩ = some (.int .i64 W)) (go_keep)
    (first
      | (go_at_call 10; refine (small7_v HN.out _).mono ?_; rintro e v1 ⟨rfl, hbl⟩; have S1 := Lib.hid (S0d.out.below hbl); clear hbl S0d; obtain ⟨x0, x1, x2, x3, x4⟩ := S1.out.bs.cells; clear t0' t1' t2' t3' t4')
      | (go_at_call 11; refine (schk_any B E a n c f K W _ ?_ ?_).mono ?_; exact S1.out.mt; exact S1.out.bs.lrd; rintro e v2 ⟨rfl, hbl⟩; have S2 := Lib.hid (S1.out.below hbl); clear hbl S1; obtain ⟨y0, y1, y2, y3, y4⟩ := S2.out.bs.cells; clear x0 x1 x2 x3 x4)
      | (go_at_call 12; refine (rschk_any B E a n c f K W _ ?_).mono ?_; exact S2.out.bs.lrd; rintro e v3 ⟨rfl, hbl⟩; have S3 := Lib.hid (S2.out.below hbl); clear hbl S2; obtain ⟨z0, z1, z2, z3, z4⟩ := S3.out.bs.cells; clear y0 y1 y2 y3 y4)
      | (go_at_call 13; refine (awake7_any _ ?_).mono ?_; exact S3.out.mt; rintro e v4 ⟨rfl, hbl⟩; have S4 := Lib.hid (S3.out.below hbl); clear hbl; obtain ⟨q0, q1, q2, q3, q4⟩ := S4.out.bs.cells; clear z0 z1 z2 z3 z4))
  go_wp2_with fail
  go_ret
  exact ⟨rfl, S4.out.bs.bel⟩
theorem checks7_law (B E : Int) (a : Option Addr) (n c : Nat) (f : Nat → Int × Int) (K W : Int) (w : World) (ht : MT w) (hr : LRd w w.heap.size a n f) :
    Calls Tryd.prog 3 #[.agg #[.int .i64 B, .int .i64 E, .slice a n c], .agg #[.int .i64 K, .int .i64 W]] w fun e w' => e = .returned (.bool true) ∧ Below w.heap.size w w' := by
  by_cases hn : n ≤ 80
  · exact checks7_fits B E a n c f K W w ht hr hn
  · exact checks7_large B E a n c f K W w ht hr hn
end Go.Proofs.YtghaboanakecjaaDoor
