/- The walk of SmearRates. -/
import Derived.Test.YtghaboanakecjaaDoorSmeM
namespace Go.Proofs.YtghaboanakecjaaDoor
open Go.RowKit Fx Cv Lp Sm

set_option maxRecDepth 100000 in
theorem rates7_large (B E : Int) (a : Option Addr) (n c : Nat) (f : Nat → Int × Int) (K W t : Int) (w : World) (ht : MT w) (hr : LRd w w.heap.size a n f) (hn : ¬ n ≤ 80) :
    Calls Tryd.prog 6 #[.agg #[.int .i64 B, .int .i64 E, .slice a n c], .agg #[.int .i64 K, .int .i64 W], .int .i64 t] w fun e w' => e = .returned (.bool true) ∧ Below w.heap.size w w' := by
  have HN := Lib.hid (decide_eq_false hn)
  clear hn
  have S0' := Lib.hid (bm_new w B E a n c f K W ht hr)
  clear ht hr
  obtain ⟨G, hG⟩ : ∃ G, w.heap.size = G := ⟨_, rfl⟩
  obtain ⟨v0, hv0⟩ : ∃ v, (w.alloc (.cells #[.int .i64 B, .int .i64 E, .slice a n c] 24)).alloc (.cells #[.int .i64 K, .int .i64 W] 26) = v := ⟨_, rfl⟩
  have S0 : Hid (Bm w v0 G (G + 1) B E a n c f K W) := Lib.hid (by rw [← hv0, ← hG]; exact S0'.out)
  clear S0'
  obtain ⟨t0', t1', t2', t3', t4'⟩ := S0.out.bs.cells
  have hG1 : (w.alloc (.cells #[.int .i64 B, .int .i64 E, .slice a n c] 24)).heap.size = G + 1 := by rw [← hG]; simp
  go_enter Tryd.func6, Tryd.ntmps6
  go_wp2_with fail
  have S0d : Hid (Bm w v0.drew G (G + 1) B E a n c f K W) := Lib.hid S0.out.drew
  refine wp_region_held_drew (S := (fun w' => w'.cell? ⟨G, 0, none⟩ = some (.int .i64 B) ∧ w'.cell? ⟨G, 1, none⟩ = some (.int .i64 E) ∧ w'.cell? ⟨G, 2, none⟩ = some (.slice a n c) ∧ w'.cell? ⟨G + 1, 0, none⟩ = some (.int .i64 K) ∧ w'.cell? ⟨G + 1, 1, none⟩ = some (.int .i64 W))) (by kernel_rfl) ⟨t0', t1', t2', t3', t4'⟩ (fun hHeld => ?_)
  refine wpAnyH_take (i := 0) (oi := ⟨some 7, _, _, _, _, _⟩) (v := ?v0) rfl (by kernel_rfl) (by kernel_rfl) (by kernel_rfl) (fun _ _ _ h => h) (Or.inl ⟨by kernel_rfl, ?h0⟩) (by assumption) ?r0
  case h0 => (intro w' hSw; (try dsimp only at hSw); go_simp; (try with_reducible rfl))
  try simp only [Act.put, List.setIfInBounds_toArray, List.set_cons_zero, List.set_cons_succ]
  refine wpAnyH_ready (rs := [1]) (by kernel_rfl) (by simp) ?_
  refine AllReadyH.cons (o := ⟨some 8, _, _, _, _, _⟩) rfl (fun K hK => ?_) AllReadyH.nil
  rw [if_pos (by kernel_rfl)]
  go_simp
  refine (small7_v HN.out _).mono ?_
  rintro e v1 ⟨rfl, hbl⟩
  have S1 := Lib.hid (S0d.out.below hbl)
  clear hbl
  obtain ⟨r0, r1, r2, r3, r4⟩ := S1.out.bs.cells
  go_wp2_with fail
  refine hK.out _ _ ⟨r0, r1, r2, r3, r4⟩ (fun hHeld1 => ?_)
  clear hK K
  try simp only [Act.put, List.setIfInBounds_toArray, List.set_cons_zero, List.set_cons_succ]
  refine wpAnyH_take (i := 2) (oi := ⟨some 9, _, _, _, _, _⟩) (v := ?v2) rfl (by kernel_rfl) (by kernel_rfl) (by kernel_rfl) (fun _ _ _ h => h) (Or.inl ⟨by kernel_rfl, ?h2⟩) (by assumption) ?r2
  case h2 => (intro w' hSw; (try dsimp only at hSw); go_simp; (try with_reducible rfl))
  try simp only [Act.put, List.setIfInBounds_toArray, List.set_cons_zero, List.set_cons_succ]
  refine wpAnyH_take (i := 3) (oi := ⟨some 10, _, _, _, _, _⟩) (v := ?v3) rfl (by kernel_rfl) (by kernel_rfl) (by kernel_rfl) (fun _ _ _ h => h) (Or.inl ⟨by kernel_rfl, ?h3⟩) (by assumption) ?r3
  case h3 => (intro w' hSw; (try dsimp only at hSw); go_simp; (try with_reducible rfl))
  try simp only [Act.put, List.setIfInBounds_toArray, List.set_cons_zero, List.set_cons_succ]
  refine wpAnyH_take (i := 4) (oi := ⟨some 11, _, _, _, _, _⟩) (v := undef) rfl (by kernel_rfl) (by kernel_rfl) (by kernel_rfl) (fun _ _ _ h => h) (Or.inr ⟨by kernel_rfl, rfl⟩) (by assumption) ?_
  try simp only [Act.put, List.setIfInBounds_toArray, List.set_cons_zero, List.set_cons_succ]
  refine wpAnyH_take (i := 5) (oi := ⟨some 12, _, _, _, _, _⟩) (v := undef) rfl (by kernel_rfl) (by kernel_rfl) (by kernel_rfl) (fun _ _ _ h => h) (Or.inr ⟨by kernel_rfl, rfl⟩) (by assumption) ?_
  try simp only [Act.put, List.setIfInBounds_toArray, List.set_cons_zero, List.set_cons_succ]
  refine wpAnyH_take (i := 6) (oi := ⟨some 13, _, _, _, _, _⟩) (v := undef) rfl (by kernel_rfl) (by kernel_rfl) (by kernel_rfl) (fun _ _ _ h => h) (Or.inr ⟨by kernel_rfl, rfl⟩) (by assumption) ?_
  try simp only [Act.put, List.setIfInBounds_toArray, List.set_cons_zero, List.set_cons_succ]
  refine wpAnyH_take (i := 7) (oi := ⟨some 14, _, _, _, _, _⟩) (v := undef) rfl (by kernel_rfl) (by kernel_rfl) (by kernel_rfl) (fun _ _ _ h => h) (Or.inr ⟨by kernel_rfl, rfl⟩) (by assumption) ?_
  try simp only [Act.put, List.setIfInBounds_toArray, List.set_cons_zero, List.set_cons_succ]
  refine wpAnyH_take (i := 8) (oi := ⟨some 15, _, _, _, _, _⟩) (v := undef) rfl (by kernel_rfl) (by kernel_rfl) (by kernel_rfl) (fun _ _ _ h => h) (Or.inr ⟨by kernel_rfl, rfl⟩) (by assumption) ?_
  try simp only [Act.put, List.setIfInBounds_toArray, List.set_cons_zero, List.set_cons_succ]
  refine wpAnyH_take (i := 9) (oi := ⟨some 16, _, _, _, _, _⟩) (v := undef) rfl (by kernel_rfl) (by kernel_rfl) (by kernel_rfl) (fun _ _ _ h => h) (Or.inr ⟨by kernel_rfl, rfl⟩) (by assumption) ?_
  try simp only [Act.put, List.setIfInBounds_toArray, List.set_cons_zero, List.set_cons_succ]
  refine wpAnyH_take (i := 10) (oi := ⟨some 17, _, _, _, _, _⟩) (v := undef) rfl (by kernel_rfl) (by kernel_rfl) (by kernel_rfl) (fun _ _ _ h => h) (Or.inr ⟨by kernel_rfl, rfl⟩) (by assumption) ?_
  try simp only [Act.put, List.setIfInBounds_toArray, List.set_cons_zero, List.set_cons_succ]
  refine wpAnyH_take (i := 11) (oi := ⟨some 18, _, _, _, _, _⟩) (v := undef) rfl (by kernel_rfl) (by kernel_rfl) (by kernel_rfl) (fun _ _ _ h => h) (Or.inr ⟨by kernel_rfl, rfl⟩) (by assumption) ?_
  try simp only [Act.put, List.setIfInBounds_toArray, List.set_cons_zero, List.set_cons_succ]
  refine wpAnyH_take (i := 12) (oi := ⟨some 19, _, _, _, _, _⟩) (v := undef) rfl (by kernel_rfl) (by kernel_rfl) (by kernel_rfl) (fun _ _ _ h => h) (Or.inr ⟨by kernel_rfl, rfl⟩) (by assumption) ?_
  try simp only [Act.put, List.setIfInBounds_toArray, List.set_cons_zero, List.set_cons_succ]
  refine wpAnyH_take (i := 13) (oi := ⟨some 20, _, _, _, _, _⟩) (v := undef) rfl (by kernel_rfl) (by kernel_rfl) (by kernel_rfl) (fun _ _ _ h => h) (Or.inr ⟨by kernel_rfl, rfl⟩) (by assumption) ?_
  try simp only [Act.put, List.setIfInBounds_toArray, List.set_cons_zero, List.set_cons_succ]
  refine wpAnyH_take (i := 14) (oi := ⟨some 21, _, _, _, _, _⟩) (v := undef) rfl (by kernel_rfl) (by kernel_rfl) (by kernel_rfl) (fun _ _ _ h => h) (Or.inr ⟨by kernel_rfl, rfl⟩) (by assumption) ?_
  try simp only [Act.put, List.setIfInBounds_toArray, List.set_cons_zero, List.set_cons_succ]
  refine wpAnyH_take (i := 15) (oi := ⟨some 22, _, _, _, _, _⟩) (v := undef) rfl (by kernel_rfl) (by kernel_rfl) (by kernel_rfl) (fun _ _ _ h => h) (Or.inr ⟨by kernel_rfl, rfl⟩) (by assumption) ?_
  try simp only [Act.put, List.setIfInBounds_toArray, List.set_cons_zero, List.set_cons_succ]
  refine wpAnyH_take (i := 16) (oi := ⟨some 23, _, _, _, _, _⟩) (v := undef) rfl (by kernel_rfl) (by kernel_rfl) (by kernel_rfl) (fun _ _ _ h => h) (Or.inr ⟨by kernel_rfl, rfl⟩) (by assumption) ?_
  try simp only [Act.put, List.setIfInBounds_toArray, List.set_cons_zero, List.set_cons_succ]
  refine wpAnyH_take (i := 17) (oi := ⟨some 24, _, _, _, _, _⟩) (v := undef) rfl (by kernel_rfl) (by kernel_rfl) (by kernel_rfl) (fun _ _ _ h => h) (Or.inr ⟨by kernel_rfl, rfl⟩) (by assumption) ?_
  try simp only [Act.put, List.setIfInBounds_toArray, List.set_cons_zero, List.set_cons_succ]
  refine wpAnyH_take (i := 18) (oi := ⟨some 25, _, _, _, _, _⟩) (v := undef) rfl (by kernel_rfl) (by kernel_rfl) (by kernel_rfl) (fun _ _ _ h => h) (Or.inr ⟨by kernel_rfl, rfl⟩) (by assumption) ?_
  try simp only [Act.put, List.setIfInBounds_toArray, List.set_cons_zero, List.set_cons_succ]
  refine wpAnyH_take (i := 19) (oi := ⟨some 26, _, _, _, _, _⟩) (v := undef) rfl (by kernel_rfl) (by kernel_rfl) (by kernel_rfl) (fun _ _ _ h => h) (Or.inr ⟨by kernel_rfl, rfl⟩) (by assumption) ?_
  try simp only [Act.put, List.setIfInBounds_toArray, List.set_cons_zero, List.set_cons_succ]
  refine wpAnyH_take (i := 20) (oi := ⟨some 27, _, _, _, _, _⟩) (v := undef) rfl (by kernel_rfl) (by kernel_rfl) (by kernel_rfl) (fun _ _ _ h => h) (Or.inr ⟨by kernel_rfl, rfl⟩) (by assumption) ?_
  try simp only [Act.put, List.setIfInBounds_toArray, List.set_cons_zero, List.set_cons_succ]
  refine wpAnyH_take (i := 21) (oi := ⟨some 28, _, _, _, _, _⟩) (v := undef) rfl (by kernel_rfl) (by kernel_rfl) (by kernel_rfl) (fun _ _ _ h => h) (Or.inr ⟨by kernel_rfl, rfl⟩) (by assumption) ?_
  try simp only [Act.put, List.setIfInBounds_toArray, List.set_cons_zero, List.set_cons_succ]
  refine wpAnyH_take (i := 22) (oi := ⟨some 29, _, _, _, _, _⟩) (v := undef) rfl (by kernel_rfl) (by kernel_rfl) (by kernel_rfl) (fun _ _ _ h => h) (Or.inr ⟨by kernel_rfl, rfl⟩) (by assumption) ?_
  try simp only [Act.put, List.setIfInBounds_toArray, List.set_cons_zero, List.set_cons_succ]
  refine wpAnyH_take (i := 23) (oi := ⟨some 30, _, _, _, _, _⟩) (v := undef) rfl (by kernel_rfl) (by kernel_rfl) (by kernel_rfl) (fun _ _ _ h => h) (Or.inr ⟨by kernel_rfl, rfl⟩) (by assumption) ?_
  try simp only [Act.put, List.setIfInBounds_toArray, List.set_cons_zero, List.set_cons_succ]
  refine wpAnyH_take (i := 24) (oi := ⟨some 31, _, _, _, _, _⟩) (v := undef) rfl (by kernel_rfl) (by kernel_rfl) (by kernel_rfl) (fun _ _ _ h => h) (Or.inr ⟨by kernel_rfl, rfl⟩) (by assumption) ?_
  try simp only [Act.put, List.setIfInBounds_toArray, List.set_cons_zero, List.set_cons_succ]
  refine wpAnyH_take (i := 25) (oi := ⟨some 32, _, _, _, _, _⟩) (v := undef) rfl (by kernel_rfl) (by kernel_rfl) (by kernel_rfl) (fun _ _ _ h => h) (Or.inr ⟨by kernel_rfl, rfl⟩) (by assumption) ?_
  try simp only [Act.put, List.setIfInBounds_toArray, List.set_cons_zero, List.set_cons_succ]
  refine wpAnyH_take (i := 26) (oi := ⟨some 33, _, _, _, _, _⟩) (v := undef) rfl (by kernel_rfl) (by kernel_rfl) (by kernel_rfl) (fun _ _ _ h => h) (Or.inr ⟨by kernel_rfl, rfl⟩) (by assumption) ?_
  try simp only [Act.put, List.setIfInBounds_toArray, List.set_cons_zero, List.set_cons_succ]
  refine wpAnyH_take (i := 27) (oi := ⟨some 34, _, _, _, _, _⟩) (v := ?v27) rfl (by kernel_rfl) (by kernel_rfl) (by kernel_rfl) (fun _ _ _ h => h) (Or.inl ⟨by kernel_rfl, ?h27⟩) (by assumption) ?r27
  case h27 => (intro w' hSw; (try dsimp only at hSw); go_simp; (try with_reducible rfl))
  try simp only [Act.put, List.setIfInBounds_toArray, List.set_cons_zero, List.set_cons_succ]
  refine wpAnyH_take (i := 28) (oi := ⟨some 6, _, _, _, _, _⟩) (v := ?v28) rfl (by kernel_rfl) (by kernel_rfl) (by kernel_rfl) (fun _ _ _ h => h) (Or.inl ⟨by kernel_rfl, ?h28⟩) (by assumption) ?r28
  case h28 => (intro w' hSw; (try dsimp only at hSw); go_simp; (try with_reducible rfl))
  try simp only [Act.put, List.setIfInBounds_toArray, List.set_cons_zero, List.set_cons_succ]
  refine wpAnyH_done (by kernel_rfl) ?_ _
  go_wp2_with fail
  go_ret
  exact ⟨rfl, S1.out.bs.bel⟩

set_option maxRecDepth 100000 in
set_option maxHeartbeats 2000000 in
theorem rates7_fits (B E : Int) (a : Option Addr) (n c : Nat) (f : Nat → Int × Int) (K W t : Int) (w : World) (ht : MT w) (hr : LRd w w.heap.size a n f) (hn : n ≤ 80) :
    Calls Tryd.prog 6 #[.agg #[.int .i64 B, .int .i64 E, .slice a n c], .agg #[.int .i64 K, .int .i64 W], .int .i64 t] w fun e w' => e = .returned (.bool true) ∧ Below w.heap.size w w' := by
  have HN := Lib.hid (decide_eq_true hn)
  clear hn
  obtain ⟨A, hA⟩ : ∃ V, (smg B E f n K W t != 0) = V := ⟨_, rfl⟩
  obtain ⟨Z, hZ⟩ : ∃ V, rat B E f n K W t = V := ⟨_, rfl⟩
  have HA := Lib.hid hA
  have HB := Lib.hid hZ
  clear hA hZ
  have S0' := Lib.hid (bm_new w B E a n c f K W ht hr)
  clear ht hr
  obtain ⟨G, hG⟩ : ∃ G, w.heap.size = G := ⟨_, rfl⟩
  obtain ⟨v0, hv0⟩ : ∃ v, (w.alloc (.cells #[.int .i64 B, .int .i64 E, .slice a n c] 24)).alloc (.cells #[.int .i64 K, .int .i64 W] 26) = v := ⟨_, rfl⟩
  have S0 : Hid (Bm w v0 G (G + 1) B E a n c f K W) := Lib.hid (by rw [← hv0, ← hG]; exact S0'.out)
  clear S0'
  obtain ⟨t0', t1', t2', t3', t4'⟩ := S0.out.bs.cells
  have hG1 : (w.alloc (.cells #[.int .i64 B, .int .i64 E, .slice a n c] 24)).heap.size = G + 1 := by rw [← hG]; simp
  go_enter Tryd.func6, Tryd.ntmps6
  go_wp2_with fail
  have S0d : Hid (Bm w v0.drew G (G + 1) B E a n c f K W) := Lib.hid S0.out.drew
  go_region_held3 (fun w' => w'.cell? ⟨G, 0, none⟩ = some (.int .i64 B) ∧ w'.cell? ⟨G, 1, none⟩ = some (.int .i64 E) ∧ w'.cell? ⟨G, 2, none⟩ = some (.slice a n c) ∧ w'.cell? ⟨G + 1, 0, none⟩ = some (.int .i64 K) ∧ w'.cell? ⟨G + 1, 1, none⟩ = some (.int .i64 W)) (go_keep)
    (first
      | (go_at_call 10; refine (small7_v HN.out _).mono ?_; rintro e v1 ⟨rfl, hbl⟩; have S1 := Lib.hid (S0d.out.below hbl); clear hbl S0d; obtain ⟨x10, x11, x12, x13, x14⟩ := S1.out.bs.cells; clear t0' t1' t2' t3' t4')
      | (go_at_call 18; refine (active_any B E a n c f K W t _ ?_ ?_).mono ?_; exact S1.out.mt; exact S1.out.bs.lrd; rintro e v2 ⟨rfl, hbl⟩; rw [HA.out]; have S2 := Lib.hid (S1.out.below hbl); clear hbl S1; obtain ⟨x20, x21, x22, x23, x24⟩ := S2.out.bs.cells; clear x10 x11 x12 x13 x14)
      | (go_at_call 19; refine (ract_any B E a n c f K W t _ ?_).mono ?_; exact S2.out.bs.lrd; rintro e v3 ⟨rfl, hbl⟩; rw [HA.out]; have S3 := Lib.hid (S2.out.below hbl); clear hbl S2; obtain ⟨x30, x31, x32, x33, x34⟩ := S3.out.bs.cells; clear x20 x21 x22 x23 x24)
      | (go_at_call 20; refine (rate_any B E a n c f K W t _ ?_ ?_).mono ?_; exact S3.out.mt; exact S3.out.bs.lrd; rintro e v4 ⟨rfl, hbl⟩; rw [HB.out]; have S4 := Lib.hid (S3.out.below hbl); clear hbl S3; obtain ⟨x40, x41, x42, x43, x44⟩ := S4.out.bs.cells; clear x30 x31 x32 x33 x34)
      | (go_at_call 21; refine (rrat_any B E a n c f K W t _ ?_).mono ?_; exact S4.out.bs.lrd; rintro e v5 ⟨rfl, hbl⟩; rw [HB.out]; have S5 := Lib.hid (S4.out.below hbl); clear hbl S4; obtain ⟨x50, x51, x52, x53, x54⟩ := S5.out.bs.cells; clear x40 x41 x42 x43 x44)
      | (go_at_call 13; refine (awake7_any _ ?_).mono ?_; exact S5.out.mt; rintro e v6 ⟨rfl, hbl⟩; have S6 := Lib.hid (S5.out.below hbl); clear hbl S5; obtain ⟨x60, x61, x62, x63, x64⟩ := S6.out.bs.cells; clear x50 x51 x52 x53 x54))
  go_wp2_with fail
  go_ret
  exact ⟨rfl, S6.out.bs.bel⟩
theorem rates7_law (B E : Int) (a : Option Addr) (n c : Nat) (f : Nat → Int × Int) (K W t : Int) (w : World) (ht : MT w) (hr : LRd w w.heap.size a n f) :
    Calls Tryd.prog 6 #[.agg #[.int .i64 B, .int .i64 E, .slice a n c], .agg #[.int .i64 K, .int .i64 W], .int .i64 t] w fun e w' => e = .returned (.bool true) ∧ Below w.heap.size w w' := by
  by_cases hn : n ≤ 80
  · exact rates7_fits B E a n c f K W t w ht hr hn
  · exact rates7_large B E a n c f K W t w ht hr hn
end Go.Proofs.YtghaboanakecjaaDoor
