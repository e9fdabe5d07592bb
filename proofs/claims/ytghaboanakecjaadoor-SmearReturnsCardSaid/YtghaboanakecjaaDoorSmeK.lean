/- Contracts of layer 7: the specification's windows and places. -/
import Derived.Test.YtghaboanakecjaaDoorSmeJ
import Derived.Deep.RegionHeld3
namespace Go.Proofs.YtghaboanakecjaaDoor
open Go.RowKit Fx Cv Lp Sm

theorem roff_any (B E : Int) (a : Option Addr) (n c : Nat) (f : Nat → Int × Int) (k : Nat) (w : World) (hr : LRd w w.heap.size a n f) (hk : k ≤ n) (hn : n ≤ 64) :
    Calls Tryd.prog 40 #[.agg #[.int .i64 B, .int .i64 E, .slice a n c], .int .i64 k] w fun e w' => e = .returned (.int .i64 (offA B f k)) ∧ Below w.heap.size w w' := by
  have B1 := Lib.hid ((Below.refl w.heap.size w).alloc (Nat.le_refl _) (.cells #[.int .i64 B, .int .i64 E, .slice a n c] 24))
  obtain ⟨c0, c1, c2⟩ := (tbx_new w B E a n c).cells
  cases k with
  | zero =>
    clear hr
    go_enter Tryd.func40, Tryd.ntmps40
    go_wp2_with fail
    go_ret
    exact ⟨rfl, B1.out⟩
  | succ j =>
    obtain ⟨b, off, rfl, hlt, hc⟩ := (hr.below B1.out) (by omega)
    have d1 := (hc j (by omega)).2
    have hj64 : (j : Int) ≤ 63 := by omega
    have hjn : (j : Int) < n := by omega
    clear hc hr
    go_enter Tryd.func40, Tryd.ntmps40
    go_wp2_with fail
    go_ret
    exact ⟨rfl, B1.out⟩
theorem roff_v {x : Int} {k : Nat} (hx : x = k) (B E : Int) (a : Option Addr) (n c : Nat) (f : Nat → Int × Int) (w : World) (hr : LRd w w.heap.size a n f) (hk : k ≤ n) (hn : n ≤ 64) :
    Calls Tryd.prog 40 #[.agg #[.int .i64 B, .int .i64 E, .slice a n c], .int .i64 x] w fun e w' => e = .returned (.int .i64 (offA B f k)) ∧ Below w.heap.size w w' := by
  subst hx; exact roff_any B E a n c f k w hr hk hn
theorem rbeg_1 (W x y : Int) (w : World) (hx : -8000000000 ≤ x ∧ x ≤ 8000000000) (hy : -1000 ≤ y ∧ y ≤ 1000) (w0 : 0 ≤ W) (w1 : W ≤ 172800) (ev : W % 2 = 0) :
    Calls Tryd.prog 47 #[.agg #[.int .i64 1, .int .i64 W], .agg #[.int .i64 x, .int .i64 y]] w fun e w' => e = .returned (.int .i64 ((x + y) * 1000000000)) ∧ Below w.heap.size w w' := by
  obtain ⟨x0, x1⟩ := hx
  obtain ⟨y0, y1⟩ := hy
  have HB := Lib.hid (show Below w.heap.size w ((w.alloc (.cells #[.int .i64 1, .int .i64 W] 26)).alloc (.cells #[.int .i64 x, .int .i64 y] 40)) from ((Below.refl _ _).alloc (Nat.le_refl _) _).alloc (by simp) _)
  have HE := Lib.hid ev
  clear ev
  go_enter Tryd.func47, Tryd.ntmps47
  go_wp2_with fail
  go_ret
  refine ⟨?_, HB.out⟩
  have := HE.out
  exact ret1 (by omega)
theorem rbeg_2 (W x y : Int) (w : World) (hx : -8000000000 ≤ x ∧ x ≤ 8000000000) (hy : -1000 ≤ y ∧ y ≤ 1000) (w0 : 0 ≤ W) (w1 : W ≤ 172800) (ev : W % 2 = 0) :
    Calls Tryd.prog 47 #[.agg #[.int .i64 2, .int .i64 W], .agg #[.int .i64 x, .int .i64 y]] w fun e w' => e = .returned (.int .i64 ((x + y) * 1000000000 - W * 1000000000 / 2)) ∧ Below w.heap.size w w' := by
  obtain ⟨x0, x1⟩ := hx
  obtain ⟨y0, y1⟩ := hy
  have HB := Lib.hid (show Below w.heap.size w ((w.alloc (.cells #[.int .i64 2, .int .i64 W] 26)).alloc (.cells #[.int .i64 x, .int .i64 y] 40)) from ((Below.refl _ _).alloc (Nat.le_refl _) _).alloc (by simp) _)
  have HE := Lib.hid ev
  clear ev
  go_enter Tryd.func47, Tryd.ntmps47
  go_wp2_with fail
  go_ret
  refine ⟨?_, HB.out⟩
  have := HE.out
  exact ret1 (by omega)
theorem rbeg_3 (W x y : Int) (w : World) (hx : -8000000000 ≤ x ∧ x ≤ 8000000000) (hy : -1000 ≤ y ∧ y ≤ 1000) (w0 : 0 ≤ W) (w1 : W ≤ 172800) (ev : W % 2 = 0) :
    Calls Tryd.prog 47 #[.agg #[.int .i64 3, .int .i64 W], .agg #[.int .i64 x, .int .i64 y]] w fun e w' => e = .returned (.int .i64 ((x + y) * 1000000000 - W * 1000000000)) ∧ Below w.heap.size w w' := by
  obtain ⟨x0, x1⟩ := hx
  obtain ⟨y0, y1⟩ := hy
  have HB := Lib.hid (show Below w.heap.size w ((w.alloc (.cells #[.int .i64 3, .int .i64 W] 26)).alloc (.cells #[.int .i64 x, .int .i64 y] 40)) from ((Below.refl _ _).alloc (Nat.le_refl _) _).alloc (by simp) _)
  have HE := Lib.hid ev
  clear ev
  go_enter Tryd.func47, Tryd.ntmps47
  go_wp2_with fail
  go_ret
  refine ⟨?_, HB.out⟩
  have := HE.out
  exact ret1 (by omega)
theorem rbeg_4 (W x y : Int) (w : World) (hx : -8000000000 ≤ x ∧ x ≤ 8000000000) (hy : -1000 ≤ y ∧ y ≤ 1000) (w0 : 0 ≤ W) (w1 : W ≤ 172800) (ev : W % 2 = 0) :
    Calls Tryd.prog 47 #[.agg #[.int .i64 4, .int .i64 W], .agg #[.int .i64 x, .int .i64 y]] w fun e w' => e = .returned (.int .i64 ((x + y) * 1000000000)) ∧ Below w.heap.size w w' := by
  obtain ⟨x0, x1⟩ := hx
  obtain ⟨y0, y1⟩ := hy
  have HB := Lib.hid (show Below w.heap.size w ((w.alloc (.cells #[.int .i64 4, .int .i64 W] 26)).alloc (.cells #[.int .i64 x, .int .i64 y] 40)) from ((Below.refl _ _).alloc (Nat.le_refl _) _).alloc (by simp) _)
  have HE := Lib.hid ev
  clear ev
  go_enter Tryd.func47, Tryd.ntmps47
  go_wp2_with fail
  go_ret
  refine ⟨?_, HB.out⟩
  have := HE.out
  exact ret1 (by omega)
theorem rbeg_any (f : Nat → Int × Int) (i : Nat) (K W x y : Int) (w : World) (hP : Pol K W) (hf : f i = (x, y)) (hx : -8000000000 ≤ x ∧ x ≤ 8000000000) (hy : -1000 ≤ y ∧ y ≤ 1000) :
    Calls Tryd.prog 47 #[.agg #[.int .i64 K, .int .i64 W], .agg #[.int .i64 x, .int .i64 y]] w fun e w' => e = .returned (.int .i64 (fsI f K W i)) ∧ Below w.heap.size w w' := by
  have e1 : chg f i = (x + y) * 1000000000 := by unfold chg; rw [hf]
  obtain ⟨k0, k1, w0, w1, ev, st, sm⟩ := hP
  unfold fsI sft
  rw [e1]
  rcases (show K = 1 ∨ K = 2 ∨ K = 3 ∨ K = 4 by omega) with rfl | rfl | rfl | rfl
  · refine (rbeg_1 W x y w hx hy w0 w1 ev).mono fun e w' h => ?_
    simpa using h
  · refine (rbeg_2 W x y w hx hy w0 w1 ev).mono fun e w' h => ?_
    simpa using h
  · refine (rbeg_3 W x y w hx hy w0 w1 ev).mono fun e w' h => ?_
    simpa using h
  · refine (rbeg_4 W x y w hx hy w0 w1 ev).mono fun e w' h => ?_
    simpa using h

set_option maxRecDepth 100000 in
set_option maxHeartbeats 1000000 in
theorem rplace_any (B E : Int) (a : Option Addr) (n c : Nat) (f : Nat → Int × Int) (K W t : Int) (w : World) (hr : LRd w w.heap.size a n f) (hv : Val B E f n) (hP : Pol K W) (b0 : -8000000000000000000 ≤ t) (b1 : t ≤ 8000000000000000000) :
    Calls Tryd.prog 37 #[.agg #[.int .i64 B, .int .i64 E, .slice a n c], .agg #[.int .i64 K, .int .i64 W], .int .i64 t] w fun e w' => e = .returned (.int .i64 (pb f n K W t : Nat)) ∧ Below w.heap.size w w' := by
  have hi : (n : Int) ≤ 64 := by have := hv.le; omega
  obtain ⟨P, hPP⟩ : ∃ P, pb f n K W t = P := ⟨_, rfl⟩
  have hPn : P ≤ n := by rw [← hPP]; exact pb_le f n K W t
  have HI : Hid (∀ i, i < n → (fsI f K W i ≤ t ↔ i < P)) := Lib.hid (fun i h => by rw [← hPP]; exact pb_iff hv hP h)
  have HR := Lib.hid hv.rng
  have HP := Lib.hid hP
  rw [hPP]
  clear hPP hv hP
  obtain ⟨G, hG⟩ : ∃ G, w.heap.size = G := ⟨_, rfl⟩
  obtain ⟨v0, hv0⟩ : ∃ v, (w.alloc (.cells #[.int .i64 B, .int .i64 E, .slice a n c] 24)).alloc (.cells #[.int .i64 K, .int .i64 W] 26) = v := ⟨_, rfl⟩
  have hG1 : (w.alloc (.cells #[.int .i64 B, .int .i64 E, .slice a n c] 24)).heap.size = G + 1 := by rw [← hG]; simp
  have S0' := Lib.hid (bs_new w B E a n c f K W hr)
  have S0 : Hid (Bs w v0 G (G + 1) B E a n c f K W) := Lib.hid (by rw [← hv0, ← hG]; exact S0'.out)
  clear S0' hr
  obtain ⟨t0', t1', t2', t3', t4'⟩ := S0.out.cells
  go_enter Tryd.func37, Tryd.ntmps37
  go_wp2_with fail
  clear hv0 hG1
  go_loopw [7, 8] (fun o iv wr => ∃ k : Nat, k ≤ n ∧ iv = .int .i64 k ∧ o = .int .i64 (min k P : Nat) ∧ Hid (Bs w wr G (G + 1) B E a n c f K W)) (fun _ iv _ => n - (intOf iv).toNat)
  case atStart => exact ⟨0, by omega, rfl, by rw [Nat.zero_min]; rfl, S0⟩
  case round =>
    clear S0 t0' t1' t2' t3' t4'
    obtain ⟨k, hk, rfl, rfl, SR⟩ := hrel
    by_cases hlt : k < n
    · have hki : (k : Int) < n := by omega
      obtain ⟨b, off, rfl, hbl, hcell⟩ := SR.out.lrd (by omega)
      obtain ⟨e0, e1⟩ := hcell k hlt
      obtain ⟨⟨y0, y1⟩, ⟨x0, x1⟩⟩ := HR.out.2.2 k hlt
      obtain ⟨x, hx⟩ : ∃ x, (f k).1 = x := ⟨_, rfl⟩
      obtain ⟨y, hy⟩ : ∃ y, (f k).2 = y := ⟨_, rfl⟩
      have HF := Lib.hid (show f k = (x, y) by rw [← hx, ← hy])
      rw [hx] at e0 x0 x1
      rw [hy] at e1 y0 y1
      have HPK := Lib.hid (HI.out k hlt)
      obtain ⟨p, hp⟩ : ∃ p, fsI f K W k = p := ⟨_, rfl⟩
      have HPP := Lib.hid hp
      rw [hp] at HPK
      have SD : Hid (Bs w wr.drew G (G + 1) B E (some ⟨b, off, none⟩) n c f K W) := Lib.hid ⟨SR.out.box, SR.out.pol, SR.out.lrd, SR.out.bel.drew⟩
      obtain ⟨t0, t1, t2, t3, t4⟩ := SR.out.cells
      have hnx : P ≤ n := hPn
      obtain ⟨mm, hmm⟩ : ∃ m, min k P = m := ⟨_, rfl⟩
      rw [hmm]
      have HM := Lib.hid hmm
      clear hx hy hp hcell hmm
      by_cases hA : p ≤ t
      · have hkP : k < P := HPK.out.1 hA
        go_wp2_with fail
        go_region_held3 (fun v => v.cell? ⟨G, 2, none⟩ = some (.slice (some ⟨b, off, none⟩) n c) ∧ v.cell? ⟨G + 1, 0, none⟩ = some (.int .i64 K) ∧ v.cell? ⟨G + 1, 1, none⟩ = some (.int .i64 W) ∧ v.cell? ⟨b, off + k * 2, none⟩ = some (.int .i64 x) ∧ v.cell? ⟨b, off + k * 2 + 1, none⟩ = some (.int .i64 y)) (go_keep)
          (first
            | (go_at_call 47; refine (rbeg_any f k K W x y _ HP.out HF.out ⟨x0, x1⟩ ⟨y0, y1⟩).mono ?_; rintro e v2 ⟨rfl, hb⟩; rw [HPP.out]; have S2 := Lib.hid (SD.out.below hb); have hE0 := (hb.cell (p := ⟨b, off + k * 2, none⟩) (by assumption)).trans e0; have hE1 := (hb.cell (p := ⟨b, off + k * 2 + 1, none⟩) (by assumption)).trans e1; clear hb SD; obtain ⟨_, _, s2, s3, s4⟩ := S2.out.cells; clear t0 t1 t2 t3 t4 e0 e1))
        go_wp2_with fail
        go_roundw
        case rel => exact ⟨k + 1, by omega, by go_num, by rw [Nat.min_eq_left (by omega)]; go_num, S2⟩
        case measure => simp [intOf]; omega
      · have hkP : ¬ k < P := fun h => hA (HPK.out.2 h)
        have hA' : decide (p ≤ t) = false := decide_eq_false hA
        go_wp2_with fail
        go_region_held3 (fun v => v.cell? ⟨G, 2, none⟩ = some (.slice (some ⟨b, off, none⟩) n c) ∧ v.cell? ⟨G + 1, 0, none⟩ = some (.int .i64 K) ∧ v.cell? ⟨G + 1, 1, none⟩ = some (.int .i64 W) ∧ v.cell? ⟨b, off + k * 2, none⟩ = some (.int .i64 x) ∧ v.cell? ⟨b, off + k * 2 + 1, none⟩ = some (.int .i64 y)) (go_keep)
          (first
            | (go_at_call 47; refine (rbeg_any f k K W x y _ HP.out HF.out ⟨x0, x1⟩ ⟨y0, y1⟩).mono ?_; rintro e v2 ⟨rfl, hb⟩; rw [HPP.out]; have S2 := Lib.hid (SD.out.below hb); have hE0 := (hb.cell (p := ⟨b, off + k * 2, none⟩) (by assumption)).trans e0; have hE1 := (hb.cell (p := ⟨b, off + k * 2 + 1, none⟩) (by assumption)).trans e1; clear hb SD; obtain ⟨_, _, s2, s3, s4⟩ := S2.out.cells; clear t0 t1 t2 t3 t4 e0 e1))
        go_wp2_with fail
        go_roundw
        case rel => exact ⟨k + 1, by omega, by go_num, by rw [← HM.out, Nat.min_eq_right (by omega), Nat.min_eq_right (by omega)], S2⟩
        case measure => simp [intOf]; omega
    · obtain rfl : k = n := by omega
      have hki : ¬ (k : Int) < k := by omega
      have hmm : min k P = P := Nat.min_eq_right hPn
      rw [hmm]
      obtain ⟨t0, t1, t2, t3, t4⟩ := SR.out.cells
      go_wp2_with fail
      refine bodyPost_ret (v := .int .i64 (P : Nat)) (by simp [results, Tryd.results37, go_sem]) rfl ⟨rfl, ?_⟩
      rw [← hG]; exact SR.out.bel

set_option maxRecDepth 100000 in
theorem rgone_zero (B E : Int) (a : Option Addr) (n c : Nat) (f : Nat → Int × Int) (K W t : Int) (P : Nat) (w : World) (hr : LRd w w.heap.size a n f) (hv : Val B E f n) (hP : Pol K W) (b0 : -8000000000000000000 ≤ t) (b1 : t ≤ 8000000000000000000) (hz : P = 0) (hp : pb f n K W t = P) :
    Calls Tryd.prog 36 #[.agg #[.int .i64 B, .int .i64 E, .slice a n c], .agg #[.int .i64 K, .int .i64 W], .int .i64 P, .int .i64 t] w fun e w' => e = .returned (.tuple #[.int .i64 (plS f n K W t), .bool (inW f n K W t)]) ∧ Below w.heap.size w w' := by
  subst hz
  have HZ := Lib.hid (gone_zero hp)
  clear hp hv hP b0 b1
  obtain ⟨G, hG⟩ : ∃ G, w.heap.size = G := ⟨_, rfl⟩
  obtain ⟨v0, hv0⟩ : ∃ v, (w.alloc (.cells #[.int .i64 B, .int .i64 E, .slice a n c] 24)).alloc (.cells #[.int .i64 K, .int .i64 W] 26) = v := ⟨_, rfl⟩
  have hG1 : (w.alloc (.cells #[.int .i64 B, .int .i64 E, .slice a n c] 24)).heap.size = G + 1 := by rw [← hG]; simp
  have S0' := Lib.hid (bs_new w B E a n c f K W hr)
  have S0 : Hid (Bs w v0 G (G + 1) B E a n c f K W) := Lib.hid (by rw [← hv0, ← hG]; exact S0'.out)
  clear S0' hr
  obtain ⟨t0', t1', t2', t3', t4'⟩ := S0.out.cells
  go_enter Tryd.func36, Tryd.ntmps36
  go_wp2_with fail
  go_ret2
  rw [HZ.out.1, HZ.out.2]
  exact ⟨rfl, S0.out.bel⟩

set_option maxRecDepth 100000 in
theorem rgone_no (B E : Int) (a : Option Addr) (n c : Nat) (f : Nat → Int × Int) (K W t : Int) (P : Nat) (w : World) (hr : LRd w w.heap.size a n f) (hv : Val B E f n) (hP : Pol K W) (b0 : -8000000000000000000 ≤ t) (b1 : t ≤ 8000000000000000000) (k : Nat) (hz : P = k + 1) (hp : pb f n K W t = P) (hA : fsI f K W k ≤ t - W * 1000000000) :
    Calls Tryd.prog 36 #[.agg #[.int .i64 B, .int .i64 E, .slice a n c], .agg #[.int .i64 K, .int .i64 W], .int .i64 P, .int .i64 t] w fun e w' => e = .returned (.tuple #[.int .i64 (plS f n K W t), .bool (inW f n K W t)]) ∧ Below w.heap.size w w' := by
  subst hz
  have hn64 := hv.le
  have hkn : k + 1 ≤ n := by rw [← hp]; exact pb_le f n K W t
  have HG := Lib.hid (gone_in (B := B) (E := E) hP hp hkn)
  have HR := Lib.hid hv.rng
  have hw0 := hP.w0
  have hw1 := hP.w1
  have HP := Lib.hid hP
  obtain ⟨X, hX⟩ : ∃ X : Int, ((k + 1 : Nat) : Int) = X := ⟨_, rfl⟩
  rw [hX]
  have hX1 : X - 1 = (k : Int) := by omega
  have hX2 : 1 ≤ X := by omega
  have hX3 : X ≤ 64 := by omega
  have hkw : IntKind.i64.wrap (k : Int) = (k : Int) := IntWalk.i64_in _ (by omega)
  have hXb : (X == 0) = false := by rw [beq_eq_false_iff_ne]; omega
  clear hv hP hp hX
  obtain ⟨G, hG⟩ : ∃ G, w.heap.size = G := ⟨_, rfl⟩
  obtain ⟨v0, hv0⟩ : ∃ v, (w.alloc (.cells #[.int .i64 B, .int .i64 E, .slice a n c] 24)).alloc (.cells #[.int .i64 K, .int .i64 W] 26) = v := ⟨_, rfl⟩
  have hG1 : (w.alloc (.cells #[.int .i64 B, .int .i64 E, .slice a n c] 24)).heap.size = G + 1 := by rw [← hG]; simp
  have S0' := Lib.hid (bs_new w B E a n c f K W hr)
  have S0 : Hid (Bs w v0 G (G + 1) B E a n c f K W) := Lib.hid (by rw [← hv0, ← hG]; exact S0'.out)
  clear S0' hr
  obtain ⟨t0', t1', t2', t3', t4'⟩ := S0.out.cells
  go_enter Tryd.func36, Tryd.ntmps36
  go_wp2_with fail
  clear hv0 hG1
  obtain ⟨b, off, rfl, hbl, hcell⟩ := S0.out.lrd (by omega)
  obtain ⟨e0, e1⟩ := hcell k (by omega)
  obtain ⟨⟨y0, y1⟩, ⟨x0, x1⟩⟩ := HR.out.2.2 k (by omega)
  obtain ⟨x, hx⟩ : ∃ x, (f k).1 = x := ⟨_, rfl⟩
  obtain ⟨y, hy⟩ : ∃ y, (f k).2 = y := ⟨_, rfl⟩
  have HF := Lib.hid (show f k = (x, y) by rw [← hx, ← hy])
  have wn := wnd_in (f := f) (i := k) HP.out ⟨x0, x1⟩ ⟨y0, y1⟩
  rw [hx] at e0 x0 x1
  rw [hy] at e1 y0 y1
  obtain ⟨p, hp⟩ : ∃ p, fsI f K W k = p := ⟨_, rfl⟩
  have HPP := Lib.hid hp
  rw [hp] at HG wn hA
  obtain ⟨p0, p1, p2, p3⟩ := wn
  have hpu : p ≤ 8100000000000000000 := by omega
  have SD : Hid (Bs w v0.drew G (G + 1) B E (some ⟨b, off, none⟩) n c f K W) := Lib.hid ⟨S0.out.box, S0.out.pol, S0.out.lrd, S0.out.bel.drew⟩
  have hki : (k : Int) < n := by omega
  have hk64 : (k : Int) ≤ 63 := by omega
  clear hx hy hp hcell p1 p2 p3 S0
  have HGG := Lib.hid (HG.out.1 hA)
  clear HG
  go_wp2_with fail
  go_region_held3 (fun v => v.cell? ⟨G, 2, none⟩ = some (.slice (some ⟨b, off, none⟩) n c) ∧ v.cell? ⟨G + 1, 0, none⟩ = some (.int .i64 K) ∧ v.cell? ⟨G + 1, 1, none⟩ = some (.int .i64 W) ∧ v.cell? ⟨b, off + k * 2, none⟩ = some (.int .i64 x) ∧ v.cell? ⟨b, off + k * 2 + 1, none⟩ = some (.int .i64 y)) (go_keep)
    (first
      | (go_at_call 47; refine (rbeg_any f k K W x y _ HP.out HF.out ⟨x0, x1⟩ ⟨y0, y1⟩).mono ?_; rintro e v2 ⟨rfl, hb⟩; rw [HPP.out]; have S2 := Lib.hid (SD.out.below hb); have hE0 := (hb.cell (p := ⟨b, off + k * 2, none⟩) (by assumption)).trans e0; have hE1 := (hb.cell (p := ⟨b, off + k * 2 + 1, none⟩) (by assumption)).trans e1; clear hb SD; obtain ⟨_, _, s2, s3, s4⟩ := S2.out.cells; clear t0' t1' t2' t3' t4' e0 e1))
  go_wp2_with fail
  go_ret2
  rw [HGG.out.1, HGG.out.2]
  exact ⟨rfl, S2.out.bel⟩

set_option maxRecDepth 100000 in
theorem rgone_yes (B E : Int) (a : Option Addr) (n c : Nat) (f : Nat → Int × Int) (K W t : Int) (P : Nat) (w : World) (hr : LRd w w.heap.size a n f) (hv : Val B E f n) (hP : Pol K W) (b0 : -8000000000000000000 ≤ t) (b1 : t ≤ 8000000000000000000) (k : Nat) (hz : P = k + 1) (hp : pb f n K W t = P) (hA : ¬ fsI f K W k ≤ t - W * 1000000000) :
    Calls Tryd.prog 36 #[.agg #[.int .i64 B, .int .i64 E, .slice a n c], .agg #[.int .i64 K, .int .i64 W], .int .i64 P, .int .i64 t] w fun e w' => e = .returned (.tuple #[.int .i64 (plS f n K W t), .bool (inW f n K W t)]) ∧ Below w.heap.size w w' := by
  subst hz
  have hn64 := hv.le
  have hkn : k + 1 ≤ n := by rw [← hp]; exact pb_le f n K W t
  have HG := Lib.hid (gone_in (B := B) (E := E) hP hp hkn)
  have HR := Lib.hid hv.rng
  have hw0 := hP.w0
  have hw1 := hP.w1
  have HP := Lib.hid hP
  obtain ⟨X, hX⟩ : ∃ X : Int, ((k + 1 : Nat) : Int) = X := ⟨_, rfl⟩
  rw [hX]
  have hX1 : X - 1 = (k : Int) := by omega
  have hX2 : 1 ≤ X := by omega
  have hX3 : X ≤ 64 := by omega
  have hkw : IntKind.i64.wrap (k : Int) = (k : Int) := IntWalk.i64_in _ (by omega)
  have hXb : (X == 0) = false := by rw [beq_eq_false_iff_ne]; omega
  clear hv hP hp hX
  obtain ⟨G, hG⟩ : ∃ G, w.heap.size = G := ⟨_, rfl⟩
  obtain ⟨v0, hv0⟩ : ∃ v, (w.alloc (.cells #[.int .i64 B, .int .i64 E, .slice a n c] 24)).alloc (.cells #[.int .i64 K, .int .i64 W] 26) = v := ⟨_, rfl⟩
  have hG1 : (w.alloc (.cells #[.int .i64 B, .int .i64 E, .slice a n c] 24)).heap.size = G + 1 := by rw [← hG]; simp
  have S0' := Lib.hid (bs_new w B E a n c f K W hr)
  have S0 : Hid (Bs w v0 G (G + 1) B E a n c f K W) := Lib.hid (by rw [← hv0, ← hG]; exact S0'.out)
  clear S0' hr
  obtain ⟨t0', t1', t2', t3', t4'⟩ := S0.out.cells
  go_enter Tryd.func36, Tryd.ntmps36
  go_wp2_with fail
  clear hv0 hG1
  obtain ⟨b, off, rfl, hbl, hcell⟩ := S0.out.lrd (by omega)
  obtain ⟨e0, e1⟩ := hcell k (by omega)
  obtain ⟨⟨y0, y1⟩, ⟨x0, x1⟩⟩ := HR.out.2.2 k (by omega)
  obtain ⟨x, hx⟩ : ∃ x, (f k).1 = x := ⟨_, rfl⟩
  obtain ⟨y, hy⟩ : ∃ y, (f k).2 = y := ⟨_, rfl⟩
  have HF := Lib.hid (show f k = (x, y) by rw [← hx, ← hy])
  have wn := wnd_in (f := f) (i := k) HP.out ⟨x0, x1⟩ ⟨y0, y1⟩
  rw [hx] at e0 x0 x1
  rw [hy] at e1 y0 y1
  obtain ⟨p, hp⟩ : ∃ p, fsI f K W k = p := ⟨_, rfl⟩
  have HPP := Lib.hid hp
  rw [hp] at HG wn hA
  obtain ⟨p0, p1, p2, p3⟩ := wn
  have hpu : p ≤ 8100000000000000000 := by omega
  have SD : Hid (Bs w v0.drew G (G + 1) B E (some ⟨b, off, none⟩) n c f K W) := Lib.hid ⟨S0.out.box, S0.out.pol, S0.out.lrd, S0.out.bel.drew⟩
  have hki : (k : Int) < n := by omega
  have hk64 : (k : Int) ≤ 63 := by omega
  clear hx hy hp hcell p1 p2 p3 S0
  have HGG := Lib.hid (HG.out.2 hA)
  have hA' : decide (p ≤ t - W * 1000000000) = false := decide_eq_false (by omega)
  have htp := HGG.out.2.2.2
  have htw : wrap64 (t - p) = t - p := IntWalk.wrap64_in _ (by omega)
  clear HG
  go_wp2_with fail
  go_region_held3 (fun v => v.cell? ⟨G, 2, none⟩ = some (.slice (some ⟨b, off, none⟩) n c) ∧ v.cell? ⟨G + 1, 0, none⟩ = some (.int .i64 K) ∧ v.cell? ⟨G + 1, 1, none⟩ = some (.int .i64 W) ∧ v.cell? ⟨b, off + k * 2, none⟩ = some (.int .i64 x) ∧ v.cell? ⟨b, off + k * 2 + 1, none⟩ = some (.int .i64 y)) (go_keep)
    (first
      | (go_at_call 47; refine (rbeg_any f k K W x y _ HP.out HF.out ⟨x0, x1⟩ ⟨y0, y1⟩).mono ?_; rintro e v2 ⟨rfl, hb⟩; rw [HPP.out]; have S2 := Lib.hid (SD.out.below hb); have hE0 := (hb.cell (p := ⟨b, off + k * 2, none⟩) (by assumption)).trans e0; have hE1 := (hb.cell (p := ⟨b, off + k * 2 + 1, none⟩) (by assumption)).trans e1; clear hb SD; obtain ⟨_, _, s2, s3, s4⟩ := S2.out.cells; clear t0' t1' t2' t3' t4' e0 e1))
  go_wp2_with fail
  go_ret2
  rw [HGG.out.1, HGG.out.2.1]
  exact ⟨rfl, S2.out.bel⟩
theorem rgone_any (B E : Int) (a : Option Addr) (n c : Nat) (f : Nat → Int × Int) (K W t : Int) (P : Nat) (w : World) (hr : LRd w w.heap.size a n f) (hv : Val B E f n) (hP : Pol K W) (b0 : -8000000000000000000 ≤ t) (b1 : t ≤ 8000000000000000000) (hp : pb f n K W t = P) :
    Calls Tryd.prog 36 #[.agg #[.int .i64 B, .int .i64 E, .slice a n c], .agg #[.int .i64 K, .int .i64 W], .int .i64 P, .int .i64 t] w fun e w' => e = .returned (.tuple #[.int .i64 (plS f n K W t), .bool (inW f n K W t)]) ∧ Below w.heap.size w w' := by
  cases P with
  | zero => exact rgone_zero B E a n c f K W t 0 w hr hv hP b0 b1 rfl hp
  | succ k =>
    by_cases hA : fsI f K W k ≤ t - W * 1000000000
    · exact rgone_no B E a n c f K W t (k + 1) w hr hv hP b0 b1 k rfl hp hA
    · exact rgone_yes B E a n c f K W t (k + 1) w hr hv hP b0 b1 k rfl hp hA
end Go.Proofs.YtghaboanakecjaaDoor
