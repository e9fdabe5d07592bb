/- Contracts of layer 7: windows, places, readings of the program. -/
import Derived.Test.YtgeklbpkmfeheaaDoorSmeB
namespace Go.Proofs.YtgeklbpkmfeheaaDoor
open Go.RowKit Fx Cv Lp Sm

theorem Sm.ret2i {a b a' b' : Int} (h : a = a') (h' : b = b') : Ending.returned (.tuple #[.int .i64 a, .int .i64 b]) = .returned (.tuple #[.int .i64 a', .int .i64 b']) := by rw [h, h']
theorem Sm.setblk {W : World} {B i : Nat} {cs : Array Value} {t : TypeId} (h : W.heap[B]? = some (.cells cs t (0, 0))) (v : Value) : (W.setCell ⟨B, i, none⟩ v).heap[B]? = some (.cells (cs.set! i v) t (0, 0)) := by
  obtain ⟨hlt, hk⟩ := Array.getElem?_eq_some_iff.1 h
  show (W.heap.modify B _)[B]? = _
  rw [Array.getElem?_eq_getElem (by rw [Array.size_modify]; exact hlt), Array.getElem_modify_self, hk]
  simp
theorem Sm.three {w : World} {g : Nat} {a b c : Value} {t : TypeId} (h : w.heap[g]? = some (.cells #[a, b, c] t (0, 0))) :
    w.cell? ⟨g, 0, none⟩ = some a ∧ w.cell? ⟨g, 1, none⟩ = some b ∧ w.cell? ⟨g, 2, none⟩ = some c ∧ w.frozen? ⟨g, 0, none⟩ = false ∧ w.frozen? ⟨g, 1, none⟩ = false ∧ w.frozen? ⟨g, 2, none⟩ = false := by
  simp [World.cell?, World.frozen?, h]

theorem wnd_1 (W x y : Int) (w : World) (hx : -8000000000 ≤ x ∧ x ≤ 8000000000) (hy : -1000 ≤ y ∧ y ≤ 1000) (w0 : 0 ≤ W) (w1 : W ≤ 172800) :
    Calls Tryd.prog 26 #[.agg #[.int .i64 1, .int .i64 W], .agg #[.int .i64 x, .int .i64 y]] w fun e w' => e = .returned (.tuple #[.int .i64 ((x + y) * 1000000000), .int .i64 ((x + y) * 1000000000 + W * 1000000000)]) ∧ Below w.heap.size w w' := by
  obtain ⟨x0, x1⟩ := hx
  obtain ⟨y0, y1⟩ := hy
  have HB := Lib.hid (show Below w.heap.size w ((w.alloc (.cells #[.int .i64 1, .int .i64 W] 26)).alloc (.cells #[.int .i64 x, .int .i64 y] 39)) from ((Below.refl _ _).alloc (Nat.le_refl _) _).alloc (by simp) _)
  go_enter Tryd.func26, Tryd.ntmps26
  go_wp2_with fail
  refine (chgof_any x y _ ⟨x0, x1⟩ ⟨y0, y1⟩).mono ?_
  rintro e w1 ⟨rfl, hb⟩
  have hc := hb.cell (p := ⟨w.heap.size, 0, none⟩) (by simp; omega)
  have hc2 := hb.cell (p := ⟨w.heap.size, 1, none⟩) (by simp; omega)
  have k0 : w1.cell? ⟨w.heap.size, 0, none⟩ = some (.int .i64 1) := by rw [hc]; go_simp
  have k1 : w1.cell? ⟨w.heap.size, 1, none⟩ = some (.int .i64 W) := by rw [hc2]; go_simp
  have HB1 := Lib.hid (HB.out.trans (hb.mono HB.out.size))
  clear hb hc hc2 HB
  go_wp2_with fail
  go_ret2
  exact ⟨Sm.ret2i rfl (by omega), HB1.out⟩

theorem wnd_2 (W x y : Int) (w : World) (hx : -8000000000 ≤ x ∧ x ≤ 8000000000) (hy : -1000 ≤ y ∧ y ≤ 1000) (w0 : 0 ≤ W) (w1 : W ≤ 172800) :
    Calls Tryd.prog 26 #[.agg #[.int .i64 2, .int .i64 W], .agg #[.int .i64 x, .int .i64 y]] w fun e w' => e = .returned (.tuple #[.int .i64 ((x + y) * 1000000000 - W * 1000000000 / 2), .int .i64 ((x + y) * 1000000000 - W * 1000000000 / 2 + W * 1000000000)]) ∧ Below w.heap.size w w' := by
  obtain ⟨x0, x1⟩ := hx
  obtain ⟨y0, y1⟩ := hy
  have HB := Lib.hid (show Below w.heap.size w ((w.alloc (.cells #[.int .i64 2, .int .i64 W] 26)).alloc (.cells #[.int .i64 x, .int .i64 y] 39)) from ((Below.refl _ _).alloc (Nat.le_refl _) _).alloc (by simp) _)
  go_enter Tryd.func26, Tryd.ntmps26
  go_wp2_with fail
  refine (chgof_any x y _ ⟨x0, x1⟩ ⟨y0, y1⟩).mono ?_
  rintro e w1 ⟨rfl, hb⟩
  have hc := hb.cell (p := ⟨w.heap.size, 0, none⟩) (by simp; omega)
  have hc2 := hb.cell (p := ⟨w.heap.size, 1, none⟩) (by simp; omega)
  have k0 : w1.cell? ⟨w.heap.size, 0, none⟩ = some (.int .i64 2) := by rw [hc]; go_simp
  have k1 : w1.cell? ⟨w.heap.size, 1, none⟩ = some (.int .i64 W) := by rw [hc2]; go_simp
  have HB1 := Lib.hid (HB.out.trans (hb.mono HB.out.size))
  clear hb hc hc2 HB
  go_wp2_with fail
  go_ret2
  exact ⟨Sm.ret2i rfl (by omega), HB1.out⟩

theorem wnd_3 (W x y : Int) (w : World) (hx : -8000000000 ≤ x ∧ x ≤ 8000000000) (hy : -1000 ≤ y ∧ y ≤ 1000) (w0 : 0 ≤ W) (w1 : W ≤ 172800) :
    Calls Tryd.prog 26 #[.agg #[.int .i64 3, .int .i64 W], .agg #[.int .i64 x, .int .i64 y]] w fun e w' => e = .returned (.tuple #[.int .i64 ((x + y) * 1000000000 - W * 1000000000), .int .i64 ((x + y) * 1000000000 - W * 1000000000 + W * 1000000000)]) ∧ Below w.heap.size w w' := by
  obtain ⟨x0, x1⟩ := hx
  obtain ⟨y0, y1⟩ := hy
  have HB := Lib.hid (show Below w.heap.size w ((w.alloc (.cells #[.int .i64 3, .int .i64 W] 26)).alloc (.cells #[.int .i64 x, .int .i64 y] 39)) from ((Below.refl _ _).alloc (Nat.le_refl _) _).alloc (by simp) _)
  go_enter Tryd.func26, Tryd.ntmps26
  go_wp2_with fail
  refine (chgof_any x y _ ⟨x0, x1⟩ ⟨y0, y1⟩).mono ?_
  rintro e w1 ⟨rfl, hb⟩
  have hc := hb.cell (p := ⟨w.heap.size, 0, none⟩) (by simp; omega)
  have hc2 := hb.cell (p := ⟨w.heap.size, 1, none⟩) (by simp; omega)
  have k0 : w1.cell? ⟨w.heap.size, 0, none⟩ = some (.int .i64 3) := by rw [hc]; go_simp
  have k1 : w1.cell? ⟨w.heap.size, 1, none⟩ = some (.int .i64 W) := by rw [hc2]; go_simp
  have HB1 := Lib.hid (HB.out.trans (hb.mono HB.out.size))
  clear hb hc hc2 HB
  go_wp2_with fail
  go_ret2
  exact ⟨Sm.ret2i rfl (by omega), HB1.out⟩

theorem wnd_4 (W x y : Int) (w : World) (hx : -8000000000 ≤ x ∧ x ≤ 8000000000) (hy : -1000 ≤ y ∧ y ≤ 1000) (w0 : 0 ≤ W) (w1 : W ≤ 172800) :
    Calls Tryd.prog 26 #[.agg #[.int .i64 4, .int .i64 W], .agg #[.int .i64 x, .int .i64 y]] w fun e w' => e = .returned (.tuple #[.int .i64 ((x + y) * 1000000000), .int .i64 ((x + y) * 1000000000 + W * 1000000000)]) ∧ Below w.heap.size w w' := by
  obtain ⟨x0, x1⟩ := hx
  obtain ⟨y0, y1⟩ := hy
  have HB := Lib.hid (show Below w.heap.size w ((w.alloc (.cells #[.int .i64 4, .int .i64 W] 26)).alloc (.cells #[.int .i64 x, .int .i64 y] 39)) from ((Below.refl _ _).alloc (Nat.le_refl _) _).alloc (by simp) _)
  go_enter Tryd.func26, Tryd.ntmps26
  go_wp2_with fail
  refine (chgof_any x y _ ⟨x0, x1⟩ ⟨y0, y1⟩).mono ?_
  rintro e w1 ⟨rfl, hb⟩
  have hc := hb.cell (p := ⟨w.heap.size, 0, none⟩) (by simp; omega)
  have hc2 := hb.cell (p := ⟨w.heap.size, 1, none⟩) (by simp; omega)
  have k0 : w1.cell? ⟨w.heap.size, 0, none⟩ = some (.int .i64 4) := by rw [hc]; go_simp
  have k1 : w1.cell? ⟨w.heap.size, 1, none⟩ = some (.int .i64 W) := by rw [hc2]; go_simp
  have HB1 := Lib.hid (HB.out.trans (hb.mono HB.out.size))
  clear hb hc hc2 HB
  go_wp2_with fail
  go_ret2
  exact ⟨Sm.ret2i rfl (by omega), HB1.out⟩

theorem wnd_any (f : Nat → Int × Int) (i : Nat) (K W x y : Int) (w : World) (hP : Pol K W) (hf : f i = (x, y)) (hx : -8000000000 ≤ x ∧ x ≤ 8000000000) (hy : -1000 ≤ y ∧ y ≤ 1000) :
    Calls Tryd.prog 26 #[.agg #[.int .i64 K, .int .i64 W], .agg #[.int .i64 x, .int .i64 y]] w fun e w' => e = .returned (.tuple #[.int .i64 (fsI f K W i), .int .i64 (enI f K W i)]) ∧ Below w.heap.size w w' := by
  have e1 : chg f i = (x + y) * 1000000000 := by unfold chg; rw [hf]
  obtain ⟨k0, k1, w0, w1, ev, st, sm⟩ := hP
  unfold fsI enI sft
  rw [e1]
  rcases (show K = 1 ∨ K = 2 ∨ K = 3 ∨ K = 4 by omega) with rfl | rfl | rfl | rfl
  · refine (wnd_1 W x y w hx hy w0 w1).mono fun e w' h => ?_
    simpa using h
  · refine (wnd_2 W x y w hx hy w0 w1).mono fun e w' h => ?_
    simpa using h
  · refine (wnd_3 W x y w hx hy w0 w1).mono fun e w' h => ?_
    simpa using h
  · refine (wnd_4 W x y w hx hy w0 w1).mono fun e w' h => ?_
    simpa using h
/-- How many windows have ended; the place of an instant. -/
def Sm.psW (f : Nat → Int × Int) (n : Nat) (K W t : Int) : Nat := fst (fun i => decide (enI f K W i ≤ t)) n
def Sm.inW (f : Nat → Int × Int) (n : Nat) (K W t : Int) : Bool := decide (psW f n K W t < n) && decide (fsI f K W (psW f n K W t) ≤ t)
def Sm.plO (B : Int) (f : Nat → Int × Int) (n : Nat) (K W t : Int) : Int := offA B f (psW f n K W t)
def Sm.plC (B : Int) (f : Nat → Int × Int) (n : Nat) (K W t : Int) : Int := if inW f n K W t = true then (f (psW f n K W t)).2 - offA B f (psW f n K W t) else 0
def Sm.plS (f : Nat → Int × Int) (n : Nat) (K W t : Int) : Int := if inW f n K W t = true then t - fsI f K W (psW f n K W t) else 0
theorem Sm.psW_eq {f : Nat → Int × Int} {n k : Nat} {K W t : Int} (hk : k ≤ n) (h1 : ∀ i, i < k → enI f K W i ≤ t) (h2 : k < n → t < enI f K W k) : psW f n K W t = k := by
  refine fst_eq hk (fun j hj => decide_eq_true (h1 j hj)) ?_
  rcases Nat.lt_or_ge k n with h | h
  · exact .inr (decide_eq_false (by have := h2 h; omega))
  · exact .inl (by omega)
/-- Bounds of a window. -/
theorem Sm.wnd_in {f : Nat → Int × Int} {i : Nat} {K W : Int} (hP : Pol K W) (hx : -8000000000 ≤ (f i).1 ∧ (f i).1 ≤ 8000000000) (hy : -1000 ≤ (f i).2 ∧ (f i).2 ≤ 1000) :
    -8100000000000000000 ≤ fsI f K W i ∧ fsI f K W i ≤ enI f K W i ∧ enI f K W i ≤ 8100000000000000000 ∧ enI f K W i = fsI f K W i + W * 1000000000 := by
  obtain ⟨k0, k1, w0, w1, ev, st, sm⟩ := hP
  unfold enI fsI chg sft
  split
  · omega
  · split <;> omega
set_option maxRecDepth 100000 in
set_option maxHeartbeats 1000000 in
theorem place_any (B E : Int) (a : Option Addr) (n c : Nat) (f : Nat → Int × Int) (K W t : Int) (w : World) (hr : LRd w w.heap.size a n f) (hn : n ≤ 64) (hR : inR B E f n) (hP : Pol K W) (t0 : -8000000000000000000 ≤ t) (t1 : t ≤ 8000000000000000000) :
    Calls Tryd.prog 22 #[.agg #[.int .i64 B, .int .i64 E, .slice a n c], .agg #[.int .i64 K, .int .i64 W], .int .i64 t] w fun e w' => e = .returned (.agg #[.int .i64 (plO B f n K W t), .int .i64 (plC B f n K W t), .int .i64 (plS f n K W t)]) ∧ Below w.heap.size w w' := by
  have hi : (n : Int) ≤ 64 := by omega
  have S0' := Lib.hid (bs_new w B E a n c f K W hr)
  have HI := Lib.hid hR
  have HP := Lib.hid hP
  obtain ⟨v0, hv0⟩ : ∃ v, (w.alloc (.cells #[.int .i64 B, .int .i64 E, .slice a n c] 24)).alloc (.cells #[.int .i64 K, .int .i64 W] 26) = v := ⟨_, rfl⟩
  rw [hv0] at S0'
  obtain ⟨D, hD⟩ : ∃ D, v0.heap.size = D := ⟨_, rfl⟩
  obtain ⟨v1, hv1⟩ : ∃ v, v0.alloc (.cells #[.int .i64 0, .int .i64 0, .int .i64 0] 48) = v := ⟨_, rfl⟩
  have hb1 : Below v0.heap.size v0 v1 := by rw [← hv1]; exact (Below.refl _ _).alloc (Nat.le_refl _) _
  have S1 := Lib.hid (S0'.out.below hb1)
  have hG : w.heap.size + 1 < D := by rw [← hD]; exact S0'.out.pol.lt
  have HZ : Hid (v1.heap[D]? = some (.cells #[.int .i64 0, .int .i64 0, .int .i64 0] 48 (0, 0))) := Lib.hid (by rw [← hv1, ← hD]; exact heap_alloc_new v0 _)
  have HL1 := Lib.hid (S1.out.lrd)
  clear S0' hr hR hP hb1
  obtain ⟨t0', t1', t2', t3', t4'⟩ := S1.out.cells
  go_enter Tryd.func22, Tryd.ntmps22
  go_wp2_with fail
  clear hv0 hD hv1
  go_loopw [7, 17] (fun o iv wr => ∃ k : Nat, k ≤ n ∧ iv = .int .i64 k ∧ o = .int .i64 (offA B f k) ∧ Hid (∀ j, j < k → enI f K W j ≤ t) ∧ Hid (Bs w wr w.heap.size (w.heap.size + 1) B E a n c f K W) ∧ Hid (wr.heap[D]? = some (.cells #[.int .i64 0, .int .i64 0, .int .i64 0] 48 (0, 0)))) (fun _ iv _ => n - (intOf iv).toNat)
  case atStart => exact ⟨0, by omega, rfl, rfl, Lib.hid (fun j hj => by omega), S1, HZ⟩
  case round =>
    clear S1 HZ HL1 t0' t1' t2' t3' t4'
    obtain ⟨k, hk, rfl, rfl, HE, SR, HZR⟩ := hrel
    have ob := offA_in HI.out hk
    obtain ⟨o, ho⟩ : ∃ o, offA B f k = o := ⟨_, rfl⟩
    rw [ho] at ob ⊢
    obtain ⟨ob0, ob1⟩ := ob
    have HO := Lib.hid ho
    clear ho
    by_cases hlt : k < n
    · have hki : (k : Int) < n := by omega
      obtain ⟨b, off, rfl, hbl, hcell⟩ := SR.out.lrd (by omega)
      obtain ⟨e0, e1⟩ := hcell k hlt
      obtain ⟨⟨y0, y1⟩, ⟨x0, x1⟩⟩ := HI.out.2.2 k hlt
      have wn := wnd_in (f := f) (i := k) HP.out ⟨x0, x1⟩ ⟨y0, y1⟩
      obtain ⟨x, hx⟩ : ∃ x, (f k).1 = x := ⟨_, rfl⟩
      obtain ⟨y, hy⟩ : ∃ y, (f k).2 = y := ⟨_, rfl⟩
      have HF := Lib.hid (show f k = (x, y) by rw [← hx, ← hy])
      rw [hx] at e0 x0 x1
      rw [hy] at e1 y0 y1
      obtain ⟨p, hp⟩ : ∃ p, fsI f K W k = p := ⟨_, rfl⟩
      obtain ⟨q, hq⟩ : ∃ q, enI f K W k = q := ⟨_, rfl⟩
      rw [hp, hq] at wn
      obtain ⟨wn0, wn1, wn2, wn3⟩ := wn
      have ww := HP.out.w1
      have HPP := Lib.hid hp
      have HQQ := Lib.hid hq
      have hDr : D < wr.heap.size := by
        rcases Nat.lt_or_ge D wr.heap.size with h | h
        · exact h
        · have := HZR.out; rw [Array.getElem?_eq_none h] at this; cases this
      obtain ⟨g, hg⟩ : ∃ g, wr.heap.size = g := ⟨_, rfl⟩
      obtain ⟨V, hV⟩ : ∃ V, wr.alloc (.cells #[.int .i64 x, .int .i64 y] 39) = V := ⟨_, rfl⟩
      have hbV : Below wr.heap.size wr V := by rw [← hV]; exact (Below.refl _ _).alloc (Nat.le_refl _) _
      have HPV := Lib.hid (show PBx V g x y by rw [← hV, ← hg]; exact pbx_new wr x y)
      have SV := Lib.hid (SR.out.below hbV)
      have HZV := Lib.hid ((hbV.block D hDr).trans HZR.out)
      obtain ⟨t0, t1, t2, t3, t4⟩ := SV.out.cells
      obtain ⟨p0, p1, _, _⟩ := HPV.out.cells
      obtain ⟨s0, s1, s2, s3, s4⟩ := SR.out.cells
      have HW3 := Lib.hid (And.intro wn3 ww)
      clear hx hy hp hq hcell hbV SR HZR hDr wn3 ww
      go_wp2_with fail
      clear hV hg e0 e1 t0 t1 t2 t3 t4 p0 p1 s0 s1 s2 s3 s4
      refine (wnd_any f k K W x y V HP.out HF.out ⟨x0, x1⟩ ⟨y0, y1⟩).mono ?_
      rintro e v2 ⟨rfl, hb⟩
      rw [HPP.out, HQQ.out]
      have S2 := Lib.hid (SV.out.below hb)
      have HP2 := Lib.hid (HPV.out.below hb HPV.out.lt)
      have hDV : D < V.heap.size := by
        rcases Nat.lt_or_ge D V.heap.size with h | h
        · exact h
        · have := HZV.out; rw [Array.getElem?_eq_none h] at this; cases this
      have HZU := Lib.hid ((hb.block D hDV).trans HZV.out)
      clear hb SV HPV HZV hDV
      obtain ⟨t0, t1, t2, t3, t4⟩ := S2.out.cells
      obtain ⟨p0, p1, _, _⟩ := HP2.out.cells
      by_cases hA : t < p
      · have HPS : Hid (psW f n K W t = k) := Lib.hid (psW_eq hk HE.out (fun _ => by rw [HQQ.out]; omega))
        have HIN : Hid (inW f n K W t = false) := Lib.hid (by unfold inW; rw [HPS.out, HPP.out, decide_eq_false (show ¬ p ≤ t by omega)]; simp)
        have HV : Hid (plO B f n K W t = o ∧ plC B f n K W t = 0 ∧ plS f n K W t = 0) := Lib.hid ⟨by unfold plO; rw [HPS.out, HO.out], by unfold plC; rw [HIN.out, if_neg (by decide)], by unfold plS; rw [HIN.out, if_neg (by decide)]⟩
        obtain ⟨U1, hU1⟩ : ∃ V, v2.setCell ⟨D, 0, none⟩ (.int .i64 o) = V := ⟨_, rfl⟩
        obtain ⟨U2, hU2⟩ : ∃ V, U1.setCell ⟨D, 1, none⟩ (.int .i64 0) = V := ⟨_, rfl⟩
        obtain ⟨U3, hU3⟩ : ∃ V, U2.setCell ⟨D, 2, none⟩ (.int .i64 0) = V := ⟨_, rfl⟩
        have z1 : U1.heap[D]? = some (.cells #[.int .i64 o, .int .i64 0, .int .i64 0] 48 (0, 0)) := by rw [← hU1]; exact Sm.setblk HZU.out _
        have z2 : U2.heap[D]? = some (.cells #[.int .i64 o, .int .i64 0, .int .i64 0] 48 (0, 0)) := by rw [← hU2]; exact Sm.setblk z1 _
        have z3 : U3.heap[D]? = some (.cells #[.int .i64 o, .int .i64 0, .int .i64 0] 48 (0, 0)) := by rw [← hU3]; exact Sm.setblk z2 _
        have BF := Lib.hid (show Below w.heap.size w U3 by rw [← hU3, ← hU2, ← hU1]; exact ((S2.out.bel.setCell (p := ⟨D, 0, none⟩) (by show w.heap.size ≤ D; omega) _).setCell (p := ⟨D, 1, none⟩) (by show w.heap.size ≤ D; omega) _).setCell (p := ⟨D, 2, none⟩) (by show w.heap.size ≤ D; omega) _)
        obtain ⟨c0, _, _, f0, _, _⟩ := Sm.three HZU.out
        obtain ⟨_, c1, _, _, f1, _⟩ := Sm.three z1
        obtain ⟨_, _, c2, _, _, f2⟩ := Sm.three z2
        obtain ⟨d0, d1, d2, _, _, _⟩ := Sm.three z3
        clear z1 z2 z3
        go_wp2_with fail
        refine bodyPost_ret (v := .agg #[.int .i64 o, .int .i64 0, .int .i64 0]) (by simp [results, Tryd.results22, go_sem, d0, d1, d2]) rfl ⟨?_, BF.out⟩
        rw [HV.out.1, HV.out.2.1, HV.out.2.2]
      · have hA' : decide (t < p) = false := decide_eq_false hA
        by_cases hB : t < q
        · have tp0 : 0 ≤ t - p := by omega
          have tp1 : t - p ≤ 172800000000000 := by have := HW3.out; omega
          have HPS : Hid (psW f n K W t = k) := Lib.hid (psW_eq hk HE.out (fun _ => by rw [HQQ.out]; exact hB))
          have HIN : Hid (inW f n K W t = true) := Lib.hid (by unfold inW; rw [HPS.out, HPP.out, decide_eq_true hlt, decide_eq_true (show p ≤ t by omega)]; rfl)
          have HV : Hid (plO B f n K W t = o ∧ plC B f n K W t = y - o ∧ plS f n K W t = t - p) := Lib.hid ⟨by unfold plO; rw [HPS.out, HO.out], by unfold plC; rw [HIN.out, if_pos rfl, HPS.out, HO.out, HF.out], by unfold plS; rw [HIN.out, if_pos rfl, HPS.out, HPP.out]⟩
          obtain ⟨U1, hU1⟩ : ∃ V, v2.setCell ⟨D, 0, none⟩ (.int .i64 o) = V := ⟨_, rfl⟩
          obtain ⟨U2, hU2⟩ : ∃ V, U1.setCell ⟨D, 1, none⟩ (.int .i64 (y - o)) = V := ⟨_, rfl⟩
          obtain ⟨U3, hU3⟩ : ∃ V, U2.setCell ⟨D, 2, none⟩ (.int .i64 (t - p)) = V := ⟨_, rfl⟩
          have z1 : U1.heap[D]? = some (.cells #[.int .i64 o, .int .i64 0, .int .i64 0] 48 (0, 0)) := by rw [← hU1]; exact Sm.setblk HZU.out _
          have z2 : U2.heap[D]? = some (.cells #[.int .i64 o, .int .i64 (y - o), .int .i64 0] 48 (0, 0)) := by rw [← hU2]; exact Sm.setblk z1 _
          have z3 : U3.heap[D]? = some (.cells #[.int .i64 o, .int .i64 (y - o), .int .i64 (t - p)] 48 (0, 0)) := by rw [← hU3]; exact Sm.setblk z2 _
          have BF := Lib.hid (show Below w.heap.size w U3 by rw [← hU3, ← hU2, ← hU1]; exact ((S2.out.bel.setCell (p := ⟨D, 0, none⟩) (by show w.heap.size ≤ D; omega) _).setCell (p := ⟨D, 1, none⟩) (by show w.heap.size ≤ D; omega) _).setCell (p := ⟨D, 2, none⟩) (by show w.heap.size ≤ D; omega) _)
          obtain ⟨c0, _, _, f0, _, _⟩ := Sm.three HZU.out
          obtain ⟨_, c1, _, _, f1, _⟩ := Sm.three z1
          obtain ⟨_, _, c2, _, _, f2⟩ := Sm.three z2
          obtain ⟨d0, d1, d2, _, _, _⟩ := Sm.three z3
          clear z1 z2 z3
          go_wp2_with fail
          refine bodyPost_ret (v := .agg #[.int .i64 o, .int .i64 (y - o), .int .i64 (t - p)]) (by simp [results, Tryd.results22, go_sem, d0, d1, d2]) rfl ⟨?_, BF.out⟩
          rw [HV.out.1, HV.out.2.1, HV.out.2.2]
        · have hB' : decide (t < q) = false := decide_eq_false hB
          have HEN : Hid (∀ j, j < k + 1 → enI f K W j ≤ t) := Lib.hid (fun j hj => by
            rcases (show j < k ∨ j = k by omega) with h | rfl
            · exact HE.out j h
            · rw [HQQ.out]; omega)
          have HON : Hid (offA B f (k + 1) = y) := Lib.hid (by rw [offA_succ, HF.out])
          go_wp2_with fail
          go_roundw
          case rel => exact ⟨k + 1, by omega, by go_num, by rw [HON.out], HEN, S2, HZU⟩
          case measure => simp [intOf]; omega
    · obtain rfl : k = n := by omega
      have HPS : Hid (psW f k K W t = k) := Lib.hid (psW_eq hk HE.out (fun h => by omega))
      have HIN : Hid (inW f k K W t = false) := Lib.hid (by unfold inW; rw [HPS.out, decide_eq_false (show ¬ k < k by omega)]; simp)
      have HV : Hid (plO B f k K W t = o ∧ plC B f k K W t = 0 ∧ plS f k K W t = 0) := Lib.hid ⟨by unfold plO; rw [HPS.out, HO.out], by unfold plC; rw [HIN.out, if_neg (by decide)], by unfold plS; rw [HIN.out, if_neg (by decide)]⟩
      have hki : ¬ (k : Int) < k := by omega
      have HZU := HZR
      obtain ⟨U1, hU1⟩ : ∃ V, wr.setCell ⟨D, 0, none⟩ (.int .i64 o) = V := ⟨_, rfl⟩
      obtain ⟨U2, hU2⟩ : ∃ V, U1.setCell ⟨D, 1, none⟩ (.int .i64 0) = V := ⟨_, rfl⟩
      obtain ⟨U3, hU3⟩ : ∃ V, U2.setCell ⟨D, 2, none⟩ (.int .i64 0) = V := ⟨_, rfl⟩
      have z1 : U1.heap[D]? = some (.cells #[.int .i64 o, .int .i64 0, .int .i64 0] 48 (0, 0)) := by rw [← hU1]; exact Sm.setblk HZU.out _
      have z2 : U2.heap[D]? = some (.cells #[.int .i64 o, .int .i64 0, .int .i64 0] 48 (0, 0)) := by rw [← hU2]; exact Sm.setblk z1 _
      have z3 : U3.heap[D]? = some (.cells #[.int .i64 o, .int .i64 0, .int .i64 0] 48 (0, 0)) := by rw [← hU3]; exact Sm.setblk z2 _
      have BF := Lib.hid (show Below w.heap.size w U3 by rw [← hU3, ← hU2, ← hU1]; exact ((SR.out.bel.setCell (p := ⟨D, 0, none⟩) (by show w.heap.size ≤ D; omega) _).setCell (p := ⟨D, 1, none⟩) (by show w.heap.size ≤ D; omega) _).setCell (p := ⟨D, 2, none⟩) (by show w.heap.size ≤ D; omega) _)
      obtain ⟨c0, _, _, f0, _, _⟩ := Sm.three HZU.out
      obtain ⟨_, c1, _, _, f1, _⟩ := Sm.three z1
      obtain ⟨_, _, c2, _, _, f2⟩ := Sm.three z2
      obtain ⟨d0, d1, d2, _, _, _⟩ := Sm.three z3
      clear z1 z2 z3
      go_wp2_with fail
      refine bodyPost_ret (v := .agg #[.int .i64 o, .int .i64 0, .int .i64 0]) (by simp [results, Tryd.results22, go_sem, d0, d1, d2]) rfl ⟨?_, BF.out⟩
      rw [HV.out.1, HV.out.2.1, HV.out.2.2]
end Go.Proofs.YtgeklbpkmfeheaaDoor
