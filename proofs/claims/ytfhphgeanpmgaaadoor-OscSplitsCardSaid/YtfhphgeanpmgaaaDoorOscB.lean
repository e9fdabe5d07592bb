/- Contracts of layer 9: Check of the program. -/
import Derived.Test.YtfhphgeanpmgaaaDoorOscA
namespace Go.Proofs.YtfhphgeanpmgaaaDoor
open Go.RowKit Fx Oc

/-- What stands before segment k. -/
def Oc.bv (f : Nat → Int × Int) (k : Nat) : Int × Int := if k = 0 then (-1, 0) else f (k - 1)
theorem Oc.bv_succ (f : Nat → Int × Int) (k : Nat) : bv f (k + 1) = f k := rfl
theorem cseg_at (f : Nat → Int × Int) (k : Nat) (w : World) (hv : VN w) (hp : firstE f k = 0) :
    Calls Tryd.prog 24 #[.agg #[.int .i64 (bv f k).1, .int .i64 (bv f k).2], .agg #[.int .i64 (f k).1, .int .i64 (f k).2]] w fun e w' => e = .returned (.int .i64 (segE f k)) ∧ Below w.heap.size w w' := by
  by_cases ho : okS (f k)
  · obtain ⟨⟨h0, h1⟩, h2, h3⟩ := id ho
    cases k with
    | zero =>
      rw [show bv f 0 = (-1, 0) from rfl]
      by_cases hz : (f 0).1 = 0
      · rw [segE_iff.2 ⟨ho, fun _ => hz, fun h => absurd h (by omega)⟩, hz]
        exact cs_first _ w hv h2 h3
      · rw [show segE f 0 = 7 from (if_neg (not_not_intro ho)).trans ((if_pos rfl).trans (if_neg hz))]
        exact cs_form _ _ w hv (tt_yes h0 h1) h2 h3 hz
    | succ j =>
      rw [bv_succ]
      have hb := (segE_iff.1 (firstE_zero.1 hp j (by omega))).1.1.1
      by_cases hi : (f (j + 1)).1 ≤ (f j).1
      · rw [show segE f (j + 1) = 12 from (if_neg (not_not_intro ho)).trans ((if_neg (by omega)).trans (if_pos hi))]
        exact cs_order _ _ _ _ w hv (tt_yes h0 h1) h2 h3 hb hi
      · rw [segE_iff.2 ⟨ho, fun h => absurd h (by omega), fun _ => by show (f j).1 < _; omega⟩]
        exact cs_ok _ _ _ _ w hv (tt_yes h0 h1) h2 h3 hb (by omega)
  · rw [show segE f k = 3 from if_pos ho]
    unfold okS at ho
    cases ht : tt (f k).1 with
    | false => exact cs_time _ _ _ _ w hv ht
    | true =>
      have := tt_iff.1 ht
      rcases Int.lt_or_le (f k).2 (-500000) with h | h
      · exact cs_low _ _ _ _ w hv ht h
      · exact cs_high _ _ _ _ w hv ht (by omega)
theorem ochk_empty (ph : Int) (a : Option Addr) (c : Nat) (w : World)  :
    Calls Tryd.prog 11 #[.agg #[.int .i64 ph, .slice a 0 c]] w fun e w' => e = .returned (.int .i64 14) ∧ Below w.heap.size w w' := by
  go_enter Tryd.func11, Tryd.ntmps11
  go_wp2
  go_ret
  exact ⟨rfl, (Below.refl _ _).alloc (Nat.le_refl _) _⟩
theorem ochk_long (ph : Int) (a : Option Addr) (n c : Nat) (w : World) (h : 16 < n) (hm : n ≤ 9223372036854775807) :
    Calls Tryd.prog 11 #[.agg #[.int .i64 ph, .slice a n c]] w fun e w' => e = .returned (.int .i64 6) ∧ Below w.heap.size w w' := by
  have n0 : ((n : Int) == 0) = false := by simp; omega
  have n1 : decide ((16 : Int) < (n : Int)) = true := decide_eq_true (by omega)
  go_enter Tryd.func11, Tryd.ntmps11
  go_wp2
  go_ret
  exact ⟨rfl, (Below.refl _ _).alloc (Nat.le_refl _) _⟩
theorem ochk_low (ph : Int) (a : Option Addr) (n c : Nat) (w : World) (h0 : 0 < n) (h1 : n ≤ 16) (h : ph < -1125899906842624) :
    Calls Tryd.prog 11 #[.agg #[.int .i64 ph, .slice a n c]] w fun e w' => e = .returned (.int .i64 3) ∧ Below w.heap.size w w' := by
  have n0 : ((n : Int) == 0) = false := by simp; omega
  have n1 : decide ((16 : Int) < (n : Int)) = false := decide_eq_false (by omega)
  have p0 : decide (ph < -1125899906842624) = true := decide_eq_true h
  go_enter Tryd.func11, Tryd.ntmps11
  go_wp2
  go_ret
  exact ⟨rfl, (Below.refl _ _).alloc (Nat.le_refl _) _⟩
theorem ochk_high (ph : Int) (a : Option Addr) (n c : Nat) (w : World) (h0 : 0 < n) (h1 : n ≤ 16) (h : 1125899906842624 < ph) :
    Calls Tryd.prog 11 #[.agg #[.int .i64 ph, .slice a n c]] w fun e w' => e = .returned (.int .i64 3) ∧ Below w.heap.size w w' := by
  have n0 : ((n : Int) == 0) = false := by simp; omega
  have n1 : decide ((16 : Int) < (n : Int)) = false := decide_eq_false (by omega)
  have p0 : decide (ph < -1125899906842624) = false := decide_eq_false (by omega)
  have p1 : decide (1125899906842624 < ph) = true := decide_eq_true h
  go_enter Tryd.func11, Tryd.ntmps11
  go_wp2
  go_ret
  exact ⟨rfl, (Below.refl _ _).alloc (Nat.le_refl _) _⟩
/-- A store into a box that is no variable. -/
theorem Oc.VN.other' {w : World} {G i : Nat} {x y : Int} {u : Value} (h : VN w) (hs : SX w G x y) (hne : G ≠ 0) : VN (w.setCell ⟨G, i, none⟩ u) := by
  unfold VN World.var? at h ⊢
  rw [show Tryd.prog.globalNamed "timesync/osc.none" = some 0 from by kernel_rfl] at h ⊢
  simp only [Option.bind_some] at h ⊢
  rw [Below.heap_setCell w ⟨G, i, none⟩ u 0 (fun e => hne e.symm)]
  exact h
/-- What holds as segments are checked. -/
def Oc.CkI (w : World) (D : Nat) (f : Nat → Int × Int) (k Bb : Nat) (wr : World) : Prop := firstE f k = 0 ∧ SX wr Bb (bv f k).1 (bv f k).2 ∧ VN wr ∧ Below D w wr
set_option maxRecDepth 100000 in
set_option maxHeartbeats 1000000 in
theorem ochk_segs (ph : Int) (a : Option Addr) (n c : Nat) (f : Nat → Int × Int) (w : World) (hv : VN w) (hr : Rd2 w w.heap.size a n f) (h0 : 0 < n) (h1 : n ≤ 16) (p0 : -1125899906842624 ≤ ph) (p1 : ph ≤ 1125899906842624) :
    Calls Tryd.prog 11 #[.agg #[.int .i64 ph, .slice a n c]] w fun e w' => e = .returned (.int .i64 (firstE f n)) ∧ Below w.heap.size w w' := by
  have n0 : ((n : Int) == 0) = false := by simp; omega
  have n1 : decide ((16 : Int) < (n : Int)) = false := decide_eq_false (by omega)
  have d0 : decide (ph < -1125899906842624) = false := decide_eq_false (by omega)
  have d1 : decide (1125899906842624 < ph) = false := decide_eq_false (by omega)
  have HRd := Lib.hid hr
  have hb1 : Below w.heap.size w (w.alloc (.cells #[.int .i64 ph, .slice a n c] 24)) := (Below.refl _ _).alloc (Nat.le_refl _) _
  have hX1 := ox_new w ph a n c
  obtain ⟨v, hvw⟩ : ∃ v, w.alloc (.cells #[.int .i64 ph, .slice a n c] 24) = v := ⟨_, rfl⟩
  rw [hvw] at hb1 hX1
  have hv1 := hv.below hb1
  have hb2 := hb1.alloc hb1.size (.cells #[.int .i64 (-1), .int .i64 0] 36)
  have hS2 := sx_new v (-1) 0
  have hv2 := hv.below hb2
  have hX2 := hX1.alloc (.cells #[.int .i64 (-1), .int .i64 0] 36)
  have hlt := hX1.lt
  have hgv : v.heap.size ≠ 0 := by
    have : 0 < w.heap.size := by
      have := hv.cells.1
      rcases Nat.lt_or_ge 0 w.heap.size with h | h
      · exact h
      · simp [World.cell?, Array.getElem?_eq_none h] at this
    omega
  have HX2 := Lib.hid hX2
  have HI : Hid (CkI w w.heap.size f 0 v.heap.size (v.alloc (.cells #[.int .i64 (-1), .int .i64 0] 36))) := Lib.hid ⟨rfl, hS2, hv2, hb2⟩
  obtain ⟨g0, g1⟩ := hv1.cells
  obtain ⟨c0, c1⟩ := hX1.cells
  obtain ⟨e0, e1⟩ := hX2.cells
  clear hb1 hX1 hv1 hb2 hS2 hv2 hX2 hv hr
  go_enter Tryd.func11, Tryd.ntmps11
  go_wp2_with fail
  clear hvw g0 g1 c0 c1 e0 e1
  go_loopw [5, 6, 30] (fun _ _ i wr => ∃ k : Nat, k ≤ n ∧ i = .int .i64 k ∧ Hid (CkI w w.heap.size f k v.heap.size wr)) (fun _ _ i _ => n - (intOf i).toNat)
  case atStart => exact ⟨0, by omega, rfl, HI⟩
  case round =>
    clear HI
    obtain ⟨k, hk, rfl, HT⟩ := hrel
    by_cases hlt2 : k < n
    · obtain ⟨hf, hsx, hvn, hbel⟩ := HT.out
      obtain ⟨b, off, rfl, hbD, hcs⟩ := (HRd.out.below hbel) (by omega)
      obtain ⟨q0, q1⟩ := hcs k hlt2
      obtain ⟨s0, hs0⟩ : ∃ s0, (f k).1 = s0 := ⟨_, rfl⟩
      obtain ⟨s1, hs1⟩ : ∃ s1, (f k).2 = s1 := ⟨_, rfl⟩
      obtain ⟨z0, hz0⟩ : ∃ z0, (bv f k).1 = z0 := ⟨_, rfl⟩
      obtain ⟨z1, hz1⟩ : ∃ z1, (bv f k).2 = z1 := ⟨_, rfl⟩
      rw [hs0] at q0
      rw [hs1] at q1
      rw [hz0, hz1] at hsx
      have hN := sx_new wr s0 s1
      have hO := hsx.alloc (.cells #[.int .i64 s0, .int .i64 s1] 36)
      have hB := hbel.alloc hbel.size (.cells #[.int .i64 s0, .int .i64 s1] 36)
      have hwv := hvn.below ((Below.refl wr.heap.size wr).alloc (Nat.le_refl _) (.cells #[.int .i64 s0, .int .i64 s1] 36))
      have hsz := hsx.lt
      obtain ⟨x1, hx1⟩ : ∃ x1, wr.alloc (.cells #[.int .i64 s0, .int .i64 s1] 36) = x1 := ⟨_, rfl⟩
      rw [hx1] at hN hO hB hwv
      obtain ⟨m0, m1⟩ := hN.cells
      obtain ⟨o0, o1⟩ := hO.cells
      have HC := Lib.hid (cseg_at f k x1 hwv hf)
      rw [hs0, hs1, hz0, hz1] at HC
      have HN := Lib.hid hN
      have HO := Lib.hid hO
      have HB := Lib.hid hB
      have HV := Lib.hid hwv
      have HF := Lib.hid hf
      have HS0 := Lib.hid hs0
      have HS1 := Lib.hid hs1
      have hN1 := hN.lt
      have hO1 := hO.lt
      clear hN hO hB hwv hf hs0 hs1 hz0 hz1 hsx hvn hbel hcs HT
      go_wp2_with fail
      clear hx1 q0 q1 m0 m1 o0 o1
      refine HC.out.mono ?_
      rintro e x2 ⟨rfl, hb⟩
      have hN2 := HN.out.below hb hN1
      have hO2 := HO.out.below hb hO1
      have HB2 := Lib.hid (HB.out.trans (hb.mono HB.out.size))
      have HV2 := Lib.hid (HV.out.below hb)
      clear hb HN HO HB HV HC
      by_cases he : segE f k = 0
      · have HE := Lib.hid he
        rw [he]
        obtain ⟨m0, m1⟩ := hN2.cells
        have r0 := hO2.cells.1
        have t0 := hO2.thaw.1
        have hO3 := hO2.set0 s0
        have hN3 := hN2.other (D := v.heap.size) (i := 0) (by omega) (.int .i64 s0)
        have hB3 := below_set (C := v.heap.size) (i := 0) HB2.out (by omega) (.int .i64 s0)
        have hV3 : Below x2.heap.size x2 x2 := Below.refl _ _
        obtain ⟨x3, hx3⟩ : ∃ x3, x2.setCell ⟨v.heap.size, 0, none⟩ (.int .i64 s0) = x3 := ⟨_, rfl⟩
        have hvn3 : VN x3 := by rw [← hx3]; exact HV2.out.other' hO2 hgv
        rw [hx3] at hO3 hN3 hB3
        obtain ⟨n0', n1'⟩ := hN3.cells
        have r1 := hO3.cells.2
        have t1 := hO3.thaw.2
        have hO4 := hO3.set1 s1
        have hB4 := below_set (C := v.heap.size) (i := 1) hB3 (by omega) (.int .i64 s1)
        obtain ⟨x4, hx4⟩ : ∃ x4, x3.setCell ⟨v.heap.size, 1, none⟩ (.int .i64 s1) = x4 := ⟨_, rfl⟩
        have hvn4 : VN x4 := by rw [← hx4]; exact hvn3.other' hO3 hgv
        rw [hx4] at hO4 hB4
        have HI2 : Hid (CkI w w.heap.size f (k + 1) v.heap.size x4) := Lib.hid ⟨by unfold firstE; rw [if_pos HF.out]; exact HE.out, by rw [bv_succ, HS0.out, HS1.out]; exact hO4, hvn4, hB4⟩
        clear he hN2 hO2 hO3 hN3 hB3 hV3 hvn3 hO4 hB4 hvn4 HB2 HV2
        go_wp2_with fail
        go_roundw
        case rel => exact ⟨k + 1, by omega, by go_num, HI2⟩
        case measure => simp [intOf]; omega
      · have hfe := firstE_at HF.out he hlt2
        obtain ⟨E, hE⟩ : ∃ E, segE f k = E := ⟨_, rfl⟩
        rw [hE] at hfe
        have HE := Lib.hid hfe
        rw [hE] at he ⊢
        have k0 : (E == 0) = false := by simpa using he
        have k1 : (E != 0) = true := by simpa using he
        clear hE he hN2 hO2 hfe
        go_wp2_with fail
        go_ret
        exact ⟨ret1 HE.out.symm, HB2.out⟩
    · obtain ⟨hf, _, _, hbel⟩ := HT.out
      obtain rfl : n = k := by omega
      have HF := Lib.hid hf
      have HB := Lib.hid hbel
      clear hf hbel HT
      go_wp2_with fail
      go_ret
      exact ⟨ret1 HF.out.symm, HB.out⟩
/-- Check of the program. -/
theorem ochk_any (ph : Int) (a : Option Addr) (n c : Nat) (f : Nat → Int × Int) (w : World) (hv : VN w) (hr : Rd2 w w.heap.size a n f) (hm : n ≤ 9223372036854775807) :
    Calls Tryd.prog 11 #[.agg #[.int .i64 ph, .slice a n c]] w fun e w' => e = .returned (.int .i64 (chk ph n f)) ∧ Below w.heap.size w w' := by
  unfold chk
  by_cases h : n = 0
  · subst h; rw [if_pos rfl]; exact ochk_empty ph a c w
  · rw [if_neg h]
    by_cases h1 : 16 < n
    · rw [if_pos h1]; exact ochk_long ph a n c w h1 hm
    · rw [if_neg h1]
      by_cases h3 : ph < -1125899906842624 ∨ 1125899906842624 < ph
      · rw [if_pos h3]
        rcases h3 with h3 | h3
        · exact ochk_low ph a n c w (by omega) (by omega) h3
        · exact ochk_high ph a n c w (by omega) (by omega) h3
      · rw [if_neg h3]
        exact ochk_segs ph a n c f w hv hr (by omega) (by omega) (by omega) (by omega)
end Go.Proofs.YtfhphgeanpmgaaaDoor
