/- Contracts of layer 7: Tai of the program. -/
import Derived.Test.YtghaboanakecjaaDoorSmeD
import Derived.Deep.RegionHeld3
import Derived.Laws.EntriesVeiled
namespace Go.Proofs.YtghaboanakecjaaDoor
open Go.RowKit Fx Cv Lp Sm

theorem Sm.day_lo {t : Int} (h : Lp.beg t = true) (h0 : -8000000000 ≤ t) : -7999800000 ≤ t := by
  have hd := beg_day h
  unfold Lp.beg oD at h
  simp only [Bool.and_eq_true, decide_eq_true_eq] at h
  have hc := h.2.1
  rcases Int.lt_or_le t (-7999800000) with c | c
  · exfalso
    have hq : t / 86400 = -92592 ∨ t / 86400 = -92591 := by omega
    rcases hq with e | e
    · rw [e] at hc
      exact absurd hc (show ¬ cd (-92592) = 1 by rw [show cd (-92592) = 29 from by kernel_rfl]; decide)
    · rw [e] at hc
      exact absurd hc (show ¬ cd (-92591) = 1 by rw [show cd (-92591) = 30 from by kernel_rfl]; decide)
  · exact c
theorem Sm.chg_in {B E : Int} {f : Nat → Int × Int} {n : Nat} (hv : Val B E f n) {i : Nat} (hi : i < n) : -8000000000000000000 ≤ chg f i - 1 ∧ chg f i ≤ 8000001000000000000 := by
  have h1 := day_lo (hv.beg i hi) (hv.rng.2.2 i hi).2.1
  have h2 := (hv.rng.2.2 i hi).2.2
  have h3 := hv.bnd hi
  unfold chg
  omega

/-- Does an instant read a nanosecond or more? -/
def Sm.rch (B : Int) (f : Nat → Int × Int) (n : Nat) (K W u t : Int) : Bool := decide (u ≤ rdg B f n K W t)
/-- The state of the search: boxes, the nanosecond's box, the closure's, the first instant's. -/
structure Sm.TS (w v : World) (G H U : Nat) (B E : Int) (a : Option Addr) (n c : Nat) (f : Nat → Int × Int) (K W u : Int) : Prop where
  bs : Bs w v G H B E a n c f K W
  ub : v.heap[U]? = some (.cells #[.int .i64 u] 3 (0, 0))
theorem Sm.blt {v : World} {U : Nat} {o : Obj} (h : v.heap[U]? = some o) : U < v.heap.size := by
  rcases Nat.lt_or_ge U v.heap.size with hlt | hge
  · exact hlt
  · rw [Array.getElem?_eq_none hge] at h; cases h
theorem Sm.TS.below {w v v' : World} {G H U : Nat} {B E : Int} {a : Option Addr} {n c : Nat} {f : Nat → Int × Int} {K W u : Int} (h : TS w v G H U B E a n c f K W u) (hb : Below v.heap.size v v') : TS w v' G H U B E a n c f K W u :=
  ⟨h.bs.below hb, (hb.block U (blt h.ub)).trans h.ub⟩
theorem Sm.one_cell {v : World} {U : Nat} {x : Value} {t : TypeId} (h : v.heap[U]? = some (.cells #[x] t (0, 0))) : v.cell? ⟨U, 0, none⟩ = some x := by simp [World.cell?, h]
theorem Sm.TS.cells {w v : World} {G H U : Nat} {B E : Int} {a : Option Addr} {n c : Nat} {f : Nat → Int × Int} {K W u : Int} (h : TS w v G H U B E a n c f K W u) :
    v.cell? ⟨G, 0, none⟩ = some (.int .i64 B) ∧ v.cell? ⟨G, 1, none⟩ = some (.int .i64 E) ∧ v.cell? ⟨G, 2, none⟩ = some (.slice a n c) ∧ v.cell? ⟨H, 0, none⟩ = some (.int .i64 K) ∧ v.cell? ⟨H, 1, none⟩ = some (.int .i64 W) ∧ v.cell? ⟨U, 0, none⟩ = some (.int .i64 u) :=
  ⟨h.bs.cells.1, h.bs.cells.2.1, h.bs.cells.2.2.1, h.bs.cells.2.2.2.1, h.bs.cells.2.2.2.2, one_cell h.ub⟩
theorem Sm.Bs.drew {w v : World} {G H : Nat} {B E : Int} {a : Option Addr} {n c : Nat} {f : Nat → Int × Int} {K W : Int} (h : Bs w v G H B E a n c f K W) : Bs w v.drew G H B E a n c f K W := ⟨h.box, h.pol, h.lrd, h.bel.drew⟩
theorem Sm.TS.drew {w v : World} {G H U : Nat} {B E : Int} {a : Option Addr} {n c : Nat} {f : Nat → Int × Int} {K W u : Int} (h : TS w v G H U B E a n c f K W u) : TS w v.drew G H U B E a n c f K W u := ⟨h.bs.drew, h.ub⟩
theorem Sm.TS.re {w v : World} {G H U : Nat} {B E : Int} {a : Option Addr} {n c : Nat} {f : Nat → Int × Int} {K W u : Int} (h : TS w v G H U B E a n c f K W u) : TS v v G H U B E a n c f K W u := ⟨⟨h.bs.box, h.bs.pol, h.bs.lrd, Below.refl _ _⟩, h.ub⟩

theorem tai1_any (G H U : Nat) (B E : Int) (a : Option Addr) (n c : Nat) (f : Nat → Int × Int) (K W u t : Int) (w : World) (hs : TS w w G H U B E a n c f K W u) (hv : Val B E f n) (hP : Pol K W) (b0 : -8000000000000000000 ≤ t) (b1 : t ≤ 8000000000000000000) :
    Calls Tryd.prog 28 #[.int .i64 t, .pointer (some ⟨G, 0, none⟩), .pointer (some ⟨H, 0, none⟩), .pointer (some ⟨U, 0, none⟩)] w fun e w' => e = .returned (.bool (rch B f n K W u t)) ∧ Below w.heap.size w w' := by
  have HV := Lib.hid hv
  have HP := Lib.hid hP
  have S0 := Lib.hid hs
  clear hv hP hs
  obtain ⟨t0, t1, t2, t3, t4, t5⟩ := S0.out.cells
  obtain ⟨r, hr⟩ : ∃ r, rch B f n K W u t = r := ⟨_, rfl⟩
  have HR := Lib.hid hr
  rw [hr]
  clear hr
  go_enter Tryd.func28, Tryd.ntmps28
  go_wp2_with fail
  have Sd := Lib.hid S0.out.drew
  have hq : decide (u ≤ rdg B f n K W t) = r := HR.out
  go_region_held3 (fun w' => w'.cell? ⟨G, 0, none⟩ = some (.int .i64 B) ∧ w'.cell? ⟨G, 1, none⟩ = some (.int .i64 E) ∧ w'.cell? ⟨G, 2, none⟩ = some (.slice a n c) ∧ w'.cell? ⟨H, 0, none⟩ = some (.int .i64 K) ∧ w'.cell? ⟨H, 1, none⟩ = some (.int .i64 W) ∧ w'.cell? ⟨U, 0, none⟩ = some (.int .i64 u)) (go_keep)
    ((go_at_call 25; refine (reading_any B E a n c f K W t _ ?_ HV.out HP.out b0 b1).mono ?_; exact Sd.out.bs.lrd; rintro e v1 ⟨rfl, hbl⟩; have S1 := Lib.hid (Sd.out.below hbl); clear hbl Sd; obtain ⟨y0, y1, y2, y3, y4, y5⟩ := S1.out.cells; clear t0 t1 t2 t3 t4 t5))
  go_wp2_with fail
  go_ret
  exact ⟨rfl, S1.out.bs.bel⟩
/-- The state with the closure's block and the first instant's. -/
structure Sm.TQ (w v : World) (G H U P Q : Nat) (B E : Int) (a : Option Addr) (n c : Nat) (f : Nat → Int × Int) (K W u m : Int) : Prop where
  ts : TS w v G H U B E a n c f K W u
  cl : v.heap[P]? = some (.cells #[.func (.func 28) #[] #[.pointer (some ⟨G, 0, none⟩), .pointer (some ⟨H, 0, none⟩), .pointer (some ⟨U, 0, none⟩)]] 41 (0, 0))
  fi : v.heap[Q]? = some (.cells #[.int .i64 m] 3 (0, 0))
theorem Sm.TQ.below {w v v' : World} {G H U P Q : Nat} {B E : Int} {a : Option Addr} {n c : Nat} {f : Nat → Int × Int} {K W u m : Int} (h : TQ w v G H U P Q B E a n c f K W u m) (hb : Below v.heap.size v v') : TQ w v' G H U P Q B E a n c f K W u m :=
  ⟨h.ts.below hb, (hb.block P (blt h.cl)).trans h.cl, (hb.block Q (blt h.fi)).trans h.fi⟩
theorem Sm.TQ.re {w v : World} {G H U P Q : Nat} {B E : Int} {a : Option Addr} {n c : Nat} {f : Nat → Int × Int} {K W u m : Int} (h : TQ w v G H U P Q B E a n c f K W u m) : TQ v v G H U P Q B E a n c f K W u m := ⟨h.ts.re, h.cl, h.fi⟩
theorem tai2_any (G H U P Q : Nat) (B E : Int) (a : Option Addr) (n c : Nat) (f : Nat → Int × Int) (K W u m i : Int) (w : World) (hs : TQ w w G H U P Q B E a n c f K W u m) (hv : Val B E f n) (hP : Pol K W) (b0 : -8000000000000000000 ≤ m + i) (b1 : m + i ≤ 8000000000000000000) :
    Calls Tryd.prog 32 #[.int .i64 i, .pointer (some ⟨P, 0, none⟩), .pointer (some ⟨Q, 0, none⟩)] w fun e w' => e = .returned (.bool (rch B f n K W u (m + i))) ∧ Below w.heap.size w w' := by
  have HV := Lib.hid hv
  have HP := Lib.hid hP
  have S0 := Lib.hid hs
  clear hv hP hs
  have p0 := one_cell S0.out.cl
  have q0 := one_cell S0.out.fi
  go_enter Tryd.func32, Tryd.ntmps32
  go_wp2_with fail
  refine (tai1_any G H U B E a n c f K W u (m + i) w S0.out.ts HV.out HP.out b0 b1).mono ?_
  rintro e v1 ⟨rfl, hbl⟩
  have HB := Lib.hid hbl
  clear hbl p0 q0
  go_wp2_with fail
  go_ret
  exact ⟨rfl, HB.out⟩
/-- What the search finds. -/
def Sm.Fnd (g : Int → Bool) (k r : Int) : Prop := 0 ≤ r ∧ r ≤ k ∧ (0 < r → g (r - 1) = false) ∧ (r < k → g r = true)
theorem search_any (G H U P Q : Nat) (B E : Int) (a : Option Addr) (n c : Nat) (f : Nat → Int × Int) (K W u m k : Int) (w : World) (hs : TQ w w G H U P Q B E a n c f K W u m) (hv : Val B E f n) (hP : Pol K W) (k0 : 0 ≤ k) (k1 : k ≤ 100000000000000) (b0 : -8000000000000000000 ≤ m) (b1 : m + k ≤ 8000000000000000001) :
    Calls Tryd.prog 31 #[.int .i64 k, .func (.func 32) #[] #[.pointer (some ⟨P, 0, none⟩), .pointer (some ⟨Q, 0, none⟩)]] w fun e w' => ∃ r, e = .returned (.int .i64 r) ∧ Fnd (fun i => rch B f n K W u (m + i)) k r ∧ Below w.heap.size w w' := by
  have HV := Lib.hid hv
  have HP := Lib.hid hP
  have S0 := Lib.hid hs
  clear hv hP hs
  go_enter Tryd.func31, Tryd.ntmps31
  go_wp2_with fail
  go_loopw [5, 6] (fun x y v => ∃ i j : Int, x = .int .i64 i ∧ y = .int .i64 j ∧ 0 ≤ i ∧ i ≤ j ∧ j ≤ k ∧ Hid (0 < i → rch B f n K W u (m + (i - 1)) = false) ∧ Hid (j < k → rch B f n K W u (m + j) = true) ∧ Hid (TQ w v G H U P Q B E a n c f K W u m)) (fun x y _ => (intOf y - intOf x).toNat)
  case atStart => exact ⟨0, k, rfl, rfl, by omega, by omega, by omega, Lib.hid (fun h => by omega), Lib.hid (fun h => by omega), S0⟩
  case round =>
    clear S0
    obtain ⟨i, j, rfl, rfl, i0, ij, jk, HI, HJ, S1⟩ := hrel
    by_cases hlt : i < j
    · obtain ⟨h, hh⟩ : ∃ h, (i + j) / 2 = h := ⟨_, rfl⟩
      have hb0 : i ≤ h := by omega
      have hb1 : h < j := by omega
      have HH := Lib.hid hh
      cases hg : rch B f n K W u (m + h)
      · have HG := Lib.hid hg
        clear hg
        go_wp2_with fail
        refine (tai2_any G H U P Q B E a n c f K W u m h _ S1.out.re HV.out HP.out (by omega) (by omega)).mono ?_
        rintro e v2 ⟨rfl, hbl⟩
        rw [HG.out]
        have S2 := Lib.hid (S1.out.below hbl)
        clear hbl S1
        go_wp2_with fail
        go_roundw
        case rel => exact ⟨h + 1, j, rfl, rfl, by omega, by omega, by omega, Lib.hid (fun _ => by rw [show h + 1 - 1 = h by omega]; exact HG.out), HJ, S2⟩
        case measure => simp [intOf]; omega
      · have HG := Lib.hid hg
        clear hg
        go_wp2_with fail
        refine (tai2_any G H U P Q B E a n c f K W u m h _ S1.out.re HV.out HP.out (by omega) (by omega)).mono ?_
        rintro e v2 ⟨rfl, hbl⟩
        rw [HG.out]
        have S2 := Lib.hid (S1.out.below hbl)
        clear hbl S1
        go_wp2_with fail
        go_roundw
        case rel => exact ⟨i, h, rfl, rfl, by omega, by omega, by omega, HI, Lib.hid (fun _ => HG.out), S2⟩
        case measure => simp [intOf]; omega
    · obtain rfl : i = j := by omega
      go_wp2_with fail
      go_ret
      exact ⟨i, rfl, ⟨i0, jk, HI.out, HJ.out⟩, S1.out.ts.bs.bel⟩
end Go.Proofs.YtghaboanakecjaaDoor
