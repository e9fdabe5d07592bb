/- Contracts of layer 7: readings and rates of the program. -/
import Derived.Test.YtgeklbpkmfeheaaDoorSmeC
import Derived.Test.YtgeklbpkmfeheaaDoorFixG
namespace Go.Proofs.YtgeklbpkmfeheaaDoor
open Go.RowKit Fx Cv Lp Sm

theorem Sm.psW_spec (f : Nat → Int × Int) (n : Nat) (K W t : Int) : psW f n K W t ≤ n ∧ (∀ i, i < psW f n K W t → enI f K W i ≤ t) ∧ (psW f n K W t < n → t < enI f K W (psW f n K W t)) := by
  obtain ⟨h0, h1, h2⟩ := fst_spec (fun i => decide (enI f K W i ≤ t)) n
  refine ⟨h0, fun i hi => of_decide_eq_true (h1 i hi), fun h => ?_⟩
  rcases h2 with h2 | h2
  · exact absurd h2 (Nat.ne_of_lt h)
  · have := of_decide_eq_false h2
    show t < enI f K W (fst (fun i => decide (enI f K W i ≤ t)) n)
    omega
theorem Sm.fs_en (f : Nat → Int × Int) (K W : Int) (i : Nat) : enI f K W i = fsI f K W i + W * 1000000000 := rfl
/-- What a place holds. -/
theorem Sm.place_in {B E : Int} {f : Nat → Int × Int} {n : Nat} {K W t : Int} (hv : Val B E f n) (hP : Pol K W) :
    (-1000 ≤ plO B f n K W t ∧ plO B f n K W t ≤ 1000) ∧ ((plC B f n K W t = 0 ∧ plS f n K W t = 0 ∧ inW f n K W t = false) ∨ ((plC B f n K W t = 1 ∨ plC B f n K W t = -1) ∧ 0 ≤ plS f n K W t ∧ plS f n K W t < W * 1000000000 ∧ 2 ≤ W ∧ inW f n K W t = true)) := by
  obtain ⟨h0, h1, h2⟩ := psW_spec f n K W t
  refine ⟨hv.bndA h0, ?_⟩
  unfold plC plS
  cases hi : inW f n K W t
  · exact .inl ⟨rfl, rfl, rfl⟩
  · right
    unfold inW at hi
    simp only [Bool.and_eq_true, decide_eq_true_eq] at hi
    obtain ⟨hk, hf⟩ := hi
    have := h2 hk
    rw [fs_en] at this
    have st := hv.stp _ hk
    have hW : K ≠ 1 := fun e => by have := hP.st e; omega
    have := hP.sm hW
    simp only [if_true]
    refine ⟨st, by omega, by omega, this, trivial⟩
/-- What an instant reads. -/
def Sm.rdg (B : Int) (f : Nat → Int × Int) (n : Nat) (K W t : Int) : Int := t - plO B f n K W t * 1000000000 - (if plC B f n K W t = 0 then 0 else plC B f n K W t * plS f n K W t / W)
theorem Sm.flo_pos {a b : Int} (h : 0 < b) : flo a b = a / b := if_pos h
theorem Sm.qok_small {a b : Int} (h : 0 < b) (h0 : -1000000000000000000 ≤ a) (h1 : a ≤ 1000000000000000000) : qok a b = true := by
  have e0 : -1000000000000000000 ≤ a / b := by
    have := Int.ediv_le_ediv h h0
    have h3 : -1000000000000000000 ≤ -1000000000000000000 / b := by
      rw [Int.le_ediv_iff_mul_le h]
      have : -1000000000000000000 * b ≤ -1000000000000000000 * 1 := Int.mul_le_mul_of_nonpos_left (by omega) (by omega)
      omega
    omega
  have e1 : a / b ≤ 1000000000000000000 := by
    rcases Int.le_total 0 a with h2 | h2
    · have := Int.ediv_le_self b h2; omega
    · have := Int.ediv_le_ediv h h2
      simp at this; omega
  unfold qok
  rw [flo_pos h]
  exact decide_eq_true ⟨by omega, by omega, by omega⟩

def Sm.rdE (B E : Int) (f : Nat → Int × Int) (n : Nat) (K W t : Int) : Int := if chkS B E f n K W ≠ 0 then chkS B E f n K W else if isT t = false then 3 else if isT (rdg B f n K W t) = false then 3 else 0
def Sm.rdV (B E : Int) (f : Nat → Int × Int) (n : Nat) (K W t : Int) : Int := if rdE B E f n K W t = 0 then rdg B f n K W t else 0
def Sm.smg (B E : Int) (f : Nat → Int × Int) (n : Nat) (K W t : Int) : Int := if chkS B E f n K W = 0 ∧ isT t = true then plC B f n K W t else 0
def Sm.rat (B E : Int) (f : Nat → Int × Int) (n : Nat) (K W t : Int) : Int := if smg B E f n K W t = 0 then 0 else -smg B E f n K W t * 1000000000 / W
theorem Sm.rd_bad {B E : Int} {f : Nat → Int × Int} {n : Nat} {K W t v : Int} (h : rdE B E f n K W t = v) (h0 : v ≠ 0) : Ending.returned (.tuple #[.int .i64 0, .int .i64 v]) = .returned (.tuple #[.int .i64 (rdV B E f n K W t), .int .i64 (rdE B E f n K W t)]) := by
  unfold rdV; rw [h, if_neg h0]
theorem Sm.rd_good {B E : Int} {f : Nat → Int × Int} {n : Nat} {K W t : Int} (h : rdE B E f n K W t = 0) : Ending.returned (.tuple #[.int .i64 (rdg B f n K W t), .int .i64 0]) = .returned (.tuple #[.int .i64 (rdV B E f n K W t), .int .i64 (rdE B E f n K W t)]) := by
  unfold rdV; rw [h, if_pos rfl]

set_option maxRecDepth 100000 in
theorem reading_no (B E : Int) (a : Option Addr) (n c : Nat) (f : Nat → Int × Int) (K W t : Int) (w : World) (hr : LRd w w.heap.size a n f) (hv : Val B E f n) (hP : Pol K W) (b0 : -8000000000000000000 ≤ t) (b1 : t ≤ 8000000000000000000) (hC : plC B f n K W t = 0) :
    Calls Tryd.prog 17 #[.agg #[.int .i64 B, .int .i64 E, .slice a n c], .agg #[.int .i64 K, .int .i64 W], .int .i64 t] w fun e w' => e = .returned (.int .i64 (rdg B f n K W t)) ∧ Below w.heap.size w w' := by
  have hpl := place_in (t := t) hv hP
  obtain ⟨hob, hcs⟩ := hpl
  have HV := Lib.hid hv
  have HP := Lib.hid hP
  obtain ⟨o, ho⟩ : ∃ o, plO B f n K W t = o := ⟨_, rfl⟩
  obtain ⟨cc, hcc⟩ : ∃ o, plC B f n K W t = o := ⟨_, rfl⟩
  obtain ⟨s, hs⟩ : ∃ o, plS f n K W t = o := ⟨_, rfl⟩
  rw [hcc] at hC
  rw [ho] at hob
  rw [hcc, hs] at hcs
  have HR : Hid (rdg B f n K W t = t - o * 1000000000 - (if cc = 0 then 0 else cc * s / W)) := Lib.hid (by unfold rdg; rw [ho, hcc, hs])
  have HPL : Hid (plO B f n K W t = o ∧ plC B f n K W t = cc ∧ plS f n K W t = s) := Lib.hid ⟨ho, hcc, hs⟩
  obtain ⟨ob0, ob1⟩ := hob
  clear ho hcc hs hv hP
  subst hC
  clear hcs
  obtain ⟨v0, hv0⟩ : ∃ v, (w.alloc (.cells #[.int .i64 B, .int .i64 E, .slice a n c] 24)).alloc (.cells #[.int .i64 K, .int .i64 W] 26) = v := ⟨_, rfl⟩
  have S0 := Lib.hid (bs_new w B E a n c f K W hr)
  rw [hv0] at S0
  obtain ⟨t0, t1, t2, t3, t4⟩ := S0.out.cells
  clear hr
  go_enter Tryd.func17, Tryd.ntmps17
  go_wp2_with fail
  clear hv0
  refine (place_any B E a n c f K W t v0 S0.out.lrd HV.out.le HV.out.rng HP.out b0 b1).mono ?_
  rintro e v1 ⟨rfl, hbl⟩
  rw [HPL.out.1, HPL.out.2.1, HPL.out.2.2]
  have S1 := Lib.hid (S0.out.below hbl)
  clear hbl S0 t0 t1 t2 t3 t4
  obtain ⟨g, hg⟩ : ∃ g, v1.heap.size = g := ⟨_, rfl⟩
  obtain ⟨V, hV⟩ : ∃ V, v1.alloc (.cells #[.int .i64 o, .int .i64 0, .int .i64 s] 48) = V := ⟨_, rfl⟩
  have hbV : Below v1.heap.size v1 V := by rw [← hV]; exact (Below.refl _ _).alloc (Nat.le_refl _) _
  have S2 := Lib.hid (S1.out.below hbV)
  have hz : V.heap[g]? = some (.cells #[.int .i64 o, .int .i64 0, .int .i64 s] 48 (0, 0)) := by rw [← hV, ← hg]; exact heap_alloc_new v1 _
  obtain ⟨d0, d1, d2, _, _, _⟩ := Sm.three hz
  obtain ⟨t0, t1, t2, t3, t4⟩ := S2.out.cells
  clear hbV hz
  go_wp2_with fail
  go_ret
  refine ⟨ret1 ?_, S2.out.bel⟩
  rw [HR.out]; simp

set_option maxRecDepth 100000 in
theorem reading_yes (B E : Int) (a : Option Addr) (n c : Nat) (f : Nat → Int × Int) (K W t : Int) (w : World) (hr : LRd w w.heap.size a n f) (hv : Val B E f n) (hP : Pol K W) (b0 : -8000000000000000000 ≤ t) (b1 : t ≤ 8000000000000000000) (hC : ¬ plC B f n K W t = 0) :
    Calls Tryd.prog 17 #[.agg #[.int .i64 B, .int .i64 E, .slice a n c], .agg #[.int .i64 K, .int .i64 W], .int .i64 t] w fun e w' => e = .returned (.int .i64 (rdg B f n K W t)) ∧ Below w.heap.size w w' := by
  have hpl := place_in (t := t) hv hP
  obtain ⟨hob, hcs⟩ := hpl
  have HV := Lib.hid hv
  have HP := Lib.hid hP
  obtain ⟨o, ho⟩ : ∃ o, plO B f n K W t = o := ⟨_, rfl⟩
  obtain ⟨cc, hcc⟩ : ∃ o, plC B f n K W t = o := ⟨_, rfl⟩
  obtain ⟨s, hs⟩ : ∃ o, plS f n K W t = o := ⟨_, rfl⟩
  rw [hcc] at hC
  rw [ho] at hob
  rw [hcc, hs] at hcs
  have HR : Hid (rdg B f n K W t = t - o * 1000000000 - (if cc = 0 then 0 else cc * s / W)) := Lib.hid (by unfold rdg; rw [ho, hcc, hs])
  have HPL : Hid (plO B f n K W t = o ∧ plC B f n K W t = cc ∧ plS f n K W t = s) := Lib.hid ⟨ho, hcc, hs⟩
  obtain ⟨ob0, ob1⟩ := hob
  clear ho hcc hs hv hP
  obtain ⟨hc1, s0, s1, hW, _⟩ := hcs.resolve_left (fun h => hC h.1)
  have w1 := HP.out.w1
  have cs0 : -172800000000000 ≤ cc * s := by rcases hc1 with h | h <;> rw [h] <;> omega
  have cs1 : cc * s ≤ 172800000000000 := by rcases hc1 with h | h <;> rw [h] <;> omega
  have HQ := Lib.hid (qok_small (a := cc * s) (b := W) (by omega) (by omega) (by omega))
  have HFL := Lib.hid (flo_pos (a := cc * s) (b := W) (by omega))
  have hdv : -172800000000000 ≤ cc * s / W ∧ cc * s / W ≤ 172800000000000 := by
    constructor
    · rw [Int.le_ediv_iff_mul_le (by omega)]
      have : -172800000000000 * W ≤ -172800000000000 * 1 := Int.mul_le_mul_of_nonpos_left (by omega) (by omega)
      omega
    · have h : cc * s / W ≤ 172800000000000 / W := Int.ediv_le_ediv (by omega) cs1
      have h2 : (172800000000000 : Int) / W ≤ 172800000000000 := Int.ediv_le_self W (by omega)
      omega
  obtain ⟨d, hd⟩ : ∃ d, cc * s / W = d := ⟨_, rfl⟩
  rw [hd] at hdv
  have HD := Lib.hid hd
  have c1 : -1 ≤ cc := by omega
  have c2 : cc ≤ 1 := by omega
  have cb : (cc == 0) = false := by simpa using hC
  have cb2 : (cc != 0) = true := by simpa using hC
  obtain ⟨hd0, hd1⟩ := hdv
  have HHC := Lib.hid hC
  have hmul : IntKind.i64.wrap (cc * s) = cc * s := IntWalk.i64_in _ (by omega)
  have hmul2 : wrap64 (cc * s) = cc * s := IntWalk.wrap64_in _ (by omega)
  have HW1 := Lib.hid w1
  clear hd hc1 w1 hcs
  obtain ⟨v0, hv0⟩ : ∃ v, (w.alloc (.cells #[.int .i64 B, .int .i64 E, .slice a n c] 24)).alloc (.cells #[.int .i64 K, .int .i64 W] 26) = v := ⟨_, rfl⟩
  have S0 := Lib.hid (bs_new w B E a n c f K W hr)
  rw [hv0] at S0
  obtain ⟨t0, t1, t2, t3, t4⟩ := S0.out.cells
  clear hr
  go_enter Tryd.func17, Tryd.ntmps17
  go_wp2_with fail
  clear hv0
  refine (place_any B E a n c f K W t v0 S0.out.lrd HV.out.le HV.out.rng HP.out b0 b1).mono ?_
  rintro e v1 ⟨rfl, hbl⟩
  rw [HPL.out.1, HPL.out.2.1, HPL.out.2.2]
  have S1 := Lib.hid (S0.out.below hbl)
  clear hbl S0 t0 t1 t2 t3 t4
  obtain ⟨g, hg⟩ : ∃ g, v1.heap.size = g := ⟨_, rfl⟩
  obtain ⟨V, hV⟩ : ∃ V, v1.alloc (.cells #[.int .i64 o, .int .i64 cc, .int .i64 s] 48) = V := ⟨_, rfl⟩
  have hbV : Below v1.heap.size v1 V := by rw [← hV]; exact (Below.refl _ _).alloc (Nat.le_refl _) _
  have S2 := Lib.hid (S1.out.below hbV)
  have hz : V.heap[g]? = some (.cells #[.int .i64 o, .int .i64 cc, .int .i64 s] 48 (0, 0)) := by rw [← hV, ← hg]; exact heap_alloc_new v1 _
  obtain ⟨d0, d1, d2, _, _, _⟩ := Sm.three hz
  obtain ⟨t0, t1, t2, t3, t4⟩ := S2.out.cells
  clear hbV hz
  go_wp2_with fail
  clear hV hg
  refine (floor_yes (cc * s) W _ (by omega) (by omega) (by omega) (by have := HW1.out; omega) HQ.out).mono ?_
  rintro e v3 ⟨rfl, rfl⟩
  rw [HFL.out, HD.out]
  go_wp2_with fail
  go_ret
  refine ⟨ret1 ?_, S2.out.bel⟩
  rw [HR.out, if_neg HHC.out, HD.out]

theorem reading_any (B E : Int) (a : Option Addr) (n c : Nat) (f : Nat → Int × Int) (K W t : Int) (w : World) (hr : LRd w w.heap.size a n f) (hv : Val B E f n) (hP : Pol K W) (b0 : -8000000000000000000 ≤ t) (b1 : t ≤ 8000000000000000000) :
    Calls Tryd.prog 17 #[.agg #[.int .i64 B, .int .i64 E, .slice a n c], .agg #[.int .i64 K, .int .i64 W], .int .i64 t] w fun e w' => e = .returned (.int .i64 (rdg B f n K W t)) ∧ Below w.heap.size w w' := by
  by_cases h : plC B f n K W t = 0
  · exact reading_no B E a n c f K W t w hr hv hP b0 b1 h
  · exact reading_yes B E a n c f K W t w hr hv hP b0 b1 h

set_option maxRecDepth 100000 in
theorem sread_bad (B E : Int) (a : Option Addr) (n c : Nat) (f : Nat → Int × Int) (K W t : Int) (w : World) (ht : MT w) (hr : LRd w w.heap.size a n f) (h : ¬ chkS B E f n K W = 0) :
    Calls Tryd.prog 8 #[.agg #[.int .i64 B, .int .i64 E, .slice a n c], .agg #[.int .i64 K, .int .i64 W], .int .i64 t] w fun e w' => e = .returned (.tuple #[.int .i64 (rdV B E f n K W t), .int .i64 (rdE B E f n K W t)]) ∧ Below w.heap.size w w' := by
  have HT := Lib.hid ht
  clear ht
  obtain ⟨y, hy⟩ : ∃ y, chkS B E f n K W = y := ⟨_, rfl⟩
  have HY := Lib.hid hy
  have HE : Hid (rdE B E f n K W t = y) := Lib.hid (by unfold rdE; rw [if_pos h, hy])
  rw [hy] at h
  have g1 : decide (y = 0) = false := decide_eq_false h
  have g2 : (y == 0) = false := by simpa using h
  have g3 : (y != 0) = true := by simp [bne, g2]
  have H0 := Lib.hid h
  clear hy h
  obtain ⟨v0, hv0⟩ : ∃ v, (w.alloc (.cells #[.int .i64 B, .int .i64 E, .slice a n c] 24)).alloc (.cells #[.int .i64 K, .int .i64 W] 26) = v := ⟨_, rfl⟩
  have S0 := Lib.hid (bs_new w B E a n c f K W hr)
  rw [hv0] at S0
  obtain ⟨t0, t1, t2, t3, t4⟩ := S0.out.cells
  clear hr
  go_enter Tryd.func8, Tryd.ntmps8
  go_wp2_with fail
  clear hv0
  refine (schk_any B E a n c f K W v0 (HT.out.below S0.out.bel) S0.out.lrd).mono ?_
  rintro e v1 ⟨rfl, hbl⟩
  rw [HY.out]
  have S1 := Lib.hid (S0.out.below hbl)
  clear hbl S0 t0 t1 t2 t3 t4
  obtain ⟨t0, t1, t2, t3, t4⟩ := S1.out.cells
  go_wp2_with fail
  go_ret2
  exact ⟨rd_bad HE.out H0.out, S1.out.bel⟩

set_option maxRecDepth 100000 in
theorem sread_time (B E : Int) (a : Option Addr) (n c : Nat) (f : Nat → Int × Int) (K W t : Int) (w : World) (ht : MT w) (hr : LRd w w.heap.size a n f) (h : chkS B E f n K W = 0) (h2 : isT t = false) :
    Calls Tryd.prog 8 #[.agg #[.int .i64 B, .int .i64 E, .slice a n c], .agg #[.int .i64 K, .int .i64 W], .int .i64 t] w fun e w' => e = .returned (.tuple #[.int .i64 (rdV B E f n K W t), .int .i64 (rdE B E f n K W t)]) ∧ Below w.heap.size w w' := by
  have HT := Lib.hid ht
  clear ht
  have HY := Lib.hid h
  have H2 := Lib.hid h2
  have HE : Hid (rdE B E f n K W t = 3) := Lib.hid (by unfold rdE; rw [if_neg (fun k => k h), if_pos h2])
  clear h h2
  obtain ⟨v0, hv0⟩ : ∃ v, (w.alloc (.cells #[.int .i64 B, .int .i64 E, .slice a n c] 24)).alloc (.cells #[.int .i64 K, .int .i64 W] 26) = v := ⟨_, rfl⟩
  have S0 := Lib.hid (bs_new w B E a n c f K W hr)
  rw [hv0] at S0
  obtain ⟨t0, t1, t2, t3, t4⟩ := S0.out.cells
  clear hr
  go_enter Tryd.func8, Tryd.ntmps8
  go_wp2_with fail
  clear hv0
  refine (schk_any B E a n c f K W v0 (HT.out.below S0.out.bel) S0.out.lrd).mono ?_
  rintro e v1 ⟨rfl, hbl⟩
  rw [HY.out]
  have S1 := Lib.hid (S0.out.below hbl)
  clear hbl S0 t0 t1 t2 t3 t4
  obtain ⟨t0, t1, t2, t3, t4⟩ := S1.out.cells
  go_wp2_with fail
  refine (sist_any t v1).mono ?_
  rintro e w' ⟨rfl, hw'⟩; subst w'
  rw [H2.out]
  go_wp2_with fail
  go_ret2
  exact ⟨rd_bad HE.out (by decide), S1.out.bel⟩

set_option maxRecDepth 100000 in
theorem sread_out (B E : Int) (a : Option Addr) (n c : Nat) (f : Nat → Int × Int) (K W t : Int) (w : World) (ht : MT w) (hr : LRd w w.heap.size a n f) (h : chkS B E f n K W = 0) (h2 : isT t = true) (h3 : isT (rdg B f n K W t) = false) :
    Calls Tryd.prog 8 #[.agg #[.int .i64 B, .int .i64 E, .slice a n c], .agg #[.int .i64 K, .int .i64 W], .int .i64 t] w fun e w' => e = .returned (.tuple #[.int .i64 (rdV B E f n K W t), .int .i64 (rdE B E f n K W t)]) ∧ Below w.heap.size w w' := by
  have HT := Lib.hid ht
  clear ht
  have HY := Lib.hid h
  have H2 := Lib.hid h2
  have H3 := Lib.hid h3
  obtain ⟨hz, hP⟩ := chk_pol h
  have HV := Lib.hid (val_of hz)
  have HP := Lib.hid hP
  have tb : -8000000000000000000 ≤ t ∧ t ≤ 8000000000000000000 := of_decide_eq_true h2
  obtain ⟨tb0, tb1⟩ := tb
  have HE : Hid (rdE B E f n K W t = 3) := Lib.hid (by unfold rdE; rw [if_neg (fun k => k h), if_neg (by rw [h2]; decide), if_pos h3])
  clear h h2 h3 hz hP
  obtain ⟨v0, hv0⟩ : ∃ v, (w.alloc (.cells #[.int .i64 B, .int .i64 E, .slice a n c] 24)).alloc (.cells #[.int .i64 K, .int .i64 W] 26) = v := ⟨_, rfl⟩
  have S0 := Lib.hid (bs_new w B E a n c f K W hr)
  rw [hv0] at S0
  obtain ⟨t0, t1, t2, t3, t4⟩ := S0.out.cells
  clear hr
  go_enter Tryd.func8, Tryd.ntmps8
  go_wp2_with fail
  clear hv0
  refine (schk_any B E a n c f K W v0 (HT.out.below S0.out.bel) S0.out.lrd).mono ?_
  rintro e v1 ⟨rfl, hbl⟩
  rw [HY.out]
  have S1 := Lib.hid (S0.out.below hbl)
  clear hbl S0 t0 t1 t2 t3 t4
  obtain ⟨t0, t1, t2, t3, t4⟩ := S1.out.cells
  go_wp2_with fail
  refine (sist_any t v1).mono ?_
  rintro e w' ⟨rfl, hw'⟩; subst w'
  rw [H2.out]
  go_wp2_with fail
  refine (reading_any B E a n c f K W t v1 S1.out.lrd HV.out HP.out tb0 tb1).mono ?_
  rintro e v2 ⟨rfl, hbl⟩
  have S2 := Lib.hid (S1.out.below hbl)
  clear hbl S1 t0 t1 t2 t3 t4
  obtain ⟨t0, t1, t2, t3, t4⟩ := S2.out.cells
  go_wp2_with fail
  refine (sist_any (rdg B f n K W t) v2).mono ?_
  rintro e w' ⟨rfl, hw'⟩; subst w'
  rw [H3.out]
  go_wp2_with fail
  go_ret2
  exact ⟨rd_bad HE.out (by decide), S2.out.bel⟩

set_option maxRecDepth 100000 in
theorem sread_ok (B E : Int) (a : Option Addr) (n c : Nat) (f : Nat → Int × Int) (K W t : Int) (w : World) (ht : MT w) (hr : LRd w w.heap.size a n f) (h : chkS B E f n K W = 0) (h2 : isT t = true) (h3 : isT (rdg B f n K W t) = true) :
    Calls Tryd.prog 8 #[.agg #[.int .i64 B, .int .i64 E, .slice a n c], .agg #[.int .i64 K, .int .i64 W], .int .i64 t] w fun e w' => e = .returned (.tuple #[.int .i64 (rdV B E f n K W t), .int .i64 (rdE B E f n K W t)]) ∧ Below w.heap.size w w' := by
  have HT := Lib.hid ht
  clear ht
  have HY := Lib.hid h
  have H2 := Lib.hid h2
  have H3 := Lib.hid h3
  obtain ⟨hz, hP⟩ := chk_pol h
  have HV := Lib.hid (val_of hz)
  have HP := Lib.hid hP
  have tb : -8000000000000000000 ≤ t ∧ t ≤ 8000000000000000000 := of_decide_eq_true h2
  obtain ⟨tb0, tb1⟩ := tb
  have HE : Hid (rdE B E f n K W t = 0) := Lib.hid (by unfold rdE; rw [if_neg (fun k => k h), if_neg (by rw [h2]; decide), if_neg (by rw [h3]; decide)])
  clear h h2 h3 hz hP
  obtain ⟨v0, hv0⟩ : ∃ v, (w.alloc (.cells #[.int .i64 B, .int .i64 E, .slice a n c] 24)).alloc (.cells #[.int .i64 K, .int .i64 W] 26) = v := ⟨_, rfl⟩
  have S0 := Lib.hid (bs_new w B E a n c f K W hr)
  rw [hv0] at S0
  obtain ⟨t0, t1, t2, t3, t4⟩ := S0.out.cells
  clear hr
  go_enter Tryd.func8, Tryd.ntmps8
  go_wp2_with fail
  clear hv0
  refine (schk_any B E a n c f K W v0 (HT.out.below S0.out.bel) S0.out.lrd).mono ?_
  rintro e v1 ⟨rfl, hbl⟩
  rw [HY.out]
  have S1 := Lib.hid (S0.out.below hbl)
  clear hbl S0 t0 t1 t2 t3 t4
  obtain ⟨t0, t1, t2, t3, t4⟩ := S1.out.cells
  go_wp2_with fail
  refine (sist_any t v1).mono ?_
  rintro e w' ⟨rfl, hw'⟩; subst w'
  rw [H2.out]
  go_wp2_with fail
  refine (reading_any B E a n c f K W t v1 S1.out.lrd HV.out HP.out tb0 tb1).mono ?_
  rintro e v2 ⟨rfl, hbl⟩
  have S2 := Lib.hid (S1.out.below hbl)
  clear hbl S1 t0 t1 t2 t3 t4
  obtain ⟨t0, t1, t2, t3, t4⟩ := S2.out.cells
  go_wp2_with fail
  refine (sist_any (rdg B f n K W t) v2).mono ?_
  rintro e w' ⟨rfl, hw'⟩; subst w'
  rw [H3.out]
  go_wp2_with fail
  go_ret2
  exact ⟨rd_good HE.out, S2.out.bel⟩

theorem sread_any (B E : Int) (a : Option Addr) (n c : Nat) (f : Nat → Int × Int) (K W t : Int) (w : World) (ht : MT w) (hr : LRd w w.heap.size a n f) :
    Calls Tryd.prog 8 #[.agg #[.int .i64 B, .int .i64 E, .slice a n c], .agg #[.int .i64 K, .int .i64 W], .int .i64 t] w fun e w' => e = .returned (.tuple #[.int .i64 (rdV B E f n K W t), .int .i64 (rdE B E f n K W t)]) ∧ Below w.heap.size w w' := by
  by_cases h : chkS B E f n K W = 0
  · cases h2 : isT t
    · exact sread_time B E a n c f K W t w ht hr h h2
    · cases h3 : isT (rdg B f n K W t)
      · exact sread_out B E a n c f K W t w ht hr h h2 h3
      · exact sread_ok B E a n c f K W t w ht hr h h2 h3
  · exact sread_bad B E a n c f K W t w ht hr h

set_option maxRecDepth 100000 in
theorem smg_bad (B E : Int) (a : Option Addr) (n c : Nat) (f : Nat → Int × Int) (K W t : Int) (w : World) (ht : MT w) (hr : LRd w w.heap.size a n f) (h : ¬ chkS B E f n K W = 0) :
    Calls Tryd.prog 18 #[.agg #[.int .i64 B, .int .i64 E, .slice a n c], .agg #[.int .i64 K, .int .i64 W], .int .i64 t] w fun e w' => e = .returned (.int .i64 (smg B E f n K W t)) ∧ Below w.heap.size w w' := by
  have HT := Lib.hid ht
  clear ht
  obtain ⟨y, hy⟩ : ∃ y, chkS B E f n K W = y := ⟨_, rfl⟩
  have HY := Lib.hid hy
  have HE : Hid (smg B E f n K W t = 0) := Lib.hid (by unfold smg; rw [if_neg (fun k => h k.1)])
  rw [hy] at h
  have g1 : decide (y = 0) = false := decide_eq_false h
  have g2 : (y == 0) = false := by simpa using h
  have g3 : (y != 0) = true := by simp [bne, g2]
  clear hy h
  obtain ⟨v0, hv0⟩ : ∃ v, (w.alloc (.cells #[.int .i64 B, .int .i64 E, .slice a n c] 24)).alloc (.cells #[.int .i64 K, .int .i64 W] 26) = v := ⟨_, rfl⟩
  have S0 := Lib.hid (bs_new w B E a n c f K W hr)
  rw [hv0] at S0
  obtain ⟨t0, t1, t2, t3, t4⟩ := S0.out.cells
  clear hr
  go_enter Tryd.func18, Tryd.ntmps18
  go_wp2_with fail
  clear hv0
  refine (schk_any B E a n c f K W v0 (HT.out.below S0.out.bel) S0.out.lrd).mono ?_
  rintro e v1 ⟨rfl, hbl⟩
  rw [HY.out]
  have S1 := Lib.hid (S0.out.below hbl)
  clear hbl S0 t0 t1 t2 t3 t4
  obtain ⟨t0, t1, t2, t3, t4⟩ := S1.out.cells
  go_wp2_with fail
  go_ret
  exact ⟨ret1 HE.out.symm, S1.out.bel⟩

set_option maxRecDepth 100000 in
theorem smg_time (B E : Int) (a : Option Addr) (n c : Nat) (f : Nat → Int × Int) (K W t : Int) (w : World) (ht : MT w) (hr : LRd w w.heap.size a n f) (h : chkS B E f n K W = 0) (h2 : isT t = false) :
    Calls Tryd.prog 18 #[.agg #[.int .i64 B, .int .i64 E, .slice a n c], .agg #[.int .i64 K, .int .i64 W], .int .i64 t] w fun e w' => e = .returned (.int .i64 (smg B E f n K W t)) ∧ Below w.heap.size w w' := by
  have HT := Lib.hid ht
  clear ht
  have HY := Lib.hid h
  have H2 := Lib.hid h2
  have HE : Hid (smg B E f n K W t = 0) := Lib.hid (by unfold smg; rw [if_neg (fun k => by rw [h2] at k; cases k.2)])
  clear h h2
  obtain ⟨v0, hv0⟩ : ∃ v, (w.alloc (.cells #[.int .i64 B, .int .i64 E, .slice a n c] 24)).alloc (.cells #[.int .i64 K, .int .i64 W] 26) = v := ⟨_, rfl⟩
  have S0 := Lib.hid (bs_new w B E a n c f K W hr)
  rw [hv0] at S0
  obtain ⟨t0, t1, t2, t3, t4⟩ := S0.out.cells
  clear hr
  go_enter Tryd.func18, Tryd.ntmps18
  go_wp2_with fail
  clear hv0
  refine (schk_any B E a n c f K W v0 (HT.out.below S0.out.bel) S0.out.lrd).mono ?_
  rintro e v1 ⟨rfl, hbl⟩
  rw [HY.out]
  have S1 := Lib.hid (S0.out.below hbl)
  clear hbl S0 t0 t1 t2 t3 t4
  obtain ⟨t0, t1, t2, t3, t4⟩ := S1.out.cells
  go_wp2_with fail
  refine (sist_any t v1).mono ?_
  rintro e w' ⟨rfl, hw'⟩; subst w'
  rw [H2.out]
  go_wp2_with fail
  go_ret
  exact ⟨ret1 HE.out.symm, S1.out.bel⟩

set_option maxRecDepth 100000 in
theorem smg_ok (B E : Int) (a : Option Addr) (n c : Nat) (f : Nat → Int × Int) (K W t : Int) (w : World) (ht : MT w) (hr : LRd w w.heap.size a n f) (h : chkS B E f n K W = 0) (h2 : isT t = true) :
    Calls Tryd.prog 18 #[.agg #[.int .i64 B, .int .i64 E, .slice a n c], .agg #[.int .i64 K, .int .i64 W], .int .i64 t] w fun e w' => e = .returned (.int .i64 (smg B E f n K W t)) ∧ Below w.heap.size w w' := by
  have HT := Lib.hid ht
  clear ht
  have hfld : ∀ (x y z : Int) (v : World), (Instr.field 48 (.agg #[.int .i64 x, .int .i64 y, .int .i64 z]) 1).run Tryd.prog v = .ok (.int .i64 y) v := fun _ _ _ _ => by kernel_rfl
  have HY := Lib.hid h
  have H2 := Lib.hid h2
  obtain ⟨hz, hP⟩ := chk_pol h
  have HV := Lib.hid (val_of hz)
  have HP := Lib.hid hP
  have tb : -8000000000000000000 ≤ t ∧ t ≤ 8000000000000000000 := of_decide_eq_true h2
  obtain ⟨tb0, tb1⟩ := tb
  have HE : Hid (smg B E f n K W t = plC B f n K W t) := Lib.hid (if_pos ⟨h, h2⟩)
  clear h h2 hz hP
  obtain ⟨v0, hv0⟩ : ∃ v, (w.alloc (.cells #[.int .i64 B, .int .i64 E, .slice a n c] 24)).alloc (.cells #[.int .i64 K, .int .i64 W] 26) = v := ⟨_, rfl⟩
  have S0 := Lib.hid (bs_new w B E a n c f K W hr)
  rw [hv0] at S0
  obtain ⟨t0, t1, t2, t3, t4⟩ := S0.out.cells
  clear hr
  go_enter Tryd.func18, Tryd.ntmps18
  go_wp2_with fail
  clear hv0
  refine (schk_any B E a n c f K W v0 (HT.out.below S0.out.bel) S0.out.lrd).mono ?_
  rintro e v1 ⟨rfl, hbl⟩
  rw [HY.out]
  have S1 := Lib.hid (S0.out.below hbl)
  clear hbl S0 t0 t1 t2 t3 t4
  obtain ⟨t0, t1, t2, t3, t4⟩ := S1.out.cells
  go_wp2_with fail
  refine (sist_any t v1).mono ?_
  rintro e w' ⟨rfl, hw'⟩; subst w'
  rw [H2.out]
  go_wp2_with fail
  refine (place_any B E a n c f K W t v1 S1.out.lrd HV.out.le HV.out.rng HP.out tb0 tb1).mono ?_
  rintro e v2 ⟨rfl, hbl⟩
  have S2 := Lib.hid (S1.out.below hbl)
  clear hbl S1 t0 t1 t2 t3 t4
  obtain ⟨t0, t1, t2, t3, t4⟩ := S2.out.cells
  go_wp2_with fail
  go_ret
  exact ⟨ret1 HE.out.symm, S2.out.bel⟩

theorem smg_any (B E : Int) (a : Option Addr) (n c : Nat) (f : Nat → Int × Int) (K W t : Int) (w : World) (ht : MT w) (hr : LRd w w.heap.size a n f) :
    Calls Tryd.prog 18 #[.agg #[.int .i64 B, .int .i64 E, .slice a n c], .agg #[.int .i64 K, .int .i64 W], .int .i64 t] w fun e w' => e = .returned (.int .i64 (smg B E f n K W t)) ∧ Below w.heap.size w w' := by
  by_cases h : chkS B E f n K W = 0
  · cases h2 : isT t
    · exact smg_time B E a n c f K W t w ht hr h h2
    · exact smg_ok B E a n c f K W t w ht hr h h2
  · exact smg_bad B E a n c f K W t w ht hr h

set_option maxRecDepth 100000 in
theorem active_any (B E : Int) (a : Option Addr) (n c : Nat) (f : Nat → Int × Int) (K W t : Int) (w : World) (ht : MT w) (hr : LRd w w.heap.size a n f)  :
    Calls Tryd.prog 9 #[.agg #[.int .i64 B, .int .i64 E, .slice a n c], .agg #[.int .i64 K, .int .i64 W], .int .i64 t] w fun e w' => e = .returned (.bool (smg B E f n K W t != 0)) ∧ Below w.heap.size w w' := by
  have HT := Lib.hid ht
  clear ht
  obtain ⟨v0, hv0⟩ : ∃ v, (w.alloc (.cells #[.int .i64 B, .int .i64 E, .slice a n c] 24)).alloc (.cells #[.int .i64 K, .int .i64 W] 26) = v := ⟨_, rfl⟩
  have S0 := Lib.hid (bs_new w B E a n c f K W hr)
  rw [hv0] at S0
  obtain ⟨t0, t1, t2, t3, t4⟩ := S0.out.cells
  clear hr
  go_enter Tryd.func9, Tryd.ntmps9
  go_wp2_with fail
  clear hv0
  refine (smg_any B E a n c f K W t v0 (HT.out.below S0.out.bel) S0.out.lrd).mono ?_
  rintro e v1 ⟨rfl, hbl⟩
  have S1 := Lib.hid (S0.out.below hbl)
  clear hbl S0 t0 t1 t2 t3 t4
  obtain ⟨t0, t1, t2, t3, t4⟩ := S1.out.cells
  go_wp2_with fail
  go_ret
  exact ⟨rfl, S1.out.bel⟩

end Go.Proofs.YtgeklbpkmfeheaaDoor
