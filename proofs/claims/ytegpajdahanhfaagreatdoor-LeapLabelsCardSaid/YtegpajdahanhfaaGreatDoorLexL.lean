/- The specification's labels and the walk of LeapLabels, in one text. -/
import Derived.Test.YtegpajdahanhfaaGreatDoorLevB
import Derived.Test.YtegpajdahanhfaaGreatDoorLexY
import Derived.Deep.RegionHeld3
namespace Go.Proofs.YtegpajdahanhfaaGreatDoor
open Go.RowKit Go.Shelf Fx Cv Lp Pt

theorem Lp.psU_iff {B E : Int} {f : Nat → Int × Int} {n : Nat} {u : Int} (hv : Val B E f n) {i : Nat} (hi : i < n) : (f i).1 ≤ u ↔ i < psU f n u := by
  obtain ⟨h1, h2⟩ := psU_spec f n u
  rcases Nat.lt_trichotomy i (psU f n u) with h | h | h
  · exact ⟨fun _ => h, fun _ => h1 i h⟩
  · have := h2 (by omega)
    rw [← h] at this
    exact ⟨fun _ => by omega, fun _ => by omega⟩
  · have a := h2 (by omega)
    have b := hv.lt h hi
    exact ⟨fun _ => by omega, fun _ => by omega⟩
theorem Lp.cha_hit {B E : Int} {f : Nat → Int × Int} {n : Nat} {u : Int} (hv : Val B E f n) {k : Nat} (hk : k < n) (h : (f k).1 = u + 1) : chaU B f n u = (f k).2 - offA B f k := by
  have e : psU f n u = k := psU_eq (by omega) (fun i hi => by have := hv.lt hi hk; omega) (fun _ => by omega)
  unfold chaU
  rw [e, if_pos ⟨hk, h⟩]
theorem Lp.cha_none {B : Int} {f : Nat → Int × Int} {n : Nat} {u : Int} (h : ∀ j, j < n → (f j).1 ≠ u + 1) : chaU B f n u = 0 := by
  unfold chaU
  rw [if_neg (fun k => h _ k.1 k.2)]

set_option maxRecDepth 100000 in
set_option maxHeartbeats 1000000 in
theorem roffu_any (B E : Int) (a : Option Addr) (n c : Nat) (f : Nat → Int × Int) (u : Int) (w : World) (hr : LRd w w.heap.size a n f) (hv : Val B E f n) :
    Calls Tryz.prog 37 #[.agg #[.int .i64 B, .int .i64 E, .slice a n c], .int .i64 u] w fun e w' => e = .returned (.int .i64 (offA B f (psU f n u))) ∧ Below w.heap.size w w' := by
  have hi : (n : Int) ≤ 64 := by have := hv.le; omega
  obtain ⟨P, hP⟩ : ∃ P, psU f n u = P := ⟨_, rfl⟩
  have hPn : P ≤ n := by rw [← hP]; exact psU_le f n u
  have HI : Hid (∀ i, i < n → ((f i).1 ≤ u ↔ i < P)) := Lib.hid (fun i h => by rw [← hP]; exact psU_iff hv h)
  have HV := Lib.hid hv
  rw [hP]
  clear hP hv
  obtain ⟨v0, hv0⟩ : ∃ v, w.alloc (.cells #[.int .i64 B, .int .i64 E, .slice a n c] 24) = v := ⟨_, rfl⟩
  obtain ⟨G, hG⟩ : ∃ G, w.heap.size = G := ⟨_, rfl⟩
  have hbv : Below w.heap.size w v0 := by rw [← hv0]; exact (Below.refl _ _).alloc (Nat.le_refl _) _
  have X0 : Hid (TBx v0 G B E a n c) := Lib.hid (by rw [← hv0, ← hG]; exact tbx_new _ _ _ _ _ _)
  have R0 := Lib.hid ((hr.below hbv).mono hbv.size)
  have B0 := Lib.hid hbv
  clear hr hbv
  obtain ⟨t0, t1, t2⟩ := X0.out.cells
  go_enter Tryz.func37, Tryz.ntmps37
  go_wp2_with fail
  clear hv0
  go_loopw [5, 6] (fun o iv wr => ∃ k : Nat, k ≤ n ∧ iv = .int .i64 k ∧ o = .int .i64 (offA B f (min k P)) ∧ wr = v0) (fun _ iv _ => n - (intOf iv).toNat)
  case atStart => exact ⟨0, by omega, rfl, by rw [Nat.zero_min]; rfl, rfl⟩
  case round =>
    obtain ⟨k, hk, rfl, rfl, rfl⟩ := hrel
    obtain ⟨o, ho⟩ : ∃ o, offA B f (min k P) = o := ⟨_, rfl⟩
    rw [ho]
    have HO := Lib.hid ho
    clear ho
    by_cases hlt : k < n
    · have hki : (k : Int) < n := by omega
      obtain ⟨b, off, rfl, hbl, hcell⟩ := R0.out (by omega)
      obtain ⟨e0, e1⟩ := hcell k hlt
      obtain ⟨x, hx⟩ : ∃ x, (f k).1 = x := ⟨_, rfl⟩
      obtain ⟨y, hy⟩ : ∃ y, (f k).2 = y := ⟨_, rfl⟩
      have HPK := Lib.hid (HI.out k hlt)
      rw [hx] at e0 HPK
      rw [hy] at e1
      have HY := Lib.hid hy
      clear hx hy hcell
      by_cases hA : x ≤ u
      · have hkP : k < P := HPK.out.1 hA
        go_wp2_with fail
        go_roundw
        case rel => exact ⟨k + 1, by omega, by go_num, by rw [Nat.min_eq_left (by omega), offA_succ, HY.out], trivial⟩
        case measure => simp [intOf]; omega
      · have hkP : ¬ k < P := fun h => hA (HPK.out.2 h)
        have hA' : decide (x ≤ u) = false := decide_eq_false hA
        go_wp2_with fail
        go_roundw
        case rel => exact ⟨k + 1, by omega, by go_num, by rw [← HO.out, Nat.min_eq_right (by omega), Nat.min_eq_right (by omega)], trivial⟩
        case measure => simp [intOf]; omega
    · obtain rfl : k = n := by omega
      have hki : ¬ (k : Int) < k := by omega
      have hmm : min k P = P := Nat.min_eq_right hPn
      go_wp2_with fail
      refine bodyPost_ret (v := .int .i64 o) (by simp [results, Tryz.results37, go_sem]) rfl ⟨?_, (by rw [← hG]; exact B0.out)⟩
      rw [← HO.out, hmm]

set_option maxRecDepth 100000 in
set_option maxHeartbeats 1000000 in
theorem rchange_any (B E : Int) (a : Option Addr) (n c : Nat) (f : Nat → Int × Int) (u : Int) (w : World) (hr : LRd w w.heap.size a n f) (hv : Val B E f n) :
    Calls Tryz.prog 36 #[.agg #[.int .i64 B, .int .i64 E, .slice a n c], .int .i64 (u + 1)] w fun e w' => e = .returned (.int .i64 (chaU B f n u)) ∧ Below w.heap.size w w' := by
  have hi : (n : Int) ≤ 64 := by have := hv.le; omega
  have hn64 := hv.le
  have HV := Lib.hid hv
  obtain ⟨U, hU⟩ : ∃ U, u + 1 = U := ⟨_, rfl⟩
  rw [hU]
  have HU := Lib.hid hU
  clear hv hU
  obtain ⟨v0, hv0⟩ : ∃ v, w.alloc (.cells #[.int .i64 B, .int .i64 E, .slice a n c] 24) = v := ⟨_, rfl⟩
  obtain ⟨G, hG⟩ : ∃ G, w.heap.size = G := ⟨_, rfl⟩
  have hbv : Below w.heap.size w v0 := by rw [← hv0]; exact (Below.refl _ _).alloc (Nat.le_refl _) _
  have X0 : Hid (TBx v0 G B E a n c) := Lib.hid (by rw [← hv0, ← hG]; exact tbx_new _ _ _ _ _ _)
  have R0 := Lib.hid ((hr.below hbv).mono hbv.size)
  have B0 := Lib.hid hbv
  clear hr hbv
  obtain ⟨t0, t1, t2⟩ := X0.out.cells
  go_enter Tryz.func36, Tryz.ntmps36
  go_wp2_with fail
  clear hv0
  go_loopw [5] (fun iv wr => ∃ k : Nat, k ≤ n ∧ iv = .int .i64 k ∧ Hid (∀ j, j < k → (f j).1 ≠ U) ∧ wr = v0) (fun iv _ => n - (intOf iv).toNat)
  case atStart => exact ⟨0, by omega, rfl, Lib.hid (fun j h => by omega), rfl⟩
  case round =>
    obtain ⟨k, hk, rfl, HN, rfl⟩ := hrel
    by_cases hlt : k < n
    · have hki : (k : Int) < n := by omega
      obtain ⟨b, off, rfl, hbl, hcell⟩ := R0.out (by omega)
      obtain ⟨e0, e1⟩ := hcell k hlt
      obtain ⟨⟨y0, y1⟩, ⟨x0, x1⟩⟩ := HV.out.rng.2.2 k hlt
      have ob := HV.out.bndA (k := k) (by omega)
      obtain ⟨x, hx⟩ : ∃ x, (f k).1 = x := ⟨_, rfl⟩
      obtain ⟨y, hy⟩ : ∃ y, (f k).2 = y := ⟨_, rfl⟩
      obtain ⟨o, ho⟩ : ∃ o, offA B f k = o := ⟨_, rfl⟩
      have HX := Lib.hid hx
      have HY := Lib.hid hy
      have HO := Lib.hid ho
      rw [hx] at e0 x0 x1
      rw [hy] at e1 y0 y1
      rw [ho] at ob
      obtain ⟨ob0, ob1⟩ := ob
      clear hx hy ho hcell
      by_cases hA : x = U
      · subst hA
        have HC := Lib.hid (cha_hit HV.out hlt (show (f k).1 = u + 1 by rw [HX.out, HU.out]))
        have hyo : IntKind.i64.wrap (y - o) = y - o := IntWalk.i64_in _ (by omega)
        go_wp2_with fail
        go_region_held3 (fun v => v.cell? ⟨G, 0, none⟩ = some (.int .i64 B) ∧ v.cell? ⟨G, 1, none⟩ = some (.int .i64 E) ∧ v.cell? ⟨G, 2, none⟩ = some (.slice (some ⟨b, off, none⟩) n c) ∧ v.cell? ⟨b, off + k * 2, none⟩ = some (.int .i64 x) ∧ v.cell? ⟨b, off + k * 2 + 1, none⟩ = some (.int .i64 y)) (go_keep)
          (first
            | (go_at_call 31; refine (rold_any B E (some ⟨b, off, none⟩) n c f k _ ?_ (by omega) HV.out.le).mono ?_; exact R0.out; rintro e v3 ⟨rfl, hbl3⟩; rw [HO.out]; have hb3 : Below wr.heap.size wr v3 := ⟨hbl3.os, hbl3.tape, hbl3.output, hbl3.size, hbl3.block⟩; have X3 := Lib.hid (X0.out.below hb3 X0.out.lt); have B3 := Lib.hid (B0.out.trans (hb3.mono B0.out.size)); have hE0 := (hb3.cell (p := ⟨b, off + k * 2, none⟩) (by assumption)).trans e0; have hE1 := (hb3.cell (p := ⟨b, off + k * 2 + 1, none⟩) (by assumption)).trans e1; clear hbl3 hb3; obtain ⟨q0, q1, q2⟩ := X3.out.cells; clear t0 t1 t2 e0 e1 X0))
        go_wp2_with fail
        refine bodyPost_ret (v := .int .i64 (y - o)) (by simp [results, Tryz.results36, go_sem]) rfl ⟨?_, B3.out⟩
        rw [HC.out, HY.out, HO.out]
      · have hA' : (x == U) = false := by simpa using hA
        have hA2 : decide (x = U) = false := decide_eq_false hA
        have HN2 : Hid (∀ j, j < k + 1 → (f j).1 ≠ U) := Lib.hid (fun j hj => by
          rcases (show j < k ∨ j = k by omega) with h | rfl
          · exact HN.out j h
          · rw [HX.out]; exact hA)
        go_wp2_with fail
        go_roundw
        case rel => exact ⟨k + 1, by omega, by go_num, HN2, trivial⟩
        case measure => simp [intOf]; omega
    · obtain rfl : k = n := by omega
      have hki : ¬ (k : Int) < k := by omega
      have HC := Lib.hid (cha_none (B := B) (u := u) (fun j hj => by rw [HU.out]; exact HN.out j hj))
      go_wp2_with fail
      refine bodyPost_ret (v := .int .i64 0) (by simp [results, Tryz.results36, go_sem]) rfl ⟨?_, (by rw [← hG]; exact B0.out)⟩
      rw [HC.out]

structure Lp.Lr (w v : World) (G : Nat) (B E : Int) (a : Option Addr) (n c : Nat) (f : Nat → Int × Int) : Prop where
  box : TBx v G B E a n c
  lrd : LRd v v.heap.size a n f
  bel : Below w.heap.size w v
theorem Lp.Lr.below {w v v' : World} {G : Nat} {B E : Int} {a : Option Addr} {n c : Nat} {f : Nat → Int × Int} (h : Lr w v G B E a n c f) (hb : Below v.heap.size v v') : Lr w v' G B E a n c f :=
  ⟨h.box.below hb h.box.lt, (h.lrd.below hb).mono hb.size, h.bel.trans (hb.mono h.bel.size)⟩
theorem Lp.lr_new (w : World) (B E : Int) (a : Option Addr) (n c : Nat) (f : Nat → Int × Int) (hr : LRd w w.heap.size a n f) :
    Lr w (w.alloc (.cells #[.int .i64 B, .int .i64 E, .slice a n c] 24)) w.heap.size B E a n c f := by
  have hb : Below w.heap.size w (w.alloc (.cells #[.int .i64 B, .int .i64 E, .slice a n c] 24)) := (Below.refl _ _).alloc (Nat.le_refl _) _
  exact ⟨tbx_new _ _ _ _ _ _, (hr.below hb).mono hb.size, hb⟩
theorem rchk_v {B E : Int} {a : Option Addr} {n c : Nat} {f : Nat → Int × Int} {y : Int} (h : chkL B E f n = y) (w : World) (hr : LRd w w.heap.size a n f) :
    Calls Tryz.prog 13 #[.agg #[.int .i64 B, .int .i64 E, .slice a n c]] w fun e w' => e = .returned (.int .i64 y) ∧ Below w.heap.size w w' := by
  subst h; exact rchk_any B E a n c f w hr

set_option maxRecDepth 100000 in
theorem rtai_bad_true (B E : Int) (a : Option Addr) (n c : Nat) (f : Nat → Int × Int) (u : Int) (w : World) (hr : LRd w w.heap.size a n f) (h : chkL B E f n ≠ 0) :
    Calls Tryz.prog 15 #[.agg #[.int .i64 B, .int .i64 E, .slice a n c], .int .i64 u, .bool true] w fun e w' => e = .returned (.tuple #[.int .i64 (taiV B E f n u true), .int .i64 (taiE B E f n u true)]) ∧ Below w.heap.size w w' := by
  obtain ⟨y, hy⟩ : ∃ y, chkL B E f n = y := ⟨_, rfl⟩
  have HY := Lib.hid hy
  have HE : Hid (taiE B E f n u true = y) := Lib.hid (by unfold taiE; rw [if_pos h, hy])
  have p0 := h
  rw [hy] at p0
  have p1 : decide (y = 0) = false := decide_eq_false p0
  have p2 : (y == 0) = false := by simpa using p0
  have p3 : (y != 0) = true := by simp [bne, p2]
  have HP := Lib.hid p0
  clear hy h p0
  have S0' := Lib.hid (lr_new w B E a n c f hr)
  clear hr
  obtain ⟨G, hG⟩ : ∃ G, w.heap.size = G := ⟨_, rfl⟩
  obtain ⟨v0, hv0⟩ : ∃ v, w.alloc (.cells #[.int .i64 B, .int .i64 E, .slice a n c] 24) = v := ⟨_, rfl⟩
  have S0 : Hid (Lr w v0 G B E a n c f) := Lib.hid (by rw [← hv0, ← hG]; exact S0'.out)
  clear S0'
  obtain ⟨t0, t1, t2⟩ := S0.out.box.cells
  go_enter Tryz.func15, Tryz.ntmps15
  go_wp2_with fail
  clear hv0
  refine (rchk_v HY.out v0 S0.out.lrd).mono ?_
  rintro e v1 ⟨rfl, hbl⟩
  have S1 := Lib.hid (S0.out.below hbl)
  clear hbl S0 t0 t1 t2
  obtain ⟨t0, t1, t2⟩ := S1.out.box.cells
  go_wp2_with fail
  go_ret2
  exact ⟨tai_bad HE.out HP.out, S1.out.bel⟩

set_option maxRecDepth 100000 in
theorem rtai_out_true (B E : Int) (a : Option Addr) (n c : Nat) (f : Nat → Int × Int) (u : Int) (w : World) (hr : LRd w w.heap.size a n f) (hz : chkL B E f n = 0) (hi : inS u = false) :
    Calls Tryz.prog 15 #[.agg #[.int .i64 B, .int .i64 E, .slice a n c], .int .i64 u, .bool true] w fun e w' => e = .returned (.tuple #[.int .i64 (taiV B E f n u true), .int .i64 (taiE B E f n u true)]) ∧ Below w.heap.size w w' := by
  have HY := Lib.hid hz
  have hv := val_of hz
  have HV := Lib.hid hv
  have HE : Hid (taiE B E f n u true = 3) := Lib.hid (by unfold taiE; rw [if_neg (fun k => k hz), if_pos hi])
  have HI := Lib.hid (show decide (-8000000000 ≤ u ∧ u ≤ 8000000000) = false from hi)
  clear hz hv hi
  have S0' := Lib.hid (lr_new w B E a n c f hr)
  clear hr
  obtain ⟨G, hG⟩ : ∃ G, w.heap.size = G := ⟨_, rfl⟩
  obtain ⟨v0, hv0⟩ : ∃ v, w.alloc (.cells #[.int .i64 B, .int .i64 E, .slice a n c] 24) = v := ⟨_, rfl⟩
  have S0 : Hid (Lr w v0 G B E a n c f) := Lib.hid (by rw [← hv0, ← hG]; exact S0'.out)
  clear S0'
  obtain ⟨t0, t1, t2⟩ := S0.out.box.cells
  go_enter Tryz.func15, Tryz.ntmps15
  go_wp2_with fail
  clear hv0
  refine (rchk_v HY.out v0 S0.out.lrd).mono ?_
  rintro e v1 ⟨rfl, hbl⟩
  have S1 := Lib.hid (S0.out.below hbl)
  clear hbl S0 t0 t1 t2
  obtain ⟨t0, t1, t2⟩ := S1.out.box.cells
  go_wp2_with fail
  refine (rin_sec u v1 false HI.out).mono ?_
  rintro e w' ⟨rfl, hw'⟩; subst w'
  go_wp2_with fail
  go_ret2
  exact ⟨tai_bad HE.out (by decide), S1.out.bel⟩

set_option maxRecDepth 100000 in
theorem rtai_err_true (B E : Int) (a : Option Addr) (n c : Nat) (f : Nat → Int × Int) (u : Int) (w : World) (hr : LRd w w.heap.size a n f) (hz : chkL B E f n = 0) (hi : inS u = true) (hc : chaU B f n u ≠ 1) :
    Calls Tryz.prog 15 #[.agg #[.int .i64 B, .int .i64 E, .slice a n c], .int .i64 u, .bool true] w fun e w' => e = .returned (.tuple #[.int .i64 (taiV B E f n u true), .int .i64 (taiE B E f n u true)]) ∧ Below w.heap.size w w' := by
  have HY := Lib.hid hz
  have hv := val_of hz
  have HV := Lib.hid hv
  have HE : Hid (taiE B E f n u true = 11) := Lib.hid (by unfold taiE; rw [if_neg (fun k => k hz), if_neg (by rw [hi]; decide), if_pos (show (if true = true then chaU B f n u ≠ 1 else chaU B f n u = -1) from by rw [if_pos rfl]; exact hc)])
  have HI := Lib.hid (show decide (-8000000000 ≤ u ∧ u ≤ 8000000000) = true from hi)
  have ub : -8000000000 ≤ u ∧ u ≤ 8000000000 := of_decide_eq_true hi
  obtain ⟨ub0, ub1⟩ := ub
  obtain ⟨y, hy⟩ : ∃ y, chaU B f n u = y := ⟨_, rfl⟩
  have HC := Lib.hid hy
  rw [hy] at hc
  have d1 : decide (y = 1) = false := decide_eq_false hc
  have d2 : (y == 1) = false := by simpa using hc
  have d3 : (y != 1) = true := by simp [bne, d2]
  clear hz hv hi hy hc
  have S0' := Lib.hid (lr_new w B E a n c f hr)
  clear hr
  obtain ⟨G, hG⟩ : ∃ G, w.heap.size = G := ⟨_, rfl⟩
  obtain ⟨v0, hv0⟩ : ∃ v, w.alloc (.cells #[.int .i64 B, .int .i64 E, .slice a n c] 24) = v := ⟨_, rfl⟩
  have S0 : Hid (Lr w v0 G B E a n c f) := Lib.hid (by rw [← hv0, ← hG]; exact S0'.out)
  clear S0'
  obtain ⟨t0, t1, t2⟩ := S0.out.box.cells
  go_enter Tryz.func15, Tryz.ntmps15
  go_wp2_with fail
  clear hv0
  refine (rchk_v HY.out v0 S0.out.lrd).mono ?_
  rintro e v1 ⟨rfl, hbl⟩
  have S1 := Lib.hid (S0.out.below hbl)
  clear hbl S0 t0 t1 t2
  obtain ⟨t0, t1, t2⟩ := S1.out.box.cells
  go_wp2_with fail
  refine (rin_sec u v1 true HI.out).mono ?_
  rintro e w' ⟨rfl, hw'⟩; subst w'
  go_wp2_with fail
  refine (rchange_any B E a n c f u v1 S1.out.lrd HV.out).mono ?_
  rintro e v2 ⟨rfl, hbl⟩
  rw [HC.out]
  have S2 := Lib.hid (S1.out.below hbl)
  clear hbl S1 t0 t1 t2
  obtain ⟨t0, t1, t2⟩ := S2.out.box.cells
  go_wp2_with fail
  go_ret2
  exact ⟨tai_bad HE.out (by decide), S2.out.bel⟩

set_option maxRecDepth 100000 in
theorem rtai_ok_true (B E : Int) (a : Option Addr) (n c : Nat) (f : Nat → Int × Int) (u : Int) (w : World) (hr : LRd w w.heap.size a n f) (hz : chkL B E f n = 0) (hi : inS u = true) (hc : chaU B f n u = 1) :
    Calls Tryz.prog 15 #[.agg #[.int .i64 B, .int .i64 E, .slice a n c], .int .i64 u, .bool true] w fun e w' => e = .returned (.tuple #[.int .i64 (taiV B E f n u true), .int .i64 (taiE B E f n u true)]) ∧ Below w.heap.size w w' := by
  have HY := Lib.hid hz
  have hv := val_of hz
  have HV := Lib.hid hv
  have he : taiE B E f n u true = 0 := by unfold taiE; rw [if_neg (fun k => k hz), if_neg (by rw [hi]; decide), if_neg (show ¬ (if true = true then chaU B f n u ≠ 1 else chaU B f n u = -1) from by rw [if_pos rfl]; exact fun k => k hc)]
  have ob := hv.bndA (psU_le f n u)
  obtain ⟨o, ho⟩ : ∃ o, offA B f (psU f n u) = o := ⟨_, rfl⟩
  have HO := Lib.hid ho
  have HE := Lib.hid he
  have HVV : Hid (taiV B E f n u true = u + o + 1) := Lib.hid (by unfold taiV; rw [if_pos he, ho, if_pos rfl])
  rw [ho] at ob
  obtain ⟨ob0, ob1⟩ := ob
  have HI := Lib.hid (show decide (-8000000000 ≤ u ∧ u ≤ 8000000000) = true from hi)
  have ub : -8000000000 ≤ u ∧ u ≤ 8000000000 := of_decide_eq_true hi
  obtain ⟨ub0, ub1⟩ := ub
  obtain ⟨y, hy⟩ : ∃ y, chaU B f n u = y := ⟨_, rfl⟩
  have HC := Lib.hid hy
  rw [hy] at hc
  have d1 : decide (y = 1) = true := decide_eq_true hc
  have d2 : (y == 1) = true := by simpa using hc
  have d3 : (y != 1) = false := by simp [bne, d2]
  clear hz hv hi hy hc he ho
  have S0' := Lib.hid (lr_new w B E a n c f hr)
  clear hr
  obtain ⟨G, hG⟩ : ∃ G, w.heap.size = G := ⟨_, rfl⟩
  obtain ⟨v0, hv0⟩ : ∃ v, w.alloc (.cells #[.int .i64 B, .int .i64 E, .slice a n c] 24) = v := ⟨_, rfl⟩
  have S0 : Hid (Lr w v0 G B E a n c f) := Lib.hid (by rw [← hv0, ← hG]; exact S0'.out)
  clear S0'
  obtain ⟨t0, t1, t2⟩ := S0.out.box.cells
  go_enter Tryz.func15, Tryz.ntmps15
  go_wp2_with fail
  clear hv0
  refine (rchk_v HY.out v0 S0.out.lrd).mono ?_
  rintro e v1 ⟨rfl, hbl⟩
  have S1 := Lib.hid (S0.out.below hbl)
  clear hbl S0 t0 t1 t2
  obtain ⟨t0, t1, t2⟩ := S1.out.box.cells
  go_wp2_with fail
  refine (rin_sec u v1 true HI.out).mono ?_
  rintro e w' ⟨rfl, hw'⟩; subst w'
  go_wp2_with fail
  refine (rchange_any B E a n c f u v1 S1.out.lrd HV.out).mono ?_
  rintro e v2 ⟨rfl, hbl⟩
  rw [HC.out]
  have S2 := Lib.hid (S1.out.below hbl)
  clear hbl S1 t0 t1 t2
  obtain ⟨t0, t1, t2⟩ := S2.out.box.cells
  go_wp2_with fail
  refine (roffu_any B E a n c f u v2 S2.out.lrd HV.out).mono ?_
  rintro e v3 ⟨rfl, hbl⟩
  rw [HO.out]
  have S3 := Lib.hid (S2.out.below hbl)
  clear hbl S2 t0 t1 t2
  obtain ⟨t0, t1, t2⟩ := S3.out.box.cells
  go_wp2_with fail
  go_ret2
  rw [HVV.out, HE.out]
  exact ⟨rfl, S3.out.bel⟩

set_option maxRecDepth 100000 in
theorem rtai_bad_false (B E : Int) (a : Option Addr) (n c : Nat) (f : Nat → Int × Int) (u : Int) (w : World) (hr : LRd w w.heap.size a n f) (h : chkL B E f n ≠ 0) :
    Calls Tryz.prog 15 #[.agg #[.int .i64 B, .int .i64 E, .slice a n c], .int .i64 u, .bool false] w fun e w' => e = .returned (.tuple #[.int .i64 (taiV B E f n u false), .int .i64 (taiE B E f n u false)]) ∧ Below w.heap.size w w' := by
  obtain ⟨y, hy⟩ : ∃ y, chkL B E f n = y := ⟨_, rfl⟩
  have HY := Lib.hid hy
  have HE : Hid (taiE B E f n u false = y) := Lib.hid (by unfold taiE; rw [if_pos h, hy])
  have p0 := h
  rw [hy] at p0
  have p1 : decide (y = 0) = false := decide_eq_false p0
  have p2 : (y == 0) = false := by simpa using p0
  have p3 : (y != 0) = true := by simp [bne, p2]
  have HP := Lib.hid p0
  clear hy h p0
  have S0' := Lib.hid (lr_new w B E a n c f hr)
  clear hr
  obtain ⟨G, hG⟩ : ∃ G, w.heap.size = G := ⟨_, rfl⟩
  obtain ⟨v0, hv0⟩ : ∃ v, w.alloc (.cells #[.int .i64 B, .int .i64 E, .slice a n c] 24) = v := ⟨_, rfl⟩
  have S0 : Hid (Lr w v0 G B E a n c f) := Lib.hid (by rw [← hv0, ← hG]; exact S0'.out)
  clear S0'
  obtain ⟨t0, t1, t2⟩ := S0.out.box.cells
  go_enter Tryz.func15, Tryz.ntmps15
  go_wp2_with fail
  clear hv0
  refine (rchk_v HY.out v0 S0.out.lrd).mono ?_
  rintro e v1 ⟨rfl, hbl⟩
  have S1 := Lib.hid (S0.out.below hbl)
  clear hbl S0 t0 t1 t2
  obtain ⟨t0, t1, t2⟩ := S1.out.box.cells
  go_wp2_with fail
  go_ret2
  exact ⟨tai_bad HE.out HP.out, S1.out.bel⟩

set_option maxRecDepth 100000 in
theorem rtai_out_false (B E : Int) (a : Option Addr) (n c : Nat) (f : Nat → Int × Int) (u : Int) (w : World) (hr : LRd w w.heap.size a n f) (hz : chkL B E f n = 0) (hi : inS u = false) :
    Calls Tryz.prog 15 #[.agg #[.int .i64 B, .int .i64 E, .slice a n c], .int .i64 u, .bool false] w fun e w' => e = .returned (.tuple #[.int .i64 (taiV B E f n u false), .int .i64 (taiE B E f n u false)]) ∧ Below w.heap.size w w' := by
  have HY := Lib.hid hz
  have hv := val_of hz
  have HV := Lib.hid hv
  have HE : Hid (taiE B E f n u false = 3) := Lib.hid (by unfold taiE; rw [if_neg (fun k => k hz), if_pos hi])
  have HI := Lib.hid (show decide (-8000000000 ≤ u ∧ u ≤ 8000000000) = false from hi)
  clear hz hv hi
  have S0' := Lib.hid (lr_new w B E a n c f hr)
  clear hr
  obtain ⟨G, hG⟩ : ∃ G, w.heap.size = G := ⟨_, rfl⟩
  obtain ⟨v0, hv0⟩ : ∃ v, w.alloc (.cells #[.int .i64 B, .int .i64 E, .slice a n c] 24) = v := ⟨_, rfl⟩
  have S0 : Hid (Lr w v0 G B E a n c f) := Lib.hid (by rw [← hv0, ← hG]; exact S0'.out)
  clear S0'
  obtain ⟨t0, t1, t2⟩ := S0.out.box.cells
  go_enter Tryz.func15, Tryz.ntmps15
  go_wp2_with fail
  clear hv0
  refine (rchk_v HY.out v0 S0.out.lrd).mono ?_
  rintro e v1 ⟨rfl, hbl⟩
  have S1 := Lib.hid (S0.out.below hbl)
  clear hbl S0 t0 t1 t2
  obtain ⟨t0, t1, t2⟩ := S1.out.box.cells
  go_wp2_with fail
  refine (rin_sec u v1 false HI.out).mono ?_
  rintro e w' ⟨rfl, hw'⟩; subst w'
  go_wp2_with fail
  go_ret2
  exact ⟨tai_bad HE.out (by decide), S1.out.bel⟩

set_option maxRecDepth 100000 in
theorem rtai_err_false (B E : Int) (a : Option Addr) (n c : Nat) (f : Nat → Int × Int) (u : Int) (w : World) (hr : LRd w w.heap.size a n f) (hz : chkL B E f n = 0) (hi : inS u = true) (hc : chaU B f n u = -1) :
    Calls Tryz.prog 15 #[.agg #[.int .i64 B, .int .i64 E, .slice a n c], .int .i64 u, .bool false] w fun e w' => e = .returned (.tuple #[.int .i64 (taiV B E f n u false), .int .i64 (taiE B E f n u false)]) ∧ Below w.heap.size w w' := by
  have HY := Lib.hid hz
  have hv := val_of hz
  have HV := Lib.hid hv
  have HE : Hid (taiE B E f n u false = 11) := Lib.hid (by unfold taiE; rw [if_neg (fun k => k hz), if_neg (by rw [hi]; decide), if_pos (show (if false = true then chaU B f n u ≠ 1 else chaU B f n u = -1) from by rw [if_neg (by decide)]; exact hc)])
  have HI := Lib.hid (show decide (-8000000000 ≤ u ∧ u ≤ 8000000000) = true from hi)
  have ub : -8000000000 ≤ u ∧ u ≤ 8000000000 := of_decide_eq_true hi
  obtain ⟨ub0, ub1⟩ := ub
  obtain ⟨y, hy⟩ : ∃ y, chaU B f n u = y := ⟨_, rfl⟩
  have HC := Lib.hid hy
  rw [hy] at hc
  have d1 : decide (y = -1) = true := decide_eq_true hc
  have d2 : (y == -1) = true := by simpa using hc
  clear hz hv hi hy hc
  have S0' := Lib.hid (lr_new w B E a n c f hr)
  clear hr
  obtain ⟨G, hG⟩ : ∃ G, w.heap.size = G := ⟨_, rfl⟩
  obtain ⟨v0, hv0⟩ : ∃ v, w.alloc (.cells #[.int .i64 B, .int .i64 E, .slice a n c] 24) = v := ⟨_, rfl⟩
  have S0 : Hid (Lr w v0 G B E a n c f) := Lib.hid (by rw [← hv0, ← hG]; exact S0'.out)
  clear S0'
  obtain ⟨t0, t1, t2⟩ := S0.out.box.cells
  go_enter Tryz.func15, Tryz.ntmps15
  go_wp2_with fail
  clear hv0
  refine (rchk_v HY.out v0 S0.out.lrd).mono ?_
  rintro e v1 ⟨rfl, hbl⟩
  have S1 := Lib.hid (S0.out.below hbl)
  clear hbl S0 t0 t1 t2
  obtain ⟨t0, t1, t2⟩ := S1.out.box.cells
  go_wp2_with fail
  refine (rin_sec u v1 true HI.out).mono ?_
  rintro e w' ⟨rfl, hw'⟩; subst w'
  go_wp2_with fail
  refine (rchange_any B E a n c f u v1 S1.out.lrd HV.out).mono ?_
  rintro e v2 ⟨rfl, hbl⟩
  rw [HC.out]
  have S2 := Lib.hid (S1.out.below hbl)
  clear hbl S1 t0 t1 t2
  obtain ⟨t0, t1, t2⟩ := S2.out.box.cells
  go_wp2_with fail
  go_ret2
  exact ⟨tai_bad HE.out (by decide), S2.out.bel⟩

set_option maxRecDepth 100000 in
theorem rtai_ok_false (B E : Int) (a : Option Addr) (n c : Nat) (f : Nat → Int × Int) (u : Int) (w : World) (hr : LRd w w.heap.size a n f) (hz : chkL B E f n = 0) (hi : inS u = true) (hc : ¬ chaU B f n u = -1) :
    Calls Tryz.prog 15 #[.agg #[.int .i64 B, .int .i64 E, .slice a n c], .int .i64 u, .bool false] w fun e w' => e = .returned (.tuple #[.int .i64 (taiV B E f n u false), .int .i64 (taiE B E f n u false)]) ∧ Below w.heap.size w w' := by
  have HY := Lib.hid hz
  have hv := val_of hz
  have HV := Lib.hid hv
  have he : taiE B E f n u false = 0 := by unfold taiE; rw [if_neg (fun k => k hz), if_neg (by rw [hi]; decide), if_neg (show ¬ (if false = true then chaU B f n u ≠ 1 else chaU B f n u = -1) from by rw [if_neg (by decide)]; exact hc)]
  have ob := hv.bndA (psU_le f n u)
  obtain ⟨o, ho⟩ : ∃ o, offA B f (psU f n u) = o := ⟨_, rfl⟩
  have HO := Lib.hid ho
  have HE := Lib.hid he
  have HVV : Hid (taiV B E f n u false = u + o) := Lib.hid (by unfold taiV; rw [if_pos he, ho, if_neg (by decide)]; omega)
  rw [ho] at ob
  obtain ⟨ob0, ob1⟩ := ob
  have HI := Lib.hid (show decide (-8000000000 ≤ u ∧ u ≤ 8000000000) = true from hi)
  have ub : -8000000000 ≤ u ∧ u ≤ 8000000000 := of_decide_eq_true hi
  obtain ⟨ub0, ub1⟩ := ub
  obtain ⟨y, hy⟩ : ∃ y, chaU B f n u = y := ⟨_, rfl⟩
  have HC := Lib.hid hy
  rw [hy] at hc
  have d1 : decide (y = -1) = false := decide_eq_false hc
  have d2 : (y == -1) = false := by simpa using hc
  clear hz hv hi hy hc he ho
  have S0' := Lib.hid (lr_new w B E a n c f hr)
  clear hr
  obtain ⟨G, hG⟩ : ∃ G, w.heap.size = G := ⟨_, rfl⟩
  obtain ⟨v0, hv0⟩ : ∃ v, w.alloc (.cells #[.int .i64 B, .int .i64 E, .slice a n c] 24) = v := ⟨_, rfl⟩
  have S0 : Hid (Lr w v0 G B E a n c f) := Lib.hid (by rw [← hv0, ← hG]; exact S0'.out)
  clear S0'
  obtain ⟨t0, t1, t2⟩ := S0.out.box.cells
  go_enter Tryz.func15, Tryz.ntmps15
  go_wp2_with fail
  clear hv0
  refine (rchk_v HY.out v0 S0.out.lrd).mono ?_
  rintro e v1 ⟨rfl, hbl⟩
  have S1 := Lib.hid (S0.out.below hbl)
  clear hbl S0 t0 t1 t2
  obtain ⟨t0, t1, t2⟩ := S1.out.box.cells
  go_wp2_with fail
  refine (rin_sec u v1 true HI.out).mono ?_
  rintro e w' ⟨rfl, hw'⟩; subst w'
  go_wp2_with fail
  refine (rchange_any B E a n c f u v1 S1.out.lrd HV.out).mono ?_
  rintro e v2 ⟨rfl, hbl⟩
  rw [HC.out]
  have S2 := Lib.hid (S1.out.below hbl)
  clear hbl S1 t0 t1 t2
  obtain ⟨t0, t1, t2⟩ := S2.out.box.cells
  go_wp2_with fail
  refine (roffu_any B E a n c f u v2 S2.out.lrd HV.out).mono ?_
  rintro e v3 ⟨rfl, hbl⟩
  rw [HO.out]
  have S3 := Lib.hid (S2.out.below hbl)
  clear hbl S2 t0 t1 t2
  obtain ⟨t0, t1, t2⟩ := S3.out.box.cells
  go_wp2_with fail
  go_ret2
  rw [HVV.out, HE.out]
  exact ⟨rfl, S3.out.bel⟩
theorem rtai_any (B E : Int) (a : Option Addr) (n c : Nat) (f : Nat → Int × Int) (u : Int) (w : World) (hr : LRd w w.heap.size a n f) (x : Bool) :
    Calls Tryz.prog 15 #[.agg #[.int .i64 B, .int .i64 E, .slice a n c], .int .i64 u, .bool x] w fun e w' => e = .returned (.tuple #[.int .i64 (taiV B E f n u x), .int .i64 (taiE B E f n u x)]) ∧ Below w.heap.size w w' := by
  by_cases hz : chkL B E f n = 0
  · cases hi : inS u
    · cases x
      · exact rtai_out_false B E a n c f u w hr hz hi
      · exact rtai_out_true B E a n c f u w hr hz hi
    · cases x
      · by_cases hc : chaU B f n u = -1
        · exact rtai_err_false B E a n c f u w hr hz hi hc
        · exact rtai_ok_false B E a n c f u w hr hz hi hc
      · by_cases hc : chaU B f n u = 1
        · exact rtai_ok_true B E a n c f u w hr hz hi hc
        · exact rtai_err_true B E a n c f u w hr hz hi hc
  · cases x
    · exact rtai_bad_false B E a n c f u w hr hz
    · exact rtai_bad_true B E a n c f u w hr hz
theorem rtai_v {B E : Int} {a : Option Addr} {n c : Nat} {f : Nat → Int × Int} {u q V Z : Int} {x : Bool} (hq : q = u) (hV : taiV B E f n u x = V) (hE : taiE B E f n u x = Z) (w : World) (hr : LRd w w.heap.size a n f) :
    Calls Tryz.prog 15 #[.agg #[.int .i64 B, .int .i64 E, .slice a n c], .int .i64 q, .bool x] w fun e w' => e = .returned (.tuple #[.int .i64 V, .int .i64 Z]) ∧ Below w.heap.size w w' := by
  subst hq hV hE; exact rtai_any B E a n c f _ w hr x

/-- No label with the offset behind j entries has this second. -/
def Lp.Fl (B E : Int) (f : Nat → Int × Int) (n : Nat) (t : Int) (j : Nat) : Prop :=
  (taiE B E f n (t - offA B f j) false = 0 → taiV B E f n (t - offA B f j) false ≠ t) ∧ (taiE B E f n (t - offA B f j - 1) true = 0 → taiV B E f n (t - offA B f j - 1) true ≠ t)
theorem Lp.ut_none {B E : Int} {f : Nat → Int × Int} {n : Nat} {t : Int} (hz : chkL B E f n = 0) (h : ∀ j, j < n + 1 → Fl B E f n t j) : utE B E f n t = 3 := by
  rcases Int.decEq (utE B E f n t) 0 with k | k
  · unfold utE at k ⊢
    rw [if_neg (fun q => q hz)] at k ⊢
    split at k
    · exact absurd rfl k
    · rename_i hh; rw [if_neg hh]
  · exfalso
    obtain ⟨h1, h2⟩ := ut_tai k
    obtain ⟨f1, f2⟩ := h (psT f n t) (by have := psT_le f n t; omega)
    have hU : utV B E f n t = t - offA B f (psT f n t) - (if utX B f n t = true then 1 else 0) := by unfold utV utU; rw [if_pos k]
    have hP : utP B E f n t = utX B f n t := by unfold utP; rw [if_pos k]
    cases hx : utX B f n t
    · rw [hx, if_neg (by decide)] at hU
      rw [hP, hx, hU, show t - offA B f (psT f n t) - 0 = t - offA B f (psT f n t) by omega] at h1 h2
      exact f1 h1 h2
    · rw [hx, if_pos rfl] at hU
      rw [hP, hx, hU] at h1 h2
      exact f2 h1 h2
theorem Lp.ut_far {B E : Int} {f : Nat → Int × Int} {n : Nat} {t : Int} (hz : chkL B E f n = 0) (h : ¬ (-8000002000 ≤ t ∧ t ≤ 8000002000)) : utE B E f n t = 3 := by
  have ob := (val_of hz).bndA (psT_le f n t)
  unfold utE
  rw [if_neg (fun q => q hz), if_neg]
  intro k
  have hb : -8000000000 ≤ utU B f n t ∧ utU B f n t ≤ 8000000000 := of_decide_eq_true k.2
  unfold utU at hb
  split at hb <;> omega
theorem Lp.ut_hit {B E : Int} {f : Nat → Int × Int} {n : Nat} {t q : Int} {x : Bool} (h : taiE B E f n q x = 0) (h2 : taiV B E f n q x = t) : utE B E f n t = 0 ∧ utV B E f n t = q ∧ utP B E f n t = x := by
  have := tai_ut h
  rwa [h2] at this
theorem rin_far (x : Int) (w : World) (v : Bool) (h : decide (-8000002000 ≤ x ∧ x ≤ 8000002000) = v) : Calls Tryz.prog 29 #[.int .i64 x, .int .i64 8000002000] w fun e w' => e = .returned (.bool v) ∧ w' = w := by
  subst h; exact rin_any x 8000002000 w (by decide) (by decide)

set_option maxRecDepth 100000 in
theorem rutc_bad (B E : Int) (a : Option Addr) (n c : Nat) (f : Nat → Int × Int) (t : Int) (w : World) (hr : LRd w w.heap.size a n f) (h : chkL B E f n ≠ 0) :
    Calls Tryz.prog 17 #[.agg #[.int .i64 B, .int .i64 E, .slice a n c], .int .i64 t] w fun e w' => e = .returned (.tuple #[.int .i64 (utV B E f n t), .bool (utP B E f n t), .int .i64 (utE B E f n t)]) ∧ Below w.heap.size w w' := by
  obtain ⟨y, hy⟩ : ∃ y, chkL B E f n = y := ⟨_, rfl⟩
  have HY := Lib.hid hy
  have HE : Hid (utE B E f n t = y) := Lib.hid (by unfold utE; rw [if_pos h, hy])
  have p0 := h
  rw [hy] at p0
  have p1 : decide (y = 0) = false := decide_eq_false p0
  have p2 : (y == 0) = false := by simpa using p0
  have p3 : (y != 0) = true := by simp [bne, p2]
  have HP := Lib.hid p0
  clear hy h p0
  have S0' := Lib.hid (lr_new w B E a n c f hr)
  clear hr
  obtain ⟨G, hG⟩ : ∃ G, w.heap.size = G := ⟨_, rfl⟩
  obtain ⟨v0, hv0⟩ : ∃ v, w.alloc (.cells #[.int .i64 B, .int .i64 E, .slice a n c] 24) = v := ⟨_, rfl⟩
  have S0 : Hid (Lr w v0 G B E a n c f) := Lib.hid (by rw [← hv0, ← hG]; exact S0'.out)
  clear S0'
  obtain ⟨t0, t1, t2⟩ := S0.out.box.cells
  go_enter Tryz.func17, Tryz.ntmps17
  go_wp2_with fail
  clear hv0
  refine (rchk_v HY.out v0 S0.out.lrd).mono ?_
  rintro e v1 ⟨rfl, hbl⟩
  have S1 := Lib.hid (S0.out.below hbl)
  clear hbl S0 t0 t1 t2
  obtain ⟨t0, t1, t2⟩ := S1.out.box.cells
  go_wp2_with fail
  refine bodyPost_ret (v := .tuple #[.int .i64 0, .bool false, .int .i64 y]) (by simp [results, Tryz.results17, go_sem]) rfl ⟨?_, S1.out.bel⟩
  exact ut_bad HE.out HP.out

set_option maxRecDepth 100000 in
theorem rutc_far (B E : Int) (a : Option Addr) (n c : Nat) (f : Nat → Int × Int) (t : Int) (w : World) (hr : LRd w w.heap.size a n f) (hz : chkL B E f n = 0) (hi : ¬ (-8000002000 ≤ t ∧ t ≤ 8000002000)) :
    Calls Tryz.prog 17 #[.agg #[.int .i64 B, .int .i64 E, .slice a n c], .int .i64 t] w fun e w' => e = .returned (.tuple #[.int .i64 (utV B E f n t), .bool (utP B E f n t), .int .i64 (utE B E f n t)]) ∧ Below w.heap.size w w' := by
  have HY := Lib.hid hz
  have HE := Lib.hid (ut_far hz hi)
  have HI := Lib.hid (decide_eq_false hi)
  clear hz hi
  have S0' := Lib.hid (lr_new w B E a n c f hr)
  clear hr
  obtain ⟨G, hG⟩ : ∃ G, w.heap.size = G := ⟨_, rfl⟩
  obtain ⟨v0, hv0⟩ : ∃ v, w.alloc (.cells #[.int .i64 B, .int .i64 E, .slice a n c] 24) = v := ⟨_, rfl⟩
  have S0 : Hid (Lr w v0 G B E a n c f) := Lib.hid (by rw [← hv0, ← hG]; exact S0'.out)
  clear S0'
  obtain ⟨t0, t1, t2⟩ := S0.out.box.cells
  go_enter Tryz.func17, Tryz.ntmps17
  go_wp2_with fail
  clear hv0
  refine (rchk_v HY.out v0 S0.out.lrd).mono ?_
  rintro e v1 ⟨rfl, hbl⟩
  have S1 := Lib.hid (S0.out.below hbl)
  clear hbl S0 t0 t1 t2
  obtain ⟨t0, t1, t2⟩ := S1.out.box.cells
  go_wp2_with fail
  refine (rin_far t v1 false HI.out).mono ?_
  rintro e w' ⟨rfl, hw'⟩; subst w'
  go_wp2_with fail
  refine bodyPost_ret (v := .tuple #[.int .i64 0, .bool false, .int .i64 3]) (by simp [results, Tryz.results17, go_sem]) rfl ⟨?_, S1.out.bel⟩
  exact ut_bad HE.out (by decide)

set_option maxRecDepth 100000 in
set_option maxHeartbeats 4000000 in
theorem rutc_loop (B E : Int) (a : Option Addr) (n c : Nat) (f : Nat → Int × Int) (t : Int) (w : World) (hr : LRd w w.heap.size a n f) (hz : chkL B E f n = 0) (hi : -8000002000 ≤ t ∧ t ≤ 8000002000) :
    Calls Tryz.prog 17 #[.agg #[.int .i64 B, .int .i64 E, .slice a n c], .int .i64 t] w fun e w' => e = .returned (.tuple #[.int .i64 (utV B E f n t), .bool (utP B E f n t), .int .i64 (utE B E f n t)]) ∧ Below w.heap.size w w' := by
  have HY := Lib.hid hz
  have HV := Lib.hid (val_of hz)
  have hn64 := HV.out.le
  have hnn : (n : Int) ≤ 64 := by omega
  have HI := Lib.hid (decide_eq_true hi)
  obtain ⟨hi0, hi1⟩ := hi
  have bB := HV.out.rng.1
  obtain ⟨bB0, bB1⟩ := bB
  clear hz
  have S0' := Lib.hid (lr_new w B E a n c f hr)
  clear hr
  obtain ⟨G, hG⟩ : ∃ G, w.heap.size = G := ⟨_, rfl⟩
  obtain ⟨v0, hv0⟩ : ∃ v, w.alloc (.cells #[.int .i64 B, .int .i64 E, .slice a n c] 24) = v := ⟨_, rfl⟩
  have S0 : Hid (Lr w v0 G B E a n c f) := Lib.hid (by rw [← hv0, ← hG]; exact S0'.out)
  clear S0'
  obtain ⟨t0, t1, t2⟩ := S0.out.box.cells
  go_enter Tryz.func17, Tryz.ntmps17
  go_wp2_with fail
  clear hv0
  refine (rchk_v HY.out v0 S0.out.lrd).mono ?_
  rintro e v1 ⟨rfl, hbl⟩
  have S1 := Lib.hid (S0.out.below hbl)
  clear hbl S0 t0 t1 t2
  obtain ⟨t0, t1, t2⟩ := S1.out.box.cells
  go_wp2_with fail
  refine (rin_far t v1 true HI.out).mono ?_
  rintro e w' ⟨rfl, hw'⟩; subst w'
  go_wp2_with fail
  go_loopw [8] (fun iv wr => ∃ (k : Nat) (I : Int), k ≤ n + 1 ∧ I = (k : Int) - 1 ∧ iv = .int .i64 I ∧ Hid (∀ j, j < k → Fl B E f n t j) ∧ Hid (Lr w wr G B E a n c f)) (fun iv _ => n + 1 - (intOf iv + 1).toNat)
  case atStart => exact ⟨0, -1, by omega, by omega, rfl, Lib.hid (fun j h => by omega), S1⟩
  case round =>
    clear S1 t0 t1 t2
    obtain ⟨k, I, hk, hI, rfl, HF, SR⟩ := hrel
    obtain ⟨t0, t1, t2⟩ := SR.out.box.cells
    by_cases hlt : k < n + 1
    · cases k with
      | zero =>
        obtain rfl : I = -1 := by omega
        clear hI hk
        have hki : (-1 : Int) < n := by omega
        have HO : Hid (offA B f 0 = B) := Lib.hid rfl
        obtain ⟨o, ho⟩ : ∃ o, B = o := ⟨_, rfl⟩
        subst ho
        obtain ⟨V1, hV1⟩ : ∃ V, taiV B E f n (t - B) false = V := ⟨_, rfl⟩
        obtain ⟨Z1, hZ1⟩ : ∃ V, taiE B E f n (t - B) false = V := ⟨_, rfl⟩
        obtain ⟨V2, hV2⟩ : ∃ V, taiV B E f n (t - B - 1) true = V := ⟨_, rfl⟩
        obtain ⟨Z2, hZ2⟩ : ∃ V, taiE B E f n (t - B - 1) true = V := ⟨_, rfl⟩
        have HV1 := Lib.hid hV1
        have HZ1 := Lib.hid hZ1
        have HV2 := Lib.hid hV2
        have HZ2 := Lib.hid hZ2
        clear hV1 hZ1 hV2 hZ2
        by_cases a1 : Z1 = 0
        · subst a1
          by_cases b1 : V1 = t
          · have HV1 : Hid (taiV B E f n (t - B) false = t) := Lib.hid (HV1.out.trans b1)
            clear b1
            go_wp2_with fail
            refine (rtai_v (u := t - B) (by omega) HV1.out HZ1.out wr SR.out.lrd).mono ?_
            rintro e v1 ⟨rfl, hbl⟩
            have S1 := Lib.hid (SR.out.below hbl)
            clear hbl SR t0 t1 t2
            obtain ⟨t0, t1, t2⟩ := S1.out.box.cells
            have HH := Lib.hid (ut_hit HZ1.out HV1.out)
            go_wp2_with fail
            refine bodyPost_ret (v := .tuple #[.int .i64 (t - B), .bool false, .int .i64 0]) (by simp [results, Tryz.results17, go_sem]) rfl ⟨?_, (by first | exact S1.out.bel | (rw [← hG]; exact S1.out.bel))⟩
            rw [HH.out.1, HH.out.2.1, HH.out.2.2]
          · have c0 : decide (V1 = t) = false := decide_eq_false b1
            have c1 : (V1 == t) = false := by simpa using b1
            by_cases a2 : Z2 = 0
            · subst a2
              by_cases b2 : V2 = t
              · have HV2 : Hid (taiV B E f n (t - B - 1) true = t) := Lib.hid (HV2.out.trans b2)
                clear b2
                go_wp2_with fail
                refine (rtai_v (u := t - B) (by omega) HV1.out HZ1.out wr SR.out.lrd).mono ?_
                rintro e v1 ⟨rfl, hbl⟩
                have S1 := Lib.hid (SR.out.below hbl)
                clear hbl SR t0 t1 t2
                obtain ⟨t0, t1, t2⟩ := S1.out.box.cells
                go_wp2_with fail
                refine (rtai_v (u := t - B - 1) (by omega) HV2.out HZ2.out v1 S1.out.lrd).mono ?_
                rintro e v2 ⟨rfl, hbl⟩
                have S2 := Lib.hid (S1.out.below hbl)
                clear hbl S1 t0 t1 t2
                obtain ⟨t0, t1, t2⟩ := S2.out.box.cells
                have HH := Lib.hid (ut_hit HZ2.out HV2.out)
                go_wp2_with fail
                refine bodyPost_ret (v := .tuple #[.int .i64 (t - B - 1), .bool true, .int .i64 0]) (by simp [results, Tryz.results17, go_sem]) rfl ⟨?_, (by first | exact S2.out.bel | (rw [← hG]; exact S2.out.bel))⟩
                rw [HH.out.1, HH.out.2.1, HH.out.2.2]
              · have c2 : decide (V2 = t) = false := decide_eq_false b2
                have c3 : (V2 == t) = false := by simpa using b2
                have HF2 : Hid (∀ i, i < 0 + 1 → Fl B E f n t i) := Lib.hid (fun i hi => by
                  rcases (show i < 0 ∨ i = 0 by omega) with h | rfl
                  · exact HF.out i h
                  · exact ⟨fun _ => by rw [HO.out, HV1.out]; exact b1, fun _ => by rw [HO.out, HV2.out]; exact b2⟩)
                go_wp2_with fail
                refine (rtai_v (u := t - B) (by omega) HV1.out HZ1.out wr SR.out.lrd).mono ?_
                rintro e v1 ⟨rfl, hbl⟩
                have S1 := Lib.hid (SR.out.below hbl)
                clear hbl SR t0 t1 t2
                obtain ⟨t0, t1, t2⟩ := S1.out.box.cells
                go_wp2_with fail
                refine (rtai_v (u := t - B - 1) (by omega) HV2.out HZ2.out v1 S1.out.lrd).mono ?_
                rintro e v2 ⟨rfl, hbl⟩
                have S2 := Lib.hid (S1.out.below hbl)
                clear hbl S1 t0 t1 t2
                obtain ⟨t0, t1, t2⟩ := S2.out.box.cells
                go_wp2_with fail
                go_roundw
                case rel => exact ⟨1, 0, by omega, by omega, by go_num, HF2, S2⟩
                case measure => simp [intOf] <;> omega
            · have c2 : decide (Z2 = 0) = false := decide_eq_false a2
              have c3 : (Z2 == 0) = false := by simpa using a2
              have HF2 : Hid (∀ i, i < 0 + 1 → Fl B E f n t i) := Lib.hid (fun i hi => by
                rcases (show i < 0 ∨ i = 0 by omega) with h | rfl
                · exact HF.out i h
                · exact ⟨fun _ => by rw [HO.out, HV1.out]; exact b1, fun h => by rw [HO.out, HZ2.out] at h; exact absurd h a2⟩)
              go_wp2_with fail
              refine (rtai_v (u := t - B) (by omega) HV1.out HZ1.out wr SR.out.lrd).mono ?_
              rintro e v1 ⟨rfl, hbl⟩
              have S1 := Lib.hid (SR.out.below hbl)
              clear hbl SR t0 t1 t2
              obtain ⟨t0, t1, t2⟩ := S1.out.box.cells
              go_wp2_with fail
              refine (rtai_v (u := t - B - 1) (by omega) HV2.out HZ2.out v1 S1.out.lrd).mono ?_
              rintro e v2 ⟨rfl, hbl⟩
              have S2 := Lib.hid (S1.out.below hbl)
              clear hbl S1 t0 t1 t2
              obtain ⟨t0, t1, t2⟩ := S2.out.box.cells
              go_wp2_with fail
              go_roundw
              case rel => exact ⟨1, 0, by omega, by omega, by go_num, HF2, S2⟩
              case measure => simp [intOf] <;> omega
        · have c0 : decide (Z1 = 0) = false := decide_eq_false a1
          have c1 : (Z1 == 0) = false := by simpa using a1
          by_cases a2 : Z2 = 0
          · subst a2
            by_cases b2 : V2 = t
            · have HV2 : Hid (taiV B E f n (t - B - 1) true = t) := Lib.hid (HV2.out.trans b2)
              clear b2
              go_wp2_with fail
              refine (rtai_v (u := t - B) (by omega) HV1.out HZ1.out wr SR.out.lrd).mono ?_
              rintro e v1 ⟨rfl, hbl⟩
              have S1 := Lib.hid (SR.out.below hbl)
              clear hbl SR t0 t1 t2
              obtain ⟨t0, t1, t2⟩ := S1.out.box.cells
              go_wp2_with fail
              refine (rtai_v (u := t - B - 1) (by omega) HV2.out HZ2.out v1 S1.out.lrd).mono ?_
              rintro e v2 ⟨rfl, hbl⟩
              have S2 := Lib.hid (S1.out.below hbl)
              clear hbl S1 t0 t1 t2
              obtain ⟨t0, t1, t2⟩ := S2.out.box.cells
              have HH := Lib.hid (ut_hit HZ2.out HV2.out)
              go_wp2_with fail
              refine bodyPost_ret (v := .tuple #[.int .i64 (t - B - 1), .bool true, .int .i64 0]) (by simp [results, Tryz.results17, go_sem]) rfl ⟨?_, (by first | exact S2.out.bel | (rw [← hG]; exact S2.out.bel))⟩
              rw [HH.out.1, HH.out.2.1, HH.out.2.2]
            · have c2 : decide (V2 = t) = false := decide_eq_false b2
              have c3 : (V2 == t) = false := by simpa using b2
              have HF2 : Hid (∀ i, i < 0 + 1 → Fl B E f n t i) := Lib.hid (fun i hi => by
                rcases (show i < 0 ∨ i = 0 by omega) with h | rfl
                · exact HF.out i h
                · exact ⟨fun h => by rw [HO.out, HZ1.out] at h; exact absurd h a1, fun _ => by rw [HO.out, HV2.out]; exact b2⟩)
              go_wp2_with fail
              refine (rtai_v (u := t - B) (by omega) HV1.out HZ1.out wr SR.out.lrd).mono ?_
              rintro e v1 ⟨rfl, hbl⟩
              have S1 := Lib.hid (SR.out.below hbl)
              clear hbl SR t0 t1 t2
              obtain ⟨t0, t1, t2⟩ := S1.out.box.cells
              go_wp2_with fail
              refine (rtai_v (u := t - B - 1) (by omega) HV2.out HZ2.out v1 S1.out.lrd).mono ?_
              rintro e v2 ⟨rfl, hbl⟩
              have S2 := Lib.hid (S1.out.below hbl)
              clear hbl S1 t0 t1 t2
              obtain ⟨t0, t1, t2⟩ := S2.out.box.cells
              go_wp2_with fail
              go_roundw
              case rel => exact ⟨1, 0, by omega, by omega, by go_num, HF2, S2⟩
              case measure => simp [intOf] <;> omega
          · have c2 : decide (Z2 = 0) = false := decide_eq_false a2
            have c3 : (Z2 == 0) = false := by simpa using a2
            have HF2 : Hid (∀ i, i < 0 + 1 → Fl B E f n t i) := Lib.hid (fun i hi => by
              rcases (show i < 0 ∨ i = 0 by omega) with h | rfl
              · exact HF.out i h
              · exact ⟨fun h => by rw [HO.out, HZ1.out] at h; exact absurd h a1, fun h => by rw [HO.out, HZ2.out] at h; exact absurd h a2⟩)
            go_wp2_with fail
            refine (rtai_v (u := t - B) (by omega) HV1.out HZ1.out wr SR.out.lrd).mono ?_
            rintro e v1 ⟨rfl, hbl⟩
            have S1 := Lib.hid (SR.out.below hbl)
            clear hbl SR t0 t1 t2
            obtain ⟨t0, t1, t2⟩ := S1.out.box.cells
            go_wp2_with fail
            refine (rtai_v (u := t - B - 1) (by omega) HV2.out HZ2.out v1 S1.out.lrd).mono ?_
            rintro e v2 ⟨rfl, hbl⟩
            have S2 := Lib.hid (S1.out.below hbl)
            clear hbl S1 t0 t1 t2
            obtain ⟨t0, t1, t2⟩ := S2.out.box.cells
            go_wp2_with fail
            go_roundw
            case rel => exact ⟨1, 0, by omega, by omega, by go_num, HF2, S2⟩
            case measure => simp [intOf] <;> omega
      | succ j =>
        obtain rfl : I = (j : Int) := by omega
        clear hI
        have hki : (j : Int) < n := by omega
        have hj0 : (0 : Int) ≤ j := by omega
        obtain ⟨b, off, rfl, hbl0, hcell⟩ := SR.out.lrd (by omega)
        obtain ⟨e0, e1⟩ := hcell j (by omega)
        obtain ⟨⟨y0, y1⟩, _⟩ := HV.out.rng.2.2 j (by omega)
        obtain ⟨o, ho⟩ : ∃ o, (f j).2 = o := ⟨_, rfl⟩
        rw [ho] at e1 y0 y1
        have HO : Hid (offA B f (j + 1) = o) := Lib.hid ho
        clear ho e0 hcell hbl0
        obtain ⟨V1, hV1⟩ : ∃ V, taiV B E f n (t - o) false = V := ⟨_, rfl⟩
        obtain ⟨Z1, hZ1⟩ : ∃ V, taiE B E f n (t - o) false = V := ⟨_, rfl⟩
        obtain ⟨V2, hV2⟩ : ∃ V, taiV B E f n (t - o - 1) true = V := ⟨_, rfl⟩
        obtain ⟨Z2, hZ2⟩ : ∃ V, taiE B E f n (t - o - 1) true = V := ⟨_, rfl⟩
        have HV1 := Lib.hid hV1
        have HZ1 := Lib.hid hZ1
        have HV2 := Lib.hid hV2
        have HZ2 := Lib.hid hZ2
        clear hV1 hZ1 hV2 hZ2
        by_cases a1 : Z1 = 0
        · subst a1
          by_cases b1 : V1 = t
          · have HV1 : Hid (taiV B E f n (t - o) false = t) := Lib.hid (HV1.out.trans b1)
            clear b1
            go_wp2_with fail
            refine (rtai_v (u := t - o) (by omega) HV1.out HZ1.out wr SR.out.lrd).mono ?_
            rintro e v1 ⟨rfl, hbl⟩
            have S1 := Lib.hid (SR.out.below hbl)
            clear hbl SR t0 t1 t2
            obtain ⟨t0, t1, t2⟩ := S1.out.box.cells
            have HH := Lib.hid (ut_hit HZ1.out HV1.out)
            go_wp2_with fail
            refine bodyPost_ret (v := .tuple #[.int .i64 (t - o), .bool false, .int .i64 0]) (by simp [results, Tryz.results17, go_sem]) rfl ⟨?_, (by first | exact S1.out.bel | (rw [← hG]; exact S1.out.bel))⟩
            rw [HH.out.1, HH.out.2.1, HH.out.2.2]
          · have c0 : decide (V1 = t) = false := decide_eq_false b1
            have c1 : (V1 == t) = false := by simpa using b1
            by_cases a2 : Z2 = 0
            · subst a2
              by_cases b2 : V2 = t
              · have HV2 : Hid (taiV B E f n (t - o - 1) true = t) := Lib.hid (HV2.out.trans b2)
                clear b2
                go_wp2_with fail
                refine (rtai_v (u := t - o) (by omega) HV1.out HZ1.out wr SR.out.lrd).mono ?_
                rintro e v1 ⟨rfl, hbl⟩
                have S1 := Lib.hid (SR.out.below hbl)
                clear hbl SR t0 t1 t2
                obtain ⟨t0, t1, t2⟩ := S1.out.box.cells
                go_wp2_with fail
                refine (rtai_v (u := t - o - 1) (by omega) HV2.out HZ2.out v1 S1.out.lrd).mono ?_
                rintro e v2 ⟨rfl, hbl⟩
                have S2 := Lib.hid (S1.out.below hbl)
                clear hbl S1 t0 t1 t2
                obtain ⟨t0, t1, t2⟩ := S2.out.box.cells
                have HH := Lib.hid (ut_hit HZ2.out HV2.out)
                go_wp2_with fail
                refine bodyPost_ret (v := .tuple #[.int .i64 (t - o - 1), .bool true, .int .i64 0]) (by simp [results, Tryz.results17, go_sem]) rfl ⟨?_, (by first | exact S2.out.bel | (rw [← hG]; exact S2.out.bel))⟩
                rw [HH.out.1, HH.out.2.1, HH.out.2.2]
              · have c2 : decide (V2 = t) = false := decide_eq_false b2
                have c3 : (V2 == t) = false := by simpa using b2
                have HF2 : Hid (∀ i, i < j + 1 + 1 → Fl B E f n t i) := Lib.hid (fun i hi => by
                  rcases (show i < j + 1 ∨ i = j + 1 by omega) with h | rfl
                  · exact HF.out i h
                  · exact ⟨fun _ => by rw [HO.out, HV1.out]; exact b1, fun _ => by rw [HO.out, HV2.out]; exact b2⟩)
                go_wp2_with fail
                refine (rtai_v (u := t - o) (by omega) HV1.out HZ1.out wr SR.out.lrd).mono ?_
                rintro e v1 ⟨rfl, hbl⟩
                have S1 := Lib.hid (SR.out.below hbl)
                clear hbl SR t0 t1 t2
                obtain ⟨t0, t1, t2⟩ := S1.out.box.cells
                go_wp2_with fail
                refine (rtai_v (u := t - o - 1) (by omega) HV2.out HZ2.out v1 S1.out.lrd).mono ?_
                rintro e v2 ⟨rfl, hbl⟩
                have S2 := Lib.hid (S1.out.below hbl)
                clear hbl S1 t0 t1 t2
                obtain ⟨t0, t1, t2⟩ := S2.out.box.cells
                go_wp2_with fail
                go_roundw
                case rel => exact ⟨j + 2, (j : Int) + 1, by omega, by omega, by go_num, HF2, S2⟩
                case measure => simp [intOf] <;> omega
            · have c2 : decide (Z2 = 0) = false := decide_eq_false a2
              have c3 : (Z2 == 0) = false := by simpa using a2
              have HF2 : Hid (∀ i, i < j + 1 + 1 → Fl B E f n t i) := Lib.hid (fun i hi => by
                rcases (show i < j + 1 ∨ i = j + 1 by omega) with h | rfl
                · exact HF.out i h
                · exact ⟨fun _ => by rw [HO.out, HV1.out]; exact b1, fun h => by rw [HO.out, HZ2.out] at h; exact absurd h a2⟩)
              go_wp2_with fail
              refine (rtai_v (u := t - o) (by omega) HV1.out HZ1.out wr SR.out.lrd).mono ?_
              rintro e v1 ⟨rfl, hbl⟩
              have S1 := Lib.hid (SR.out.below hbl)
              clear hbl SR t0 t1 t2
              obtain ⟨t0, t1, t2⟩ := S1.out.box.cells
              go_wp2_with fail
              refine (rtai_v (u := t - o - 1) (by omega) HV2.out HZ2.out v1 S1.out.lrd).mono ?_
              rintro e v2 ⟨rfl, hbl⟩
              have S2 := Lib.hid (S1.out.below hbl)
              clear hbl S1 t0 t1 t2
              obtain ⟨t0, t1, t2⟩ := S2.out.box.cells
              go_wp2_with fail
              go_roundw
              case rel => exact ⟨j + 2, (j : Int) + 1, by omega, by omega, by go_num, HF2, S2⟩
              case measure => simp [intOf] <;> omega
        · have c0 : decide (Z1 = 0) = false := decide_eq_false a1
          have c1 : (Z1 == 0) = false := by simpa using a1
          by_cases a2 : Z2 = 0
          · subst a2
            by_cases b2 : V2 = t
            · have HV2 : Hid (taiV B E f n (t - o - 1) true = t) := Lib.hid (HV2.out.trans b2)
              clear b2
              go_wp2_with fail
              refine (rtai_v (u := t - o) (by omega) HV1.out HZ1.out wr SR.out.lrd).mono ?_
              rintro e v1 ⟨rfl, hbl⟩
              have S1 := Lib.hid (SR.out.below hbl)
              clear hbl SR t0 t1 t2
              obtain ⟨t0, t1, t2⟩ := S1.out.box.cells
              go_wp2_with fail
              refine (rtai_v (u := t - o - 1) (by omega) HV2.out HZ2.out v1 S1.out.lrd).mono ?_
              rintro e v2 ⟨rfl, hbl⟩
              have S2 := Lib.hid (S1.out.below hbl)
              clear hbl S1 t0 t1 t2
              obtain ⟨t0, t1, t2⟩ := S2.out.box.cells
              have HH := Lib.hid (ut_hit HZ2.out HV2.out)
              go_wp2_with fail
              refine bodyPost_ret (v := .tuple #[.int .i64 (t - o - 1), .bool true, .int .i64 0]) (by simp [results, Tryz.results17, go_sem]) rfl ⟨?_, (by first | exact S2.out.bel | (rw [← hG]; exact S2.out.bel))⟩
              rw [HH.out.1, HH.out.2.1, HH.out.2.2]
            · have c2 : decide (V2 = t) = false := decide_eq_false b2
              have c3 : (V2 == t) = false := by simpa using b2
              have HF2 : Hid (∀ i, i < j + 1 + 1 → Fl B E f n t i) := Lib.hid (fun i hi => by
                rcases (show i < j + 1 ∨ i = j + 1 by omega) with h | rfl
                · exact HF.out i h
                · exact ⟨fun h => by rw [HO.out, HZ1.out] at h; exact absurd h a1, fun _ => by rw [HO.out, HV2.out]; exact b2⟩)
              go_wp2_with fail
              refine (rtai_v (u := t - o) (by omega) HV1.out HZ1.out wr SR.out.lrd).mono ?_
              rintro e v1 ⟨rfl, hbl⟩
              have S1 := Lib.hid (SR.out.below hbl)
              clear hbl SR t0 t1 t2
              obtain ⟨t0, t1, t2⟩ := S1.out.box.cells
              go_wp2_with fail
              refine (rtai_v (u := t - o - 1) (by omega) HV2.out HZ2.out v1 S1.out.lrd).mono ?_
              rintro e v2 ⟨rfl, hbl⟩
              have S2 := Lib.hid (S1.out.below hbl)
              clear hbl S1 t0 t1 t2
              obtain ⟨t0, t1, t2⟩ := S2.out.box.cells
              go_wp2_with fail
              go_roundw
              case rel => exact ⟨j + 2, (j : Int) + 1, by omega, by omega, by go_num, HF2, S2⟩
              case measure => simp [intOf] <;> omega
          · have c2 : decide (Z2 = 0) = false := decide_eq_false a2
            have c3 : (Z2 == 0) = false := by simpa using a2
            have HF2 : Hid (∀ i, i < j + 1 + 1 → Fl B E f n t i) := Lib.hid (fun i hi => by
              rcases (show i < j + 1 ∨ i = j + 1 by omega) with h | rfl
              · exact HF.out i h
              · exact ⟨fun h => by rw [HO.out, HZ1.out] at h; exact absurd h a1, fun h => by rw [HO.out, HZ2.out] at h; exact absurd h a2⟩)
            go_wp2_with fail
            refine (rtai_v (u := t - o) (by omega) HV1.out HZ1.out wr SR.out.lrd).mono ?_
            rintro e v1 ⟨rfl, hbl⟩
            have S1 := Lib.hid (SR.out.below hbl)
            clear hbl SR t0 t1 t2
            obtain ⟨t0, t1, t2⟩ := S1.out.box.cells
            go_wp2_with fail
            refine (rtai_v (u := t - o - 1) (by omega) HV2.out HZ2.out v1 S1.out.lrd).mono ?_
            rintro e v2 ⟨rfl, hbl⟩
            have S2 := Lib.hid (S1.out.below hbl)
            clear hbl S1 t0 t1 t2
            obtain ⟨t0, t1, t2⟩ := S2.out.box.cells
            go_wp2_with fail
            go_roundw
            case rel => exact ⟨j + 2, (j : Int) + 1, by omega, by omega, by go_num, HF2, S2⟩
            case measure => simp [intOf] <;> omega
    · obtain rfl : k = n + 1 := by omega
      have hki : ¬ I < n := by omega
      have hki2 : decide (I < (n : Int)) = false := decide_eq_false hki
      have HE := Lib.hid (ut_none HY.out HF.out)
      go_wp2_with fail
      refine bodyPost_ret (v := .tuple #[.int .i64 0, .bool false, .int .i64 3]) (by simp [results, Tryz.results17, go_sem]) rfl ⟨?_, (by first | exact SR.out.bel | (rw [← hG]; exact SR.out.bel))⟩
      exact ut_bad HE.out (by decide)
theorem rutc_any (B E : Int) (a : Option Addr) (n c : Nat) (f : Nat → Int × Int) (t : Int) (w : World) (hr : LRd w w.heap.size a n f) :
    Calls Tryz.prog 17 #[.agg #[.int .i64 B, .int .i64 E, .slice a n c], .int .i64 t] w fun e w' => e = .returned (.tuple #[.int .i64 (utV B E f n t), .bool (utP B E f n t), .int .i64 (utE B E f n t)]) ∧ Below w.heap.size w w' := by
  by_cases hz : chkL B E f n = 0
  · by_cases hi : -8000002000 ≤ t ∧ t ≤ 8000002000
    · exact rutc_loop B E a n c f t w hr hz hi
    · exact rutc_far B E a n c f t w hr hz hi
  · exact rutc_bad B E a n c f t w hr hz
theorem rutc_v {B E : Int} {a : Option Addr} {n c : Nat} {f : Nat → Int × Int} {t U e0 : Int} {P : Bool} (hU : utV B E f n t = U) (hP : utP B E f n t = P) (hE : utE B E f n t = e0) (w : World) (hr : LRd w w.heap.size a n f) :
    Calls Tryz.prog 17 #[.agg #[.int .i64 B, .int .i64 E, .slice a n c], .int .i64 t] w fun e w' => e = .returned (.tuple #[.int .i64 U, .bool P, .int .i64 e0]) ∧ Below w.heap.size w w' := by
  subst hU hP hE; exact rutc_any B E a n c f t w hr

set_option maxRecDepth 100000 in
set_option maxHeartbeats 2000000 in
theorem labels_large (B E : Int) (a : Option Addr) (n c : Nat) (f : Nat → Int × Int) (u : Int) (x : Bool) (t : Int) (w : World) (ht : MT w) (hp : Tab w) (he : Errs w) (hr : LRd w w.heap.size a n f) (ub0 : -9223372036854775808 ≤ u) (ub1 : u ≤ 9223372036854775807) (tb0 : -9223372036854775808 ≤ t) (tb1 : t ≤ 9223372036854775807) (hn : ¬ n ≤ 70) :
    Calls Tryz.prog 4 #[.agg #[.int .i64 B, .int .i64 E, .slice a n c], .agg #[.int .i64 u, .bool x, .int .i64 t]] w fun e w' => e = .returned (.bool true) ∧ Below w.heap.size w w' := by
  have HN := Lib.hid (decide_eq_false hn)
  clear hn ub0 ub1 tb0 tb1
  have S0' := Lib.hid (lwl_new w B E a n c f u x t hr ht hp he)
  clear ht hp he hr
  obtain ⟨v0, hv0⟩ : ∃ v, (w.alloc (.cells #[.int .i64 B, .int .i64 E, .slice a n c] 24)).alloc (.cells #[.int .i64 u, .bool x, .int .i64 t] 30) = v := ⟨_, rfl⟩
  obtain ⟨G, hG⟩ : ∃ G, w.heap.size = G := ⟨_, rfl⟩
  have hG1 : (w.alloc (.cells #[.int .i64 B, .int .i64 E, .slice a n c] 24)).heap.size = G + 1 := by rw [← hG]; simp
  have S0 : Hid (LwL w v0 G (G + 1) B E a n c f u x t) := Lib.hid (by rw [← hv0, ← hG]; exact S0'.out)
  clear S0'
  obtain ⟨t0, t1, t2, t3, t4, t5⟩ := S0.out.cells
  go_enter Tryz.func4, Tryz.ntmps4
  go_wp2_with fail
  clear hv0 hG1
  refine (small6_v HN.out v0).mono ?_
  rintro e v1 ⟨rfl, hbl⟩
  have S1 := Lib.hid (S0.out.below hbl)
  clear hbl S0 t0 t1 t2 t3 t4 t5
  obtain ⟨t0, t1, t2, t3, t4, t5⟩ := S1.out.cells
  go_wp2_with fail
  refine (awake6_any v1 S1.out.mt S1.out.tab S1.out.errs).mono ?_
  rintro e v2 ⟨rfl, hbl⟩
  have S2 := Lib.hid (S1.out.below hbl)
  clear hbl S1 t0 t1 t2 t3 t4 t5
  obtain ⟨t0, t1, t2, t3, t4, t5⟩ := S2.out.cells
  go_wp2_with fail
  go_ret
  exact ⟨rfl, S2.out.bel⟩

set_option maxRecDepth 100000 in
set_option maxHeartbeats 2000000 in
theorem labels_fits (B E : Int) (a : Option Addr) (n c : Nat) (f : Nat → Int × Int) (u : Int) (x : Bool) (t : Int) (w : World) (ht : MT w) (hp : Tab w) (he : Errs w) (hr : LRd w w.heap.size a n f) (ub0 : -9223372036854775808 ≤ u) (ub1 : u ≤ 9223372036854775807) (tb0 : -9223372036854775808 ≤ t) (tb1 : t ≤ 9223372036854775807) (hn : n ≤ 70) :
    Calls Tryz.prog 4 #[.agg #[.int .i64 B, .int .i64 E, .slice a n c], .agg #[.int .i64 u, .bool x, .int .i64 t]] w fun e w' => e = .returned (.bool true) ∧ Below w.heap.size w w' := by
  have HN := Lib.hid (decide_eq_true hn)
  clear hn
  obtain ⟨V, hV⟩ : ∃ V, taiV B E f n u x = V := ⟨_, rfl⟩
  obtain ⟨Z, hZ⟩ : ∃ V, taiE B E f n u x = V := ⟨_, rfl⟩
  obtain ⟨U, hU⟩ : ∃ V, utV B E f n t = V := ⟨_, rfl⟩
  obtain ⟨P, hP⟩ : ∃ V, utP B E f n t = V := ⟨_, rfl⟩
  obtain ⟨Q, hQ⟩ : ∃ V, utE B E f n t = V := ⟨_, rfl⟩
  have HV := Lib.hid hV
  have HZ := Lib.hid hZ
  have HU := Lib.hid hU
  have HP := Lib.hid hP
  have HQ := Lib.hid hQ
  clear hV hZ hU hP hQ
  have S0' := Lib.hid (lwl_new w B E a n c f u x t hr ht hp he)
  clear ht hp he hr
  obtain ⟨v0, hv0⟩ : ∃ v, (w.alloc (.cells #[.int .i64 B, .int .i64 E, .slice a n c] 24)).alloc (.cells #[.int .i64 u, .bool x, .int .i64 t] 30) = v := ⟨_, rfl⟩
  obtain ⟨G, hG⟩ : ∃ G, w.heap.size = G := ⟨_, rfl⟩
  have hG1 : (w.alloc (.cells #[.int .i64 B, .int .i64 E, .slice a n c] 24)).heap.size = G + 1 := by rw [← hG]; simp
  have S0 : Hid (LwL w v0 G (G + 1) B E a n c f u x t) := Lib.hid (by rw [← hv0, ← hG]; exact S0'.out)
  clear S0'
  obtain ⟨t0, t1, t2, t3, t4, t5⟩ := S0.out.cells
  go_enter Tryz.func4, Tryz.ntmps4
  go_wp2_with fail
  clear hv0 hG1
  refine (small6_v HN.out v0).mono ?_
  rintro e v1 ⟨rfl, hbl⟩
  have S1 := Lib.hid (S0.out.below hbl)
  clear hbl S0 t0 t1 t2 t3 t4 t5
  obtain ⟨t0, t1, t2, t3, t4, t5⟩ := S1.out.cells
  go_wp2_with fail
  refine (ltai_v HV.out HZ.out v1 S1.out.mt S1.out.lrd).mono ?_
  rintro e v2 ⟨rfl, hbl⟩
  have S2 := Lib.hid (S1.out.below hbl)
  clear hbl S1 t0 t1 t2 t3 t4 t5
  obtain ⟨t0, t1, t2, t3, t4, t5⟩ := S2.out.cells
  go_wp2_with fail
  refine (rtai_v rfl HV.out HZ.out v2 S2.out.lrd).mono ?_
  rintro e v3 ⟨rfl, hbl⟩
  have S3 := Lib.hid (S2.out.below hbl)
  clear hbl S2 t0 t1 t2 t3 t4 t5
  obtain ⟨t0, t1, t2, t3, t4, t5⟩ := S3.out.cells
  go_wp2_with fail
  refine (lutc_v HU.out HP.out HQ.out v3 S3.out.mt S3.out.lrd tb0 tb1).mono ?_
  rintro e v4 ⟨rfl, hbl⟩
  have S4 := Lib.hid (S3.out.below hbl)
  clear hbl S3 t0 t1 t2 t3 t4 t5
  obtain ⟨t0, t1, t2, t3, t4, t5⟩ := S4.out.cells
  go_wp2_with fail
  refine (rutc_v HU.out HP.out HQ.out v4 S4.out.lrd).mono ?_
  rintro e v5 ⟨rfl, hbl⟩
  have S5 := Lib.hid (S4.out.below hbl)
  clear hbl S4 t0 t1 t2 t3 t4 t5
  obtain ⟨t0, t1, t2, t3, t4, t5⟩ := S5.out.cells
  go_wp2_with fail
  refine (awake6_any v5 S5.out.mt S5.out.tab S5.out.errs).mono ?_
  rintro e v6 ⟨rfl, hbl⟩
  have S6 := Lib.hid (S5.out.below hbl)
  clear hbl S5 t0 t1 t2 t3 t4 t5
  obtain ⟨t0, t1, t2, t3, t4, t5⟩ := S6.out.cells
  go_wp2_with fail
  go_ret
  exact ⟨rfl, S6.out.bel⟩
theorem labels_law (B E : Int) (a : Option Addr) (n c : Nat) (f : Nat → Int × Int) (u : Int) (x : Bool) (t : Int) (w : World) (ht : MT w) (hp : Tab w) (he : Errs w) (hr : LRd w w.heap.size a n f) (ub0 : -9223372036854775808 ≤ u) (ub1 : u ≤ 9223372036854775807) (tb0 : -9223372036854775808 ≤ t) (tb1 : t ≤ 9223372036854775807) :
    Calls Tryz.prog 4 #[.agg #[.int .i64 B, .int .i64 E, .slice a n c], .agg #[.int .i64 u, .bool x, .int .i64 t]] w fun e w' => e = .returned (.bool true) ∧ Below w.heap.size w w' := by
  by_cases hn : n ≤ 70
  · exact labels_fits B E a n c f u x t w ht hp he hr ub0 ub1 tb0 tb1 hn
  · exact labels_large B E a n c f u x t w ht hp he hr ub0 ub1 tb0 tb1 hn
end Go.Proofs.YtegpajdahanhfaaGreatDoor
