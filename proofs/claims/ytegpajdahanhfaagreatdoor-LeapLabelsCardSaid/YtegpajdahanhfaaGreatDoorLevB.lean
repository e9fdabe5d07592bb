/- The walks of LeapOneToOne and LeapTicks. -/
import Derived.Test.YtegpajdahanhfaaGreatDoorLevA
import Derived.Test.YtegpajdahanhfaaGreatDoorLeaU
import Derived.Test.YtegpajdahanhfaaGreatDoorLeaV
namespace Go.Proofs.YtegpajdahanhfaaGreatDoor
open Go.RowKit Go.Shelf Fx Cv Lp Pt

/-- The state of a law's walk: the table's box, its entries, the listed variables. -/
structure Lp.Lw (w v : World) (G : Nat) (B E : Int) (a : Option Addr) (n c : Nat) (f : Nat → Int × Int) : Prop where
  box : TBx v G B E a n c
  lrd : LRd v v.heap.size a n f
  mt : MT v
  tab : Tab v
  errs : Errs v
  bel : Below w.heap.size w v
theorem Lp.Lw.below {w v v' : World} {G : Nat} {B E : Int} {a : Option Addr} {n c : Nat} {f : Nat → Int × Int} (h : Lw w v G B E a n c f) (hb : Below v.heap.size v v') : Lw w v' G B E a n c f :=
  ⟨h.box.below hb h.box.lt, (h.lrd.below hb).mono hb.size, h.mt.below hb, h.tab.below hb, h.errs.below hb, h.bel.trans (hb.mono h.bel.size)⟩
theorem Lp.Lw.cells {w v : World} {G : Nat} {B E : Int} {a : Option Addr} {n c : Nat} {f : Nat → Int × Int} (h : Lw w v G B E a n c f) :
    v.cell? ⟨G, 0, none⟩ = some (.int .i64 B) ∧ v.cell? ⟨G, 1, none⟩ = some (.int .i64 E) ∧ v.cell? ⟨G, 2, none⟩ = some (.slice a n c) := h.box.cells
theorem Lp.lw_new (w : World) (B E : Int) (a : Option Addr) (n c : Nat) (f : Nat → Int × Int) (hr : LRd w w.heap.size a n f) (ht : MT w) (hp : Tab w) (he : Errs w) :
    Lw w (w.alloc (.cells #[.int .i64 B, .int .i64 E, .slice a n c] 24)) w.heap.size B E a n c f := by
  have hb : Below w.heap.size w (w.alloc (.cells #[.int .i64 B, .int .i64 E, .slice a n c] 24)) := (Below.refl _ _).alloc (Nat.le_refl _) _
  exact ⟨tbx_new _ _ _ _ _ _, (hr.below hb).mono hb.size, ht.below hb, hp.below hb, he.below hb, hb⟩
/-- Block G is the box of a label. -/
def Lp.LBx (w : World) (G : Nat) (u : Int) (x : Bool) (t : Int) : Prop := w.heap[G]? = some (.cells #[.int .i64 u, .bool x, .int .i64 t] 30 (0, 0))
theorem Lp.LBx.lt {w : World} {G : Nat} {u t : Int} {x : Bool} (h : LBx w G u x t) : G < w.heap.size := by
  rcases Nat.lt_or_ge G w.heap.size with hlt | hge
  · exact hlt
  · unfold LBx at h; rw [Array.getElem?_eq_none hge] at h; cases h
theorem Lp.LBx.cells {w : World} {G : Nat} {u t : Int} {x : Bool} (h : LBx w G u x t) :
    w.cell? ⟨G, 0, none⟩ = some (.int .i64 u) ∧ w.cell? ⟨G, 1, none⟩ = some (.bool x) ∧ w.cell? ⟨G, 2, none⟩ = some (.int .i64 t) := by
  unfold LBx at h; simp [World.cell?, h]
/-- The state with a label's box. -/
structure Lp.LwL (w v : World) (G K : Nat) (B E : Int) (a : Option Addr) (n c : Nat) (f : Nat → Int × Int) (u : Int) (x : Bool) (t : Int) : Prop where
  lw : Lw w v G B E a n c f
  lab : LBx v K u x t
theorem Lp.LwL.below {w v v' : World} {G K : Nat} {B E : Int} {a : Option Addr} {n c : Nat} {f : Nat → Int × Int} {u t : Int} {x : Bool} (h : LwL w v G K B E a n c f u x t) (hb : Below v.heap.size v v') : LwL w v' G K B E a n c f u x t :=
  ⟨h.lw.below hb, (hb.block K h.lab.lt).trans h.lab⟩
theorem Lp.LwL.cells {w v : World} {G K : Nat} {B E : Int} {a : Option Addr} {n c : Nat} {f : Nat → Int × Int} {u t : Int} {x : Bool} (h : LwL w v G K B E a n c f u x t) :
    v.cell? ⟨G, 0, none⟩ = some (.int .i64 B) ∧ v.cell? ⟨G, 1, none⟩ = some (.int .i64 E) ∧ v.cell? ⟨G, 2, none⟩ = some (.slice a n c) ∧ v.cell? ⟨K, 0, none⟩ = some (.int .i64 u) ∧ v.cell? ⟨K, 1, none⟩ = some (.bool x) ∧ v.cell? ⟨K, 2, none⟩ = some (.int .i64 t) :=
  ⟨h.lw.cells.1, h.lw.cells.2.1, h.lw.cells.2.2, h.lab.cells.1, h.lab.cells.2.1, h.lab.cells.2.2⟩
theorem Lp.LwL.mt {w v : World} {G K : Nat} {B E : Int} {a : Option Addr} {n c : Nat} {f : Nat → Int × Int} {u t : Int} {x : Bool} (h : LwL w v G K B E a n c f u x t) : MT v := h.lw.mt
theorem Lp.LwL.tab {w v : World} {G K : Nat} {B E : Int} {a : Option Addr} {n c : Nat} {f : Nat → Int × Int} {u t : Int} {x : Bool} (h : LwL w v G K B E a n c f u x t) : Tab v := h.lw.tab
theorem Lp.LwL.errs {w v : World} {G K : Nat} {B E : Int} {a : Option Addr} {n c : Nat} {f : Nat → Int × Int} {u t : Int} {x : Bool} (h : LwL w v G K B E a n c f u x t) : Errs v := h.lw.errs
theorem Lp.LwL.lrd {w v : World} {G K : Nat} {B E : Int} {a : Option Addr} {n c : Nat} {f : Nat → Int × Int} {u t : Int} {x : Bool} (h : LwL w v G K B E a n c f u x t) : LRd v v.heap.size a n f := h.lw.lrd
theorem Lp.LwL.bel {w v : World} {G K : Nat} {B E : Int} {a : Option Addr} {n c : Nat} {f : Nat → Int × Int} {u t : Int} {x : Bool} (h : LwL w v G K B E a n c f u x t) : Below w.heap.size w v := h.lw.bel
theorem Lp.lwl_new (w : World) (B E : Int) (a : Option Addr) (n c : Nat) (f : Nat → Int × Int) (u : Int) (x : Bool) (t : Int) (hr : LRd w w.heap.size a n f) (ht : MT w) (hp : Tab w) (he : Errs w) :
    LwL w ((w.alloc (.cells #[.int .i64 B, .int .i64 E, .slice a n c] 24)).alloc (.cells #[.int .i64 u, .bool x, .int .i64 t] 30)) w.heap.size (w.heap.size + 1) B E a n c f u x t := by
  have h0 := lw_new w B E a n c f hr ht hp he
  obtain ⟨W, hW⟩ : ∃ W, w.alloc (.cells #[.int .i64 B, .int .i64 E, .slice a n c] 24) = W := ⟨_, rfl⟩
  have hs : W.heap.size = w.heap.size + 1 := by rw [← hW]; simp
  rw [hW] at h0 ⊢
  refine ⟨h0.below ((Below.refl _ _).alloc (Nat.le_refl _) _), ?_⟩
  rw [← hs]
  exact heap_alloc_new W _

theorem lutc_v {B E : Int} {a : Option Addr} {n c : Nat} {f : Nat → Int × Int} {t U e0 : Int} {P : Bool} (hU : utV B E f n t = U) (hP : utP B E f n t = P) (hE : utE B E f n t = e0) (w : World) (ht : MT w) (hr : LRd w w.heap.size a n f) (t0 : -9223372036854775808 ≤ t) (t1 : t ≤ 9223372036854775807) :
    Calls Tryz.prog 16 #[.agg #[.int .i64 B, .int .i64 E, .slice a n c], .int .i64 t] w fun e w' => e = .returned (.tuple #[.int .i64 U, .bool P, .int .i64 e0]) ∧ Below w.heap.size w w' := by
  subst hU hP hE; exact lutc_any B E a n c f t w ht hr t0 t1
theorem ltai_v {B E : Int} {a : Option Addr} {n c : Nat} {f : Nat → Int × Int} {u V e0 : Int} {x : Bool} (hV : taiV B E f n u x = V) (hE : taiE B E f n u x = e0) (w : World) (ht : MT w) (hr : LRd w w.heap.size a n f) :
    Calls Tryz.prog 14 #[.agg #[.int .i64 B, .int .i64 E, .slice a n c], .int .i64 u, .bool x] w fun e w' => e = .returned (.tuple #[.int .i64 V, .int .i64 e0]) ∧ Below w.heap.size w w' := by
  subst hV hE; exact ltai_any B E a n c f u x w ht hr
theorem loff_v {B E : Int} {a : Option Addr} {n c : Nat} {f : Nat → Int × Int} {u V : Int} (hV : offU B E f n u = V) (w : World) (ht : MT w) (hr : LRd w w.heap.size a n f) :
    Calls Tryz.prog 18 #[.agg #[.int .i64 B, .int .i64 E, .slice a n c], .int .i64 u] w fun e w' => e = .returned (.int .i64 V) ∧ Below w.heap.size w w' := by
  subst hV; exact loffset_any B E a n c f u w ht hr
theorem small6_v {B E : Int} {a : Option Addr} {n c : Nat} {p : Bool} (hp : decide (n ≤ 70) = p) (w : World) :
    Calls Tryz.prog 10 #[.agg #[.int .i64 B, .int .i64 E, .slice a n c]] w fun e w' => e = .returned (.bool p) ∧ Below w.heap.size w w' := by
  subst hp; exact small6_any B E a n c w
theorem Lp.tai_in {B E : Int} {f : Nat → Int × Int} {n : Nat} {u : Int} {x : Bool} : -9000000000 ≤ taiV B E f n u x ∧ taiV B E f n u x ≤ 9000000000 := by
  unfold taiV
  by_cases he : taiE B E f n u x = 0
  · rw [if_pos he]
    have hz : chkL B E f n = 0 := by
      rcases Int.decEq (chkL B E f n) 0 with h | h
      · unfold taiE at he; rw [if_pos h] at he; exact absurd he h
      · exact h
    have hin : inS u = true := by
      unfold taiE at he
      rw [if_neg (by rw [hz]; decide)] at he
      cases h : inS u
      · rw [if_pos h] at he; omega
      · rfl
    have hu : -8000000000 ≤ u ∧ u ≤ 8000000000 := of_decide_eq_true hin
    have := (val_of hz).bndA (psU_le f n u)
    split <;> omega
  · rw [if_neg he]; omega
theorem Lp.ut_in {B E : Int} {f : Nat → Int × Int} {n : Nat} {t : Int} : -8000000000 ≤ utV B E f n t ∧ utV B E f n t ≤ 8000000000 := by
  unfold utV
  by_cases he : utE B E f n t = 0
  · rw [if_pos he]
    unfold utE at he
    have hz : chkL B E f n = 0 := by
      rcases Int.decEq (chkL B E f n) 0 with h | h
      · rw [if_pos h] at he; exact absurd he h
      · exact h
    rw [if_neg (by rw [hz]; decide)] at he
    by_cases c : okI (t - offA B f (psT f n t)) = true ∧ inS (utU B f n t) = true
    · exact of_decide_eq_true c.2
    · rw [if_neg c] at he; omega
  · rw [if_neg he]; omega

set_option maxRecDepth 100000 in
set_option linter.unusedVariables false in
theorem onetoone_large (B E : Int) (a : Option Addr) (n c : Nat) (f : Nat → Int × Int) (u : Int) (x : Bool) (t : Int) (w : World) (ht : MT w) (hp : Tab w) (he : Errs w) (hr : LRd w w.heap.size a n f) (tb0 : -9223372036854775808 ≤ t) (tb1 : t ≤ 9223372036854775807) (hn : ¬ n ≤ 70) :
    Calls Tryz.prog 5 #[.agg #[.int .i64 B, .int .i64 E, .slice a n c], .agg #[.int .i64 u, .bool x, .int .i64 t]] w fun e w' => e = .returned (.bool true) ∧ Below w.heap.size w w' := by
  have HN := Lib.hid (decide_eq_false hn)
  clear hn
  have S0' := Lib.hid (lwl_new w B E a n c f u x t hr ht hp he)
  clear ht hp he hr
  obtain ⟨v0, hv0⟩ : ∃ v, (w.alloc (.cells #[.int .i64 B, .int .i64 E, .slice a n c] 24)).alloc (.cells #[.int .i64 u, .bool x, .int .i64 t] 30) = v := ⟨_, rfl⟩
  obtain ⟨x0, hx0⟩ : ∃ v, w.alloc (.cells #[.int .i64 B, .int .i64 E, .slice a n c] 24) = v := ⟨_, rfl⟩
  obtain ⟨G, hG⟩ : ∃ G, w.heap.size = G := ⟨_, rfl⟩
  have S0 : Hid (LwL w v0 G (G + 1) B E a n c f u x t) := Lib.hid (by rw [← hv0, ← hG]; exact S0'.out)
  clear S0'
  rw [hx0] at hv0
  have sx0 : x0.heap.size = G + 1 := by rw [← hx0, ← hG]; simp
  obtain ⟨t0', t1', t2', t3', t4', t5'⟩ := S0.out.cells
  go_enter Tryz.func5, Tryz.ntmps5
  go_wp2_with fail
  refine (small6_v HN.out v0).mono ?_
  rintro e v1 ⟨rfl, hbl⟩
  have S1 := Lib.hid (S0.out.below hbl)
  clear hbl S0 t0' t1' t2' t3' t4' t5' hx0 hv0 sx0 hG
  obtain ⟨t0, t1, t2, t3, t4, t5⟩ := S1.out.cells
  go_wp2_with fail
  refine (awake6_any v1 S1.out.mt S1.out.tab S1.out.errs).mono ?_
  rintro e v2 ⟨rfl, hbl⟩
  have S2 := Lib.hid (S1.out.below hbl)
  go_wp2_with fail
  go_ret
  exact ⟨rfl, S2.out.bel⟩

set_option maxRecDepth 100000 in
set_option linter.unusedVariables false in
theorem onetoone_00 (B E : Int) (a : Option Addr) (n c : Nat) (f : Nat → Int × Int) (u : Int) (x : Bool) (t : Int) (w : World) (ht : MT w) (hp : Tab w) (he : Errs w) (hr : LRd w w.heap.size a n f) (tb0 : -9223372036854775808 ≤ t) (tb1 : t ≤ 9223372036854775807) (hn : n ≤ 70) (h1 : utE B E f n t = 0) (h2 : taiE B E f n u x = 0) :
    Calls Tryz.prog 5 #[.agg #[.int .i64 B, .int .i64 E, .slice a n c], .agg #[.int .i64 u, .bool x, .int .i64 t]] w fun e w' => e = .returned (.bool true) ∧ Below w.heap.size w w' := by
  have HN := Lib.hid (decide_eq_true hn)
  obtain ⟨U, hU⟩ : ∃ U, utV B E f n t = U := ⟨_, rfl⟩
  obtain ⟨P, hP⟩ : ∃ P, utP B E f n t = P := ⟨_, rfl⟩
  obtain ⟨V, hV⟩ : ∃ V, taiV B E f n u x = V := ⟨_, rfl⟩
  have k1 := ut_tai h1
  rw [hU, hP] at k1
  have K1 := Lib.hid k1
  have H1 := Lib.hid h1
  clear k1 h1
  have k2 := tai_ut h2
  have kb := tai_in (B := B) (E := E) (f := f) (n := n) (u := u) (x := x)
  rw [hV] at k2 kb
  obtain ⟨kb0, kb1⟩ := kb
  have K2 := Lib.hid k2
  have H2 := Lib.hid h2
  clear k2 h2
  have HU := Lib.hid hU
  have HP := Lib.hid hP
  have HV := Lib.hid hV
  clear hU hP hV hn
  have S0' := Lib.hid (lwl_new w B E a n c f u x t hr ht hp he)
  clear ht hp he hr
  obtain ⟨v0, hv0⟩ : ∃ v, (w.alloc (.cells #[.int .i64 B, .int .i64 E, .slice a n c] 24)).alloc (.cells #[.int .i64 u, .bool x, .int .i64 t] 30) = v := ⟨_, rfl⟩
  obtain ⟨x0, hx0⟩ : ∃ v, w.alloc (.cells #[.int .i64 B, .int .i64 E, .slice a n c] 24) = v := ⟨_, rfl⟩
  obtain ⟨G, hG⟩ : ∃ G, w.heap.size = G := ⟨_, rfl⟩
  have S0 : Hid (LwL w v0 G (G + 1) B E a n c f u x t) := Lib.hid (by rw [← hv0, ← hG]; exact S0'.out)
  clear S0'
  rw [hx0] at hv0
  have sx0 : x0.heap.size = G + 1 := by rw [← hx0, ← hG]; simp
  obtain ⟨t0', t1', t2', t3', t4', t5'⟩ := S0.out.cells
  go_enter Tryz.func5, Tryz.ntmps5
  go_wp2_with fail
  refine (small6_v HN.out v0).mono ?_
  rintro e v1 ⟨rfl, hbl⟩
  have S1 := Lib.hid (S0.out.below hbl)
  clear hbl S0 t0' t1' t2' t3' t4' t5' hx0 hv0 sx0 hG
  obtain ⟨t0, t1, t2, t3, t4, t5⟩ := S1.out.cells
  go_wp2_with fail
  refine (lutc_v HU.out HP.out H1.out v1 S1.out.mt S1.out.lrd tb0 tb1).mono ?_
  rintro e v2 ⟨rfl, hbl⟩
  have S2 := Lib.hid (S1.out.below hbl)
  clear hbl S1 t0 t1 t2 t3 t4 t5
  obtain ⟨t0, t1, t2, t3, t4, t5⟩ := S2.out.cells
  go_wp2_with fail
  refine (ltai_v K1.out.2 K1.out.1 v2 S2.out.mt S2.out.lrd).mono ?_
  rintro e v3 ⟨rfl, hbl⟩
  have S3 := Lib.hid (S2.out.below hbl)
  clear hbl S2 t0 t1 t2 t3 t4 t5
  obtain ⟨t0, t1, t2, t3, t4, t5⟩ := S3.out.cells
  go_wp2_with fail
  refine (ltai_v HV.out H2.out v3 S3.out.mt S3.out.lrd).mono ?_
  rintro e v4 ⟨rfl, hbl⟩
  have S4 := Lib.hid (S3.out.below hbl)
  clear hbl S3 t0 t1 t2 t3 t4 t5
  obtain ⟨t0, t1, t2, t3, t4, t5⟩ := S4.out.cells
  go_wp2_with fail
  refine (lutc_v K2.out.2.1 K2.out.2.2 K2.out.1 v4 S4.out.mt S4.out.lrd (by omega) (by omega)).mono ?_
  rintro e v5 ⟨rfl, hbl⟩
  have S5 := Lib.hid (S4.out.below hbl)
  clear hbl S4 t0 t1 t2 t3 t4 t5
  obtain ⟨t0, t1, t2, t3, t4, t5⟩ := S5.out.cells
  go_wp2_with fail
  refine (awake6_any v5 S5.out.mt S5.out.tab S5.out.errs).mono ?_
  rintro e v6 ⟨rfl, hbl⟩
  have S6 := Lib.hid (S5.out.below hbl)
  go_wp2_with fail
  go_ret
  exact ⟨rfl, S6.out.bel⟩

set_option maxRecDepth 100000 in
set_option linter.unusedVariables false in
theorem onetoone_01 (B E : Int) (a : Option Addr) (n c : Nat) (f : Nat → Int × Int) (u : Int) (x : Bool) (t : Int) (w : World) (ht : MT w) (hp : Tab w) (he : Errs w) (hr : LRd w w.heap.size a n f) (tb0 : -9223372036854775808 ≤ t) (tb1 : t ≤ 9223372036854775807) (hn : n ≤ 70) (h1 : utE B E f n t = 0) (h2 : ¬ taiE B E f n u x = 0) :
    Calls Tryz.prog 5 #[.agg #[.int .i64 B, .int .i64 E, .slice a n c], .agg #[.int .i64 u, .bool x, .int .i64 t]] w fun e w' => e = .returned (.bool true) ∧ Below w.heap.size w w' := by
  have HN := Lib.hid (decide_eq_true hn)
  obtain ⟨U, hU⟩ : ∃ U, utV B E f n t = U := ⟨_, rfl⟩
  obtain ⟨P, hP⟩ : ∃ P, utP B E f n t = P := ⟨_, rfl⟩
  obtain ⟨V, hV⟩ : ∃ V, taiV B E f n u x = V := ⟨_, rfl⟩
  have k1 := ut_tai h1
  rw [hU, hP] at k1
  have K1 := Lib.hid k1
  have H1 := Lib.hid h1
  clear k1 h1
  obtain ⟨z, hz⟩ : ∃ z, taiE B E f n u x = z := ⟨_, rfl⟩
  rw [hz] at h2
  have q1 : decide (z = 0) = false := decide_eq_false h2
  have q2 : (z == 0) = false := by simpa using h2
  have q3 : (z != 0) = true := by simp [bne, q2]
  have H2 := Lib.hid hz
  clear hz h2
  have HU := Lib.hid hU
  have HP := Lib.hid hP
  have HV := Lib.hid hV
  clear hU hP hV hn
  have S0' := Lib.hid (lwl_new w B E a n c f u x t hr ht hp he)
  clear ht hp he hr
  obtain ⟨v0, hv0⟩ : ∃ v, (w.alloc (.cells #[.int .i64 B, .int .i64 E, .slice a n c] 24)).alloc (.cells #[.int .i64 u, .bool x, .int .i64 t] 30) = v := ⟨_, rfl⟩
  obtain ⟨x0, hx0⟩ : ∃ v, w.alloc (.cells #[.int .i64 B, .int .i64 E, .slice a n c] 24) = v := ⟨_, rfl⟩
  obtain ⟨G, hG⟩ : ∃ G, w.heap.size = G := ⟨_, rfl⟩
  have S0 : Hid (LwL w v0 G (G + 1) B E a n c f u x t) := Lib.hid (by rw [← hv0, ← hG]; exact S0'.out)
  clear S0'
  rw [hx0] at hv0
  have sx0 : x0.heap.size = G + 1 := by rw [← hx0, ← hG]; simp
  obtain ⟨t0', t1', t2', t3', t4', t5'⟩ := S0.out.cells
  go_enter Tryz.func5, Tryz.ntmps5
  go_wp2_with fail
  refine (small6_v HN.out v0).mono ?_
  rintro e v1 ⟨rfl, hbl⟩
  have S1 := Lib.hid (S0.out.below hbl)
  clear hbl S0 t0' t1' t2' t3' t4' t5' hx0 hv0 sx0 hG
  obtain ⟨t0, t1, t2, t3, t4, t5⟩ := S1.out.cells
  go_wp2_with fail
  refine (lutc_v HU.out HP.out H1.out v1 S1.out.mt S1.out.lrd tb0 tb1).mono ?_
  rintro e v2 ⟨rfl, hbl⟩
  have S2 := Lib.hid (S1.out.below hbl)
  clear hbl S1 t0 t1 t2 t3 t4 t5
  obtain ⟨t0, t1, t2, t3, t4, t5⟩ := S2.out.cells
  go_wp2_with fail
  refine (ltai_v K1.out.2 K1.out.1 v2 S2.out.mt S2.out.lrd).mono ?_
  rintro e v3 ⟨rfl, hbl⟩
  have S3 := Lib.hid (S2.out.below hbl)
  clear hbl S2 t0 t1 t2 t3 t4 t5
  obtain ⟨t0, t1, t2, t3, t4, t5⟩ := S3.out.cells
  go_wp2_with fail
  refine (ltai_v HV.out H2.out v3 S3.out.mt S3.out.lrd).mono ?_
  rintro e v4 ⟨rfl, hbl⟩
  have S4 := Lib.hid (S3.out.below hbl)
  clear hbl S3 t0 t1 t2 t3 t4 t5
  obtain ⟨t0, t1, t2, t3, t4, t5⟩ := S4.out.cells
  go_wp2_with fail
  refine (awake6_any v4 S4.out.mt S4.out.tab S4.out.errs).mono ?_
  rintro e v5 ⟨rfl, hbl⟩
  have S5 := Lib.hid (S4.out.below hbl)
  go_wp2_with fail
  go_ret
  exact ⟨rfl, S5.out.bel⟩

set_option maxRecDepth 100000 in
set_option linter.unusedVariables false in
theorem onetoone_10 (B E : Int) (a : Option Addr) (n c : Nat) (f : Nat → Int × Int) (u : Int) (x : Bool) (t : Int) (w : World) (ht : MT w) (hp : Tab w) (he : Errs w) (hr : LRd w w.heap.size a n f) (tb0 : -9223372036854775808 ≤ t) (tb1 : t ≤ 9223372036854775807) (hn : n ≤ 70) (h1 : ¬ utE B E f n t = 0) (h2 : taiE B E f n u x = 0) :
    Calls Tryz.prog 5 #[.agg #[.int .i64 B, .int .i64 E, .slice a n c], .agg #[.int .i64 u, .bool x, .int .i64 t]] w fun e w' => e = .returned (.bool true) ∧ Below w.heap.size w w' := by
  have HN := Lib.hid (decide_eq_true hn)
  obtain ⟨U, hU⟩ : ∃ U, utV B E f n t = U := ⟨_, rfl⟩
  obtain ⟨P, hP⟩ : ∃ P, utP B E f n t = P := ⟨_, rfl⟩
  obtain ⟨V, hV⟩ : ∃ V, taiV B E f n u x = V := ⟨_, rfl⟩
  obtain ⟨y, hy⟩ : ∃ y, utE B E f n t = y := ⟨_, rfl⟩
  rw [hy] at h1
  have g1 : decide (y = 0) = false := decide_eq_false h1
  have g2 : (y == 0) = false := by simpa using h1
  have g3 : (y != 0) = true := by simp [bne, g2]
  have H1 := Lib.hid hy
  clear hy h1
  have k2 := tai_ut h2
  have kb := tai_in (B := B) (E := E) (f := f) (n := n) (u := u) (x := x)
  rw [hV] at k2 kb
  obtain ⟨kb0, kb1⟩ := kb
  have K2 := Lib.hid k2
  have H2 := Lib.hid h2
  clear k2 h2
  have HU := Lib.hid hU
  have HP := Lib.hid hP
  have HV := Lib.hid hV
  clear hU hP hV hn
  have S0' := Lib.hid (lwl_new w B E a n c f u x t hr ht hp he)
  clear ht hp he hr
  obtain ⟨v0, hv0⟩ : ∃ v, (w.alloc (.cells #[.int .i64 B, .int .i64 E, .slice a n c] 24)).alloc (.cells #[.int .i64 u, .bool x, .int .i64 t] 30) = v := ⟨_, rfl⟩
  obtain ⟨x0, hx0⟩ : ∃ v, w.alloc (.cells #[.int .i64 B, .int .i64 E, .slice a n c] 24) = v := ⟨_, rfl⟩
  obtain ⟨G, hG⟩ : ∃ G, w.heap.size = G := ⟨_, rfl⟩
  have S0 : Hid (LwL w v0 G (G + 1) B E a n c f u x t) := Lib.hid (by rw [← hv0, ← hG]; exact S0'.out)
  clear S0'
  rw [hx0] at hv0
  have sx0 : x0.heap.size = G + 1 := by rw [← hx0, ← hG]; simp
  obtain ⟨t0', t1', t2', t3', t4', t5'⟩ := S0.out.cells
  go_enter Tryz.func5, Tryz.ntmps5
  go_wp2_with fail
  refine (small6_v HN.out v0).mono ?_
  rintro e v1 ⟨rfl, hbl⟩
  have S1 := Lib.hid (S0.out.below hbl)
  clear hbl S0 t0' t1' t2' t3' t4' t5' hx0 hv0 sx0 hG
  obtain ⟨t0, t1, t2, t3, t4, t5⟩ := S1.out.cells
  go_wp2_with fail
  refine (lutc_v HU.out HP.out H1.out v1 S1.out.mt S1.out.lrd tb0 tb1).mono ?_
  rintro e v2 ⟨rfl, hbl⟩
  have S2 := Lib.hid (S1.out.below hbl)
  clear hbl S1 t0 t1 t2 t3 t4 t5
  obtain ⟨t0, t1, t2, t3, t4, t5⟩ := S2.out.cells
  go_wp2_with fail
  refine (ltai_v HV.out H2.out v2 S2.out.mt S2.out.lrd).mono ?_
  rintro e v3 ⟨rfl, hbl⟩
  have S3 := Lib.hid (S2.out.below hbl)
  clear hbl S2 t0 t1 t2 t3 t4 t5
  obtain ⟨t0, t1, t2, t3, t4, t5⟩ := S3.out.cells
  go_wp2_with fail
  refine (lutc_v K2.out.2.1 K2.out.2.2 K2.out.1 v3 S3.out.mt S3.out.lrd (by omega) (by omega)).mono ?_
  rintro e v4 ⟨rfl, hbl⟩
  have S4 := Lib.hid (S3.out.below hbl)
  clear hbl S3 t0 t1 t2 t3 t4 t5
  obtain ⟨t0, t1, t2, t3, t4, t5⟩ := S4.out.cells
  go_wp2_with fail
  refine (awake6_any v4 S4.out.mt S4.out.tab S4.out.errs).mono ?_
  rintro e v5 ⟨rfl, hbl⟩
  have S5 := Lib.hid (S4.out.below hbl)
  go_wp2_with fail
  go_ret
  exact ⟨rfl, S5.out.bel⟩

set_option maxRecDepth 100000 in
set_option linter.unusedVariables false in
theorem onetoone_11 (B E : Int) (a : Option Addr) (n c : Nat) (f : Nat → Int × Int) (u : Int) (x : Bool) (t : Int) (w : World) (ht : MT w) (hp : Tab w) (he : Errs w) (hr : LRd w w.heap.size a n f) (tb0 : -9223372036854775808 ≤ t) (tb1 : t ≤ 9223372036854775807) (hn : n ≤ 70) (h1 : ¬ utE B E f n t = 0) (h2 : ¬ taiE B E f n u x = 0) :
    Calls Tryz.prog 5 #[.agg #[.int .i64 B, .int .i64 E, .slice a n c], .agg #[.int .i64 u, .bool x, .int .i64 t]] w fun e w' => e = .returned (.bool true) ∧ Below w.heap.size w w' := by
  have HN := Lib.hid (decide_eq_true hn)
  obtain ⟨U, hU⟩ : ∃ U, utV B E f n t = U := ⟨_, rfl⟩
  obtain ⟨P, hP⟩ : ∃ P, utP B E f n t = P := ⟨_, rfl⟩
  obtain ⟨V, hV⟩ : ∃ V, taiV B E f n u x = V := ⟨_, rfl⟩
  obtain ⟨y, hy⟩ : ∃ y, utE B E f n t = y := ⟨_, rfl⟩
  rw [hy] at h1
  have g1 : decide (y = 0) = false := decide_eq_false h1
  have g2 : (y == 0) = false := by simpa using h1
  have g3 : (y != 0) = true := by simp [bne, g2]
  have H1 := Lib.hid hy
  clear hy h1
  obtain ⟨z, hz⟩ : ∃ z, taiE B E f n u x = z := ⟨_, rfl⟩
  rw [hz] at h2
  have q1 : decide (z = 0) = false := decide_eq_false h2
  have q2 : (z == 0) = false := by simpa using h2
  have q3 : (z != 0) = true := by simp [bne, q2]
  have H2 := Lib.hid hz
  clear hz h2
  have HU := Lib.hid hU
  have HP := Lib.hid hP
  have HV := Lib.hid hV
  clear hU hP hV hn
  have S0' := Lib.hid (lwl_new w B E a n c f u x t hr ht hp he)
  clear ht hp he hr
  obtain ⟨v0, hv0⟩ : ∃ v, (w.alloc (.cells #[.int .i64 B, .int .i64 E, .slice a n c] 24)).alloc (.cells #[.int .i64 u, .bool x, .int .i64 t] 30) = v := ⟨_, rfl⟩
  obtain ⟨x0, hx0⟩ : ∃ v, w.alloc (.cells #[.int .i64 B, .int .i64 E, .slice a n c] 24) = v := ⟨_, rfl⟩
  obtain ⟨G, hG⟩ : ∃ G, w.heap.size = G := ⟨_, rfl⟩
  have S0 : Hid (LwL w v0 G (G + 1) B E a n c f u x t) := Lib.hid (by rw [← hv0, ← hG]; exact S0'.out)
  clear S0'
  rw [hx0] at hv0
  have sx0 : x0.heap.size = G + 1 := by rw [← hx0, ← hG]; simp
  obtain ⟨t0', t1', t2', t3', t4', t5'⟩ := S0.out.cells
  go_enter Tryz.func5, Tryz.ntmps5
  go_wp2_with fail
  refine (small6_v HN.out v0).mono ?_
  rintro e v1 ⟨rfl, hbl⟩
  have S1 := Lib.hid (S0.out.below hbl)
  clear hbl S0 t0' t1' t2' t3' t4' t5' hx0 hv0 sx0 hG
  obtain ⟨t0, t1, t2, t3, t4, t5⟩ := S1.out.cells
  go_wp2_with fail
  refine (lutc_v HU.out HP.out H1.out v1 S1.out.mt S1.out.lrd tb0 tb1).mono ?_
  rintro e v2 ⟨rfl, hbl⟩
  have S2 := Lib.hid (S1.out.below hbl)
  clear hbl S1 t0 t1 t2 t3 t4 t5
  obtain ⟨t0, t1, t2, t3, t4, t5⟩ := S2.out.cells
  go_wp2_with fail
  refine (ltai_v HV.out H2.out v2 S2.out.mt S2.out.lrd).mono ?_
  rintro e v3 ⟨rfl, hbl⟩
  have S3 := Lib.hid (S2.out.below hbl)
  clear hbl S2 t0 t1 t2 t3 t4 t5
  obtain ⟨t0, t1, t2, t3, t4, t5⟩ := S3.out.cells
  go_wp2_with fail
  refine (awake6_any v3 S3.out.mt S3.out.tab S3.out.errs).mono ?_
  rintro e v4 ⟨rfl, hbl⟩
  have S4 := Lib.hid (S3.out.below hbl)
  go_wp2_with fail
  go_ret
  exact ⟨rfl, S4.out.bel⟩

theorem onetoone_law (B E : Int) (a : Option Addr) (n c : Nat) (f : Nat → Int × Int) (u : Int) (x : Bool) (t : Int) (w : World) (ht : MT w) (hp : Tab w) (he : Errs w) (hr : LRd w w.heap.size a n f) (t0 : -9223372036854775808 ≤ t) (t1 : t ≤ 9223372036854775807) :
    Calls Tryz.prog 5 #[.agg #[.int .i64 B, .int .i64 E, .slice a n c], .agg #[.int .i64 u, .bool x, .int .i64 t]] w fun e w' => e = .returned (.bool true) ∧ Below w.heap.size w w' := by
  by_cases hn : n ≤ 70
  · by_cases h1 : utE B E f n t = 0 <;> by_cases h2 : taiE B E f n u x = 0
    · exact onetoone_00 B E a n c f u x t w ht hp he hr t0 t1 hn h1 h2
    · exact onetoone_01 B E a n c f u x t w ht hp he hr t0 t1 hn h1 h2
    · exact onetoone_10 B E a n c f u x t w ht hp he hr t0 t1 hn h1 h2
    · exact onetoone_11 B E a n c f u x t w ht hp he hr t0 t1 hn h1 h2
  · exact onetoone_large B E a n c f u x t w ht hp he hr t0 t1 hn
end Go.Proofs.YtegpajdahanhfaaGreatDoor
