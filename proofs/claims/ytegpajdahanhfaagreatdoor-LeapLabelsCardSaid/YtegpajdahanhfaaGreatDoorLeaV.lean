/- The laws of layer 6: awake. -/
import Derived.Test.YtegpajdahanhfaaGreatDoorLeaU
namespace Go.Proofs.YtegpajdahanhfaaGreatDoor
open Go.RowKit Go.Shelf Fx Cv Lp

theorem awT (b : Nat) (w : World) (ht : MT w) (hr : LRd w w.heap.size (some ⟨b, 0, none⟩) 1 fT) :
    Calls Tryz.prog 14 #[.agg #[.int .i64 36, .int .i64 3900000000, .slice (some ⟨b, 0, none⟩) 1 1], .int .i64 3692217599, .bool true] w fun e w' => e = .returned (.tuple #[.int .i64 3692217636, .int .i64 0]) ∧ Below w.heap.size w w' := by
  have h := ltai_any 36 3900000000 (some ⟨b, 0, none⟩) 1 1 fT 3692217599 true w ht hr
  rw [aw_tai.1, aw_tai.2] at h
  exact h
theorem awT2 (b : Nat) (w : World) (ht : MT w) (hr : LRd w w.heap.size (some ⟨b, 0, none⟩) 1 f35) :
    Calls Tryz.prog 14 #[.agg #[.int .i64 36, .int .i64 3900000000, .slice (some ⟨b, 0, none⟩) 1 1], .int .i64 3692217599, .bool false] w fun e w' => e = .returned (.tuple #[.int .i64 0, .int .i64 11]) ∧ Below w.heap.size w w' := by
  have h := ltai_any 36 3900000000 (some ⟨b, 0, none⟩) 1 1 f35 3692217599 false w ht hr
  rw [aw_tai2.1, aw_tai2.2] at h
  exact h
theorem awU (b : Nat) (w : World) (ht : MT w) (hr : LRd w w.heap.size (some ⟨b, 0, none⟩) 1 fT) :
    Calls Tryz.prog 16 #[.agg #[.int .i64 36, .int .i64 3900000000, .slice (some ⟨b, 0, none⟩) 1 1], .int .i64 3692217636] w fun e w' => e = .returned (.tuple #[.int .i64 3692217599, .bool true, .int .i64 0]) ∧ Below w.heap.size w w' := by
  have h := lutc_any 36 3900000000 (some ⟨b, 0, none⟩) 1 1 fT 3692217636 w ht hr (by omega) (by omega)
  rw [aw_utc.1, aw_utc.2.1, aw_utc.2.2] at h
  exact h
theorem awC (b : Nat) (w : World) (ht : MT w) (hr : LRd w w.heap.size (some ⟨b, 0, none⟩) 1 fT) :
    Calls Tryz.prog 12 #[.agg #[.int .i64 36, .int .i64 3900000000, .slice (some ⟨b, 0, none⟩) 1 1]] w fun e w' => e = .returned (.int .i64 0) ∧ Below w.heap.size w w' := by
  have h := lchk_any 36 3900000000 (some ⟨b, 0, none⟩) 1 1 fT w ht hr
  rw [aw_chk] at h
  exact h
theorem awO1 (b : Nat) (w : World) (ht : MT w) (hr : LRd w w.heap.size (some ⟨b, 0, none⟩) 1 fT) :
    Calls Tryz.prog 18 #[.agg #[.int .i64 36, .int .i64 3900000000, .slice (some ⟨b, 0, none⟩) 1 1], .int .i64 3692217599] w fun e w' => e = .returned (.int .i64 36) ∧ Below w.heap.size w w' := by
  have h := loffset_any 36 3900000000 (some ⟨b, 0, none⟩) 1 1 fT 3692217599 w ht hr
  rw [aw_off.1] at h
  exact h
theorem awO2 (b : Nat) (w : World) (ht : MT w) (hr : LRd w w.heap.size (some ⟨b, 0, none⟩) 1 fT) :
    Calls Tryz.prog 18 #[.agg #[.int .i64 36, .int .i64 3900000000, .slice (some ⟨b, 0, none⟩) 1 1], .int .i64 3692217600] w fun e w' => e = .returned (.int .i64 37) ∧ Below w.heap.size w w' := by
  have h := loffset_any 36 3900000000 (some ⟨b, 0, none⟩) 1 1 fT 3692217600 w ht hr
  rw [aw_off.2] at h
  exact h
theorem awI0 (b : Nat) (w : World) (ht : MT w) (hr : LRd w w.heap.size (some ⟨b, 0, none⟩) 1 fT) :
    Calls Tryz.prog 24 #[.agg #[.int .i64 36, .int .i64 3900000000, .slice (some ⟨b, 0, none⟩) 1 1], .int .i64 3692217599] w fun e w' => e = .returned (.int .i64 1) ∧ Below w.heap.size w w' := by
  have h := lind_any 36 3900000000 (some ⟨b, 0, none⟩) 1 1 fT 3692217599 w ht hr
  rw [aw_ind.1] at h
  exact h
theorem awI1 (b : Nat) (w : World) (ht : MT w) (hr : LRd w w.heap.size (some ⟨b, 0, none⟩) 1 fT) :
    Calls Tryz.prog 24 #[.agg #[.int .i64 36, .int .i64 3900000000, .slice (some ⟨b, 0, none⟩) 1 1], .int .i64 3689539200] w fun e w' => e = .returned (.int .i64 1) ∧ Below w.heap.size w w' := by
  have h := lind_any 36 3900000000 (some ⟨b, 0, none⟩) 1 1 fT 3689539200 w ht hr
  rw [aw_ind.2.1] at h
  exact h
theorem awI2 (b : Nat) (w : World) (ht : MT w) (hr : LRd w w.heap.size (some ⟨b, 0, none⟩) 1 fT) :
    Calls Tryz.prog 24 #[.agg #[.int .i64 36, .int .i64 3900000000, .slice (some ⟨b, 0, none⟩) 1 1], .int .i64 3689539199] w fun e w' => e = .returned (.int .i64 0) ∧ Below w.heap.size w w' := by
  have h := lind_any 36 3900000000 (some ⟨b, 0, none⟩) 1 1 fT 3689539199 w ht hr
  rw [aw_ind.2.2.1] at h
  exact h
theorem awI3 (b : Nat) (w : World) (ht : MT w) (hr : LRd w w.heap.size (some ⟨b, 0, none⟩) 1 fT) :
    Calls Tryz.prog 24 #[.agg #[.int .i64 36, .int .i64 3900000000, .slice (some ⟨b, 0, none⟩) 1 1], .int .i64 3692217600] w fun e w' => e = .returned (.int .i64 0) ∧ Below w.heap.size w w' := by
  have h := lind_any 36 3900000000 (some ⟨b, 0, none⟩) 1 1 fT 3692217600 w ht hr
  rw [aw_ind.2.2.2.1] at h
  exact h
theorem awI4 (b : Nat) (w : World) (ht : MT w) (hr : LRd w w.heap.size (some ⟨b, 0, none⟩) 1 fT) :
    Calls Tryz.prog 24 #[.agg #[.int .i64 36, .int .i64 3900000000, .slice (some ⟨b, 0, none⟩) 1 1], .int .i64 3900000000] w fun e w' => e = .returned (.int .i64 3) ∧ Below w.heap.size w w' := by
  have h := lind_any 36 3900000000 (some ⟨b, 0, none⟩) 1 1 fT 3900000000 w ht hr
  rw [aw_ind.2.2.2.2] at h
  exact h
theorem awN (b : Nat) (w : World) (ht : MT w) (hr : LRd w w.heap.size (some ⟨b, 0, none⟩) 1 fT) :
    Calls Tryz.prog 25 #[.agg #[.int .i64 36, .int .i64 3900000000, .slice (some ⟨b, 0, none⟩) 1 1], .int .i64 0] w fun e w' => e = .returned (.tuple #[.agg #[.int .i64 3692217600, .int .i64 37], .bool true]) ∧ Below w.heap.size w w' := by
  have h := lnext_any 36 3900000000 (some ⟨b, 0, none⟩) 1 1 fT 0 w ht hr
  rw [aw_nx.1, aw_nx.2] at h
  exact h
theorem awX (b : Nat) (w : World) (ht : MT w) (hp : Tab w) (hr : LRd w w.heap.size (some ⟨b, 0, none⟩) 1 fT) :
    Calls Tryz.prog 21 #[.agg #[.int .i64 36, .int .i64 3900000000, .slice (some ⟨b, 0, none⟩) 1 1]] w fun e w' => e = .returned (.string ⟨#[35, 64, 32, 51, 57, 48, 48, 48, 48, 48, 48, 48, 48, 10, 35, 61, 32, 51, 54, 10, 51, 54, 57, 50, 50, 49, 55, 54, 48, 48, 32, 51, 55, 10]⟩) ∧ Below w.heap.size w w' := by
  have h := ltext_any 36 3900000000 (some ⟨b, 0, none⟩) 1 1 fT w ht hp hr
  rw [aw_txt] at h
  exact h
theorem xT_asc : Asc xT := by
  have : xT.data.toList.all (fun b => decide (b.toNat < 128)) = true := by kernel_rfl
  intro b hb
  simpa using List.all_eq_true.1 this b hb
def Lp.EB (g : Nat) (v : World) : Prop := g < v.heap.size ∧ v.cell? ⟨g, 0, none⟩ = some (.int .i64 3692217600) ∧ v.cell? ⟨g, 1, none⟩ = some (.int .i64 37)
/-- The table that was read, in a world. -/
def Lp.QP (d1 g c : Nat) (v : World) : Prop := TBx v d1 36 3900000000 (some ⟨g, 0, none⟩) 1 c ∧ EB g v
theorem Lp.QP.step {d1 g c C : Nat} {v v' : World} (h : QP d1 g c v) (hs : v.heap.size ≤ v'.heap.size) (hk : ∀ k, k < v.heap.size → k ≠ C → v'.heap[k]? = v.heap[k]?) (n1 : d1 ≠ C) (n3 : g ≠ C) : QP d1 g c v' := by
  obtain ⟨h1, h2, h3, h4⟩ := h
  have e : v'.heap[g]? = v.heap[g]? := hk g h2 n3
  exact ⟨(hk d1 h1.lt n1).trans h1, Nat.lt_of_lt_of_le h2 hs, (World.cell?_of_block (a := ⟨g, 0, none⟩) e).trans h3, (World.cell?_of_block (a := ⟨g, 1, none⟩) e).trans h4⟩
theorem Lp.QP.below {d1 g c : Nat} {v v' : World} (h : QP d1 g c v) (hb : Below v.heap.size v v') : QP d1 g c v' :=
  h.step (C := v.heap.size) hb.size (fun k hk _ => hb.block k hk) (by have := h.1.lt; omega) (by have := h.2.1; omega)
theorem Lp.EB.lrd {g : Nat} {v : World} (h : EB g v) : LRd v v.heap.size (some ⟨g, 0, none⟩) 1 fT := fun _ => by
  refine ⟨g, 0, rfl, h.1, fun i hi => ?_⟩
  obtain rfl : i = 0 := by omega
  exact ⟨h.2.1, h.2.2⟩
theorem Lp.allocB (v : World) (o : Obj) : Below v.heap.size v (v.alloc o) := (Below.refl _ v).alloc (Nat.le_refl _) o
theorem awP (w : World) (ht : MT w) (hp : Tab w) (he : Errs w) :
    Calls Tryz.prog 19 #[.string xT] w fun e w' => ∃ g c, e = .returned (.tuple #[.agg #[.int .i64 36, .int .i64 3900000000, .slice (some ⟨g, 0, none⟩) 1 c], .int .i64 0]) ∧ w.heap.size ≤ g ∧ EB g w' ∧ Below w.heap.size w w' := by
  refine (lparse_any xT (by decide) xT_asc w hp he ht).mono ?_
  intro e w' h
  unfold PPost at h
  rw [aw_par] at h
  obtain ⟨hb, v, he', hrow⟩ := h
  obtain ⟨g, c, rfl⟩ := ownsRow_succ (k := 0) hrow
  have hge := row_ge hrow g rfl
  obtain ⟨b, off, h1, h2, h3⟩ := row_lrd hrow rfl (by decide)
  cases h1
  exact ⟨g, c, he', hge, ⟨h2, (h3 0 (by decide)).1, (h3 0 (by decide)).2⟩, hb⟩
/-- What the small case's table is, in a world. -/
def Lp.AW (b G d : Nat) (w v : World) (y : Int) : Prop := PBx v b 3692217600 y ∧ TBx v G 36 3900000000 (some ⟨b, 0, none⟩) 1 1 ∧ Below d w v
theorem Lp.AW.below {b G d : Nat} {w v v' : World} {y : Int} (h : AW b G d w v y) (hb : Below v.heap.size v v') (hd : d ≤ v.heap.size) : AW b G d w v' y :=
  ⟨h.1.below hb h.1.lt, h.2.1.below hb h.2.1.lt, h.2.2.trans (hb.mono hd)⟩
theorem Lp.AW.lrd {b G d : Nat} {w v : World} {y : Int} (h : AW b G d w v y) : LRd v v.heap.size (some ⟨b, 0, none⟩) 1 (fun _ => (3692217600, y)) := fun _ => by
  obtain ⟨c0, c1, _, _⟩ := h.1.cells
  refine ⟨b, 0, rfl, h.1.lt, fun i hi => ?_⟩
  obtain rfl : i = 0 := by omega
  exact ⟨c0, c1⟩

set_option maxRecDepth 100000 in
set_option maxHeartbeats 4000000 in
theorem awake6_any (w : World) (ht : MT w) (hp : Tab w) (he : Errs w) :
    Calls Tryz.prog 11 #[] w fun e w' => e = .returned (.bool true) ∧ Below w.heap.size w w' := by
  have HM := Lib.hid ht
  have HP := Lib.hid hp
  have HE := Lib.hid he
  clear ht hp he
  obtain ⟨b, hb⟩ : ∃ b, w.heap.size = b := ⟨_, rfl⟩
  obtain ⟨x0, hx0⟩ : ∃ v, w.alloc (.cells #[.int .i64 3692217600, .int .i64 37] 44) = v := ⟨_, rfl⟩
  have sx0 : x0.heap.size = b + 1 := by rw [← hx0, ← hb]; simp
  obtain ⟨v0, hv0⟩ : ∃ v, x0.alloc (.cells #[.int .i64 36, .int .i64 3900000000, .slice (some ⟨b, 0, none⟩) 1 1] 24) = v := ⟨_, rfl⟩
  have A0 : Hid (AW b (b + 1) b w v0 37) := Lib.hid ⟨by rw [← hv0, ← hx0, ← hb]; exact (pbx_new w _ _).alloc _, by rw [← hv0, ← sx0]; exact tbx_new x0 _ _ _ _ _, by
    rw [← hv0, ← hx0, ← hb]; exact ((Below.refl _ w).alloc (Nat.le_refl _) _).alloc (by simp) _⟩
  have z0 : b ≤ v0.heap.size := by rw [← hv0]; simp [sx0]; omega
  have HM0 : Hid (MT v0) := Lib.hid (HM.out.below (by rw [hb]; exact A0.out.2.2))
  have HP0 : Hid (Tab v0) := Lib.hid (HP.out.below (by rw [hb]; exact A0.out.2.2))
  have HE0 : Hid (Errs v0) := Lib.hid (HE.out.below (by rw [hb]; exact A0.out.2.2))
  have HB := Lib.hid hb
  obtain ⟨t0, t1, t2⟩ := A0.out.2.1.cells
  go_enter Tryz.func11, Tryz.ntmps11
  go_wp2_with fail
  clear hb hx0 hv0 sx0
  refine (awT b v0 HM0.out A0.out.lrd).mono ?_
  rintro e v1 ⟨rfl, hbl⟩
  have A1 := Lib.hid (A0.out.below hbl z0)
  have HM1 := Lib.hid (HM0.out.below hbl)
  have HP1 := Lib.hid (HP0.out.below hbl)
  have HE1 := Lib.hid (HE0.out.below hbl)
  have z1 : b ≤ v1.heap.size := Nat.le_trans z0 hbl.size
  clear hbl t0 t1 t2 A0 HM0 HP0 HE0 z0
  obtain ⟨t0, t1, t2⟩ := A1.out.2.1.cells
  go_wp2_with fail
  refine (awU b v1 HM1.out A1.out.lrd).mono ?_
  rintro e v2 ⟨rfl, hbl⟩
  have A2 := Lib.hid (A1.out.below hbl z1)
  have HM2 := Lib.hid (HM1.out.below hbl)
  have HP2 := Lib.hid (HP1.out.below hbl)
  have HE2 := Lib.hid (HE1.out.below hbl)
  have z2 : b ≤ v2.heap.size := Nat.le_trans z1 hbl.size
  clear hbl t0 t1 t2 A1 HM1 HP1 HE1 z1
  obtain ⟨t0, t1, t2⟩ := A2.out.2.1.cells
  go_wp2_with fail
  refine (awC b v2 HM2.out A2.out.lrd).mono ?_
  rintro e v3 ⟨rfl, hbl⟩
  have A3 := Lib.hid (A2.out.below hbl z2)
  have HM3 := Lib.hid (HM2.out.below hbl)
  have HP3 := Lib.hid (HP2.out.below hbl)
  have HE3 := Lib.hid (HE2.out.below hbl)
  have z3 : b ≤ v3.heap.size := Nat.le_trans z2 hbl.size
  clear hbl t0 t1 t2 A2 HM2 HP2 HE2 z2
  obtain ⟨t0, t1, t2⟩ := A3.out.2.1.cells
  go_wp2_with fail
  refine (awO1 b v3 HM3.out A3.out.lrd).mono ?_
  rintro e v4 ⟨rfl, hbl⟩
  have A4 := Lib.hid (A3.out.below hbl z3)
  have HM4 := Lib.hid (HM3.out.below hbl)
  have HP4 := Lib.hid (HP3.out.below hbl)
  have HE4 := Lib.hid (HE3.out.below hbl)
  have z4 : b ≤ v4.heap.size := Nat.le_trans z3 hbl.size
  clear hbl t0 t1 t2 A3 HM3 HP3 HE3 z3
  obtain ⟨t0, t1, t2⟩ := A4.out.2.1.cells
  go_wp2_with fail
  refine (awO2 b v4 HM4.out A4.out.lrd).mono ?_
  rintro e v5 ⟨rfl, hbl⟩
  have A5 := Lib.hid (A4.out.below hbl z4)
  have HM5 := Lib.hid (HM4.out.below hbl)
  have HP5 := Lib.hid (HP4.out.below hbl)
  have HE5 := Lib.hid (HE4.out.below hbl)
  have z5 : b ≤ v5.heap.size := Nat.le_trans z4 hbl.size
  clear hbl t0 t1 t2 A4 HM4 HP4 HE4 z4
  obtain ⟨t0, t1, t2⟩ := A5.out.2.1.cells
  go_wp2_with fail
  refine (awI0 b v5 HM5.out A5.out.lrd).mono ?_
  rintro e v6 ⟨rfl, hbl⟩
  have A6 := Lib.hid (A5.out.below hbl z5)
  have HM6 := Lib.hid (HM5.out.below hbl)
  have HP6 := Lib.hid (HP5.out.below hbl)
  have HE6 := Lib.hid (HE5.out.below hbl)
  have z6 : b ≤ v6.heap.size := Nat.le_trans z5 hbl.size
  clear hbl t0 t1 t2 A5 HM5 HP5 HE5 z5
  obtain ⟨t0, t1, t2⟩ := A6.out.2.1.cells
  go_wp2_with fail
  refine (awI1 b v6 HM6.out A6.out.lrd).mono ?_
  rintro e v7 ⟨rfl, hbl⟩
  have A7 := Lib.hid (A6.out.below hbl z6)
  have HM7 := Lib.hid (HM6.out.below hbl)
  have HP7 := Lib.hid (HP6.out.below hbl)
  have HE7 := Lib.hid (HE6.out.below hbl)
  have z7 : b ≤ v7.heap.size := Nat.le_trans z6 hbl.size
  clear hbl t0 t1 t2 A6 HM6 HP6 HE6 z6
  obtain ⟨t0, t1, t2⟩ := A7.out.2.1.cells
  go_wp2_with fail
  refine (awI2 b v7 HM7.out A7.out.lrd).mono ?_
  rintro e v8 ⟨rfl, hbl⟩
  have A8 := Lib.hid (A7.out.below hbl z7)
  have HM8 := Lib.hid (HM7.out.below hbl)
  have HP8 := Lib.hid (HP7.out.below hbl)
  have HE8 := Lib.hid (HE7.out.below hbl)
  have z8 : b ≤ v8.heap.size := Nat.le_trans z7 hbl.size
  clear hbl t0 t1 t2 A7 HM7 HP7 HE7 z7
  obtain ⟨t0, t1, t2⟩ := A8.out.2.1.cells
  go_wp2_with fail
  refine (awI3 b v8 HM8.out A8.out.lrd).mono ?_
  rintro e v9 ⟨rfl, hbl⟩
  have A9 := Lib.hid (A8.out.below hbl z8)
  have HM9 := Lib.hid (HM8.out.below hbl)
  have HP9 := Lib.hid (HP8.out.below hbl)
  have HE9 := Lib.hid (HE8.out.below hbl)
  have z9 : b ≤ v9.heap.size := Nat.le_trans z8 hbl.size
  clear hbl t0 t1 t2 A8 HM8 HP8 HE8 z8
  obtain ⟨t0, t1, t2⟩ := A9.out.2.1.cells
  go_wp2_with fail
  refine (awI4 b v9 HM9.out A9.out.lrd).mono ?_
  rintro e v10 ⟨rfl, hbl⟩
  have A10 := Lib.hid (A9.out.below hbl z9)
  have HM10 := Lib.hid (HM9.out.below hbl)
  have HP10 := Lib.hid (HP9.out.below hbl)
  have HE10 := Lib.hid (HE9.out.below hbl)
  have z10 : b ≤ v10.heap.size := Nat.le_trans z9 hbl.size
  clear hbl t0 t1 t2 A9 HM9 HP9 HE9 z9
  obtain ⟨t0, t1, t2⟩ := A10.out.2.1.cells
  go_wp2_with fail
  refine (awP v10 HM10.out HP10.out HE10.out).mono ?_
  rintro e v11 ⟨g, c, rfl, hgb, hEB, hbl⟩
  have A11 := Lib.hid (A10.out.below hbl z10)
  have HM11 := Lib.hid (HM10.out.below hbl)
  have HP11 := Lib.hid (HP10.out.below hbl)
  have z11 : b + 1 < v11.heap.size := A11.out.2.1.lt
  have hgb1 : b + 1 < g := Nat.lt_of_lt_of_le A10.out.2.1.lt hgb
  have hgl : g < v11.heap.size := hEB.1
  obtain ⟨d1, hd1⟩ : ∃ d, v11.heap.size = d := ⟨_, rfl⟩
  obtain ⟨v12, hv12⟩ : ∃ v, v11.alloc (.cells #[.int .i64 36, .int .i64 3900000000, .slice (some ⟨g, 0, none⟩) 1 c] 24) = v := ⟨_, rfl⟩
  have hb12 : Below v11.heap.size v11 v12 := by rw [← hv12]; exact allocB _ _
  have HQ12 : Hid (QP d1 g c v12) := Lib.hid ⟨by rw [← hv12, ← hd1]; exact tbx_new v11 _ _ _ _ _, (show EB g v12 from ⟨Nat.lt_of_lt_of_le hgl hb12.size, (hb12.cell (p := ⟨g, 0, none⟩) hgl).trans hEB.2.1, (hb12.cell (p := ⟨g, 1, none⟩) hgl).trans hEB.2.2⟩)⟩
  have A12 := Lib.hid (A11.out.below hb12 (by omega))
  have HM12 := Lib.hid (HM11.out.below hb12)
  have HP12 := Lib.hid (HP11.out.below hb12)
  have s12 : d1 < v12.heap.size := by rw [← hv12, ← hd1]; simp
  rw [hd1] at hgl z11
  have HD1 := Lib.hid hd1
  clear hbl hEB t0 t1 t2 A10 HM10 HP10 HE10 z10 hgb hb12 A11 HM11 HP11
  obtain ⟨t0, t1, t2⟩ := A12.out.2.1.cells
  go_wp2_with fail
  clear hd1 hv12
  refine (awN b v12 HM12.out A12.out.lrd).mono ?_
  rintro e v13 ⟨rfl, hbl⟩
  have A13 := Lib.hid (A12.out.below hbl (by omega))
  have HQ13 := Lib.hid (HQ12.out.below hbl)
  have HM13 := Lib.hid (HM12.out.below hbl)
  have HP13 := Lib.hid (HP12.out.below hbl)
  have s13 : d1 < v13.heap.size := HQ13.out.1.lt
  clear hbl t0 t1 t2 A12 HM12 HP12 HQ12 s12
  obtain ⟨d2, hd2⟩ : ∃ d, v13.heap.size = d := ⟨_, rfl⟩
  obtain ⟨v14, hv14⟩ : ∃ v, v13.alloc (.cells #[.int .i64 3692217600, .int .i64 37] 44) = v := ⟨_, rfl⟩
  have hb14 : Below v13.heap.size v13 v14 := by rw [← hv14]; exact allocB _ _
  have N14 : PBx v14 d2 3692217600 37 := by rw [← hv14, ← hd2]; exact pbx_new v13 _ _
  have A14 := A13.out.below hb14 (by omega)
  have Q14 := HQ13.out.below hb14
  have M14 := HM13.out.below hb14
  have P14 := HP13.out.below hb14
  have s14 : v14.heap.size = d2 + 1 := by rw [← hv14, ← hd2]; simp
  obtain ⟨v15, hv15⟩ : ∃ v, v14.alloc (.cells #[.int .i64 3692217600, .int .i64 35] 44) = v := ⟨_, rfl⟩
  have hb15 : Below v14.heap.size v14 v15 := by rw [← hv15]; exact allocB _ _
  have E15 : PBx v15 (d2 + 1) 3692217600 35 := by rw [← hv15, ← s14]; exact pbx_new v14 _ _
  have A15 := A14.below hb15 (by omega)
  have Q15 := Q14.below hb15
  have N15 := N14.below hb15 (by omega)
  have M15 := M14.below hb15
  have P15 := P14.below hb15
  obtain ⟨v16, hv16⟩ : ∃ v, v15.setCell ⟨b + 1, 2, none⟩ (.slice (some ⟨d2 + 1, 0, none⟩) 1 1) = v := ⟨_, rfl⟩
  have k16 : ∀ k, k ≠ b + 1 → v16.heap[k]? = v15.heap[k]? := fun k hk => by rw [← hv16]; exact Below.heap_setCell v15 ⟨b + 1, 2, none⟩ _ k hk
  have z16 : v15.heap.size = v16.heap.size := by rw [← hv16]; exact (World.size_setCell _ _ _).symm
  have T16 : TBx v16 (b + 1) 36 3900000000 (some ⟨d2 + 1, 0, none⟩) 1 1 := by rw [← hv16]; exact (setblk (i := 2) A15.2.1 _)
  have B16 : Below b w v16 := by rw [← hv16]; exact A15.2.2.setCell (p := ⟨b + 1, 2, none⟩) (show b ≤ b + 1 by omega) _
  have A16 : Hid (AW (d2 + 1) (b + 1) b w v16 35) := Lib.hid ⟨(k16 (d2 + 1) (by omega)).trans E15, T16, B16⟩
  have Q16 := Lib.hid (Q15.step (C := b + 1) (by omega) (fun k _ hk => k16 k hk) (by omega) (by omega))
  have N16 : Hid (PBx v16 d2 3692217600 37) := Lib.hid ((k16 d2 (by omega)).trans N15)
  have M16 : Hid (MT v16) := Lib.hid (HM.out.below (by rw [HB.out]; exact B16))
  have P16 : Hid (Tab v16) := Lib.hid (HP.out.below (by rw [HB.out]; exact B16))
  have HS14 := Lib.hid s14
  have l15 : d2 + 1 < v15.heap.size := E15.lt
  obtain ⟨q0, q1, q2⟩ := A13.out.2.1.cells
  have y2 : v15.cell? ⟨b + 1, 2, none⟩ = some (.slice (some ⟨b, 0, none⟩) 1 1) := A15.2.1.cells.2.2
  have y3 : v15.frozen? ⟨b + 1, 2, none⟩ = false := by simp [World.frozen?, show v15.heap[b + 1]? = _ from A15.2.1]
  obtain ⟨t0, t1, t2⟩ := T16.cells
  clear N14 A14 Q14 M14 P14 E15 A15 Q15 N15 M15 P15 k16 T16 B16 hb14 hb15 A13 HQ13 HM13 HP13
  go_wp2_with fail
  have o12 : d1 < d2 := by omega
  have o16 : d2 + 1 < v16.heap.size := by omega
  clear hd2 hv14 hv15 hv16 q0 q1 q2 y2 y3
  refine (awT2 (d2 + 1) v16 M16.out A16.out.lrd).mono ?_
  rintro e v17 ⟨rfl, hbl⟩
  have A17 := A16.out.below hbl (by omega)
  have Q17 := Q16.out.below hbl
  have N17 := N16.out.below hbl N16.out.lt
  obtain ⟨v18, hv18⟩ : ∃ v, v17.setCell ⟨d2 + 1, 1, none⟩ (.int .i64 37) = v := ⟨_, rfl⟩
  have k18 : ∀ k, k ≠ d2 + 1 → v18.heap[k]? = v17.heap[k]? := fun k hk => by rw [← hv18]; exact Below.heap_setCell v17 ⟨d2 + 1, 1, none⟩ _ k hk
  have z18 : v17.heap.size = v18.heap.size := by rw [← hv18]; exact (World.size_setCell _ _ _).symm
  have E18 : PBx v18 (d2 + 1) 3692217600 37 := by rw [← hv18]; exact A17.1.set1 37
  have B18 : Below b w v18 := by rw [← hv18]; exact A17.2.2.setCell (p := ⟨d2 + 1, 1, none⟩) (show b ≤ d2 + 1 by omega) _
  have A18 : AW (d2 + 1) (b + 1) b w v18 37 := ⟨E18, (k18 (b + 1) (by omega)).trans A17.2.1, B18⟩
  have Q18 := Q17.step (C := d2 + 1) (by omega) (fun k _ hk => k18 k hk) (by omega) (by omega)
  have N18 : PBx v18 d2 3692217600 37 := (k18 d2 (by omega)).trans N17
  have M18 : Hid (MT v18) := Lib.hid (HM.out.below (by rw [HB.out]; exact B18))
  have P18 : Hid (Tab v18) := Lib.hid (HP.out.below (by rw [HB.out]; exact B18))
  have y2 : v17.cell? ⟨b + 1, 2, none⟩ = some (.slice (some ⟨d2 + 1, 0, none⟩) 1 1) := A17.2.1.cells.2.2
  obtain ⟨_, y3, _, y4⟩ := A17.1.cells
  have o18 : d2 + 1 < v18.heap.size := E18.lt
  have HA18 := Lib.hid A18
  have HQ18 := Lib.hid Q18
  have HN18 := Lib.hid N18
  obtain ⟨t0, t1, t2⟩ := A18.2.1.cells
  obtain ⟨e0, e1, _, _⟩ := A18.1.cells
  obtain ⟨p0, p1, p2⟩ := Q18.1.cells
  obtain ⟨n0, n1, _, _⟩ := N18.cells
  clear hbl A16 Q16 N16 M16 P16 A17 Q17 N17 k18 E18 B18 A18 Q18 N18
  go_wp2_with fail
  clear hv18 y2 y3 y4
  go_region_held3 (fun v => v.cell? ⟨b + 1, 0, none⟩ = some (.int .i64 36) ∧ v.cell? ⟨b + 1, 1, none⟩ = some (.int .i64 3900000000) ∧ v.cell? ⟨b + 1, 2, none⟩ = some (.slice (some ⟨d2 + 1, 0, none⟩) 1 1) ∧ v.cell? ⟨d2 + 1, 0, none⟩ = some (.int .i64 3692217600) ∧ v.cell? ⟨d2 + 1, 1, none⟩ = some (.int .i64 37) ∧ v.cell? ⟨d1, 0, none⟩ = some (.int .i64 36) ∧ v.cell? ⟨d1, 1, none⟩ = some (.int .i64 3900000000) ∧ v.cell? ⟨d1, 2, none⟩ = some (.slice (some ⟨g, 0, none⟩) 1 c) ∧ v.cell? ⟨d2, 0, none⟩ = some (.int .i64 3692217600) ∧ v.cell? ⟨d2, 1, none⟩ = some (.int .i64 37)) (go_keep)
    (first
    | (go_at_call 21; refine (awX (d2 + 1) _ ?_ ?_ ?_).mono ?_; exact M18.out; exact P18.out; exact HA18.out.lrd; rintro e v19 ⟨rfl, hbl⟩; have hb19 : Below v18.heap.size v18 v19 := ⟨hbl.os, hbl.tape, hbl.output, hbl.size, hbl.block⟩; have A19 := HA18.out.below hb19 (by omega); have Q19 := HQ18.out.below hb19; have N19 := HN18.out.below hb19 HN18.out.lt; obtain ⟨tt0, tt1, tt2⟩ := A19.2.1.cells; obtain ⟨ee0, ee1, _, _⟩ := A19.1.cells; obtain ⟨pp0, pp1, pp2⟩ := Q19.1.cells; obtain ⟨nn0, nn1, _, _⟩ := N19.cells; have HA19 := Lib.hid A19; have HQ19 := Lib.hid Q19; have HN19 := Lib.hid N19; have z19 : b ≤ v19.heap.size := (by have := hb19.size; omega); clear hbl hb19 A19 Q19 N19 t0 t1 t2 e0 e1 p0 p1 p2 n0 n1)
    | (go_at_call 23; refine (same6_eq 36 3900000000 (some ⟨g, 0, none⟩) (some ⟨d2 + 1, 0, none⟩) 1 c 1 fT _ ?_ ?_ (by omega)).mono ?_; exact HQ19.out.2.lrd; exact HA19.out.lrd; rintro e v20 ⟨rfl, hbl⟩; have hb20 : Below v19.heap.size v19 v20 := ⟨hbl.os, hbl.tape, hbl.output, hbl.size, hbl.block⟩; have A20 := HA19.out.below hb20 z19; have Q20 := HQ19.out.below hb20; have N20 := HN19.out.below hb20 HN19.out.lt; obtain ⟨t0, t1, t2⟩ := A20.2.1.cells; obtain ⟨e0, e1, _, _⟩ := A20.1.cells; obtain ⟨p0, p1, p2⟩ := Q20.1.cells; obtain ⟨n0, n1, _, _⟩ := N20.cells; have HA20 := Lib.hid A20; clear hbl hb20 A20 Q20 N20 tt0 tt1 tt2 ee0 ee1 pp0 pp1 pp2 nn0 nn1))
  go_wp2_with fail
  go_ret
  rw [HB.out]
  exact ⟨rfl, HA20.out.2.2⟩
end Go.Proofs.YtegpajdahanhfaaGreatDoor
