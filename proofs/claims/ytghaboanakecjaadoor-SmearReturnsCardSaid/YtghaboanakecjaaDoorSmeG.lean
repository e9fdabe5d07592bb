/- The chapter's examples of layer 7. -/
import Derived.Test.YtghaboanakecjaaDoorSmeF
namespace Go.Proofs.YtghaboanakecjaaDoor
open Go.RowKit Fx Cv Lp Sm

def Sm.fA : Nat → Int × Int := fun _ => (2287785600, 11)
theorem aw7_r1 : rdV 10 0 fA 1 1 0 2287785610999999999 = 2287785600999999999 ∧ rdE 10 0 fA 1 1 0 2287785610999999999 = 0 := ⟨by kernel_rfl, by kernel_rfl⟩
theorem aw7_r2 : rdV 10 0 fA 1 1 0 2287785611000000000 = 2287785600000000000 ∧ rdE 10 0 fA 1 1 0 2287785611000000000 = 0 := ⟨by kernel_rfl, by kernel_rfl⟩
theorem aw7_r3 : rdV 10 0 fA 1 4 1000 2287785611000000000 = 2287785601000000000 ∧ rdE 10 0 fA 1 4 1000 2287785611000000000 = 0 := ⟨by kernel_rfl, by kernel_rfl⟩
theorem aw7_r4 : rdV 10 0 fA 1 4 1000 2287786111000000000 = 2287786100500000000 ∧ rdE 10 0 fA 1 4 1000 2287786111000000000 = 0 := ⟨by kernel_rfl, by kernel_rfl⟩
theorem aw7_r5 : rdV 10 0 fA 1 3 1000 2287785611000000000 = 2287785600000000000 ∧ rdE 10 0 fA 1 3 1000 2287785611000000000 = 0 := ⟨by kernel_rfl, by kernel_rfl⟩
theorem aw7_rate : rat 10 0 fA 1 4 1000 2287785611000000000 = -1000000 := by kernel_rfl
theorem aw7_act : (smg 10 0 fA 1 4 1000 2287785610999999999 != 0) = false := by kernel_rfl
theorem aw7_chk : chkS 10 0 fA 1 1 0 = 0 := by kernel_rfl
theorem aw7_rdg {t : Int} (h : t < 2287785611000000000) : rdg 10 fA 1 1 0 t = t - 10000000000 := by
  have e : enI fA 1 0 0 = 2287785611000000000 := by kernel_rfl
  have hk : psW fA 1 1 0 t = 0 := psW_eq (by omega) (fun i hi => by omega) (fun _ => by rw [e]; exact h)
  have hf : fsI fA 1 0 0 = 2287785611000000000 := by kernel_rfl
  have hi : inW fA 1 1 0 t = false := by unfold inW; rw [hk, hf, decide_eq_false (show ¬ (2287785611000000000 : Int) ≤ t by omega)]; rfl
  have hc : plC 10 fA 1 1 0 t = 0 := by unfold plC; rw [hi]; rfl
  have ho : plO 10 fA 1 1 0 t = 10 := by unfold plO; rw [hk]; rfl
  unfold rdg
  rw [hc, ho, if_pos rfl]; omega
theorem aw7_tai {X e : Int} (h : TaiR 10 0 fA 1 1 0 2287785600000000000 X e) : X = 2287785610000000000 ∧ e = 0 := by
  have hc : cut 10 fA 1 1 0 2287785600000000000 1 = 2287785610999999999 := by kernel_rfl
  have hm : fstT 2287785600000000000 = 2287784600000000000 := by kernel_rfl
  rcases h with ⟨h, _⟩ | ⟨_, h, _⟩ | ⟨_, _, r, hf, hr⟩
  · exact absurd aw7_chk h
  · exact absurd (show isT 2287785600000000000 = true from by kernel_rfl) (by rw [h]; decide)
  · rw [hc, hm] at hf hr
    obtain ⟨r0, r1, f1, f2⟩ := hf
    have g1 : 0 < r → ¬ (2287785600000000000 : Int) ≤ 2287784600000000000 + (r - 1) - 10000000000 := by
      intro h
      have this : decide ((2287785600000000000 : Int) ≤ rdg 10 fA 1 1 0 (2287784600000000000 + (r - 1))) = false := f1 h
      have this := of_decide_eq_false this
      rw [aw7_rdg (by omega)] at this
      exact this
    have g2 : r < 1010999999999 + 1 → (2287785600000000000 : Int) ≤ 2287784600000000000 + r - 10000000000 := by
      intro h
      have this : decide ((2287785600000000000 : Int) ≤ rdg 10 fA 1 1 0 (2287784600000000000 + r)) = true := f2 (by omega)
      have this := of_decide_eq_true this
      rw [aw7_rdg (by omega)] at this
      exact this
    rcases hr with ⟨h, _, _⟩ | ⟨h, hX, he⟩
    · exfalso
      have := g1 (by omega)
      omega
    · refine ⟨?_, he⟩
      by_cases h0 : 0 < r
      · have a := g1 h0
        have b := g2 (by omega)
        omega
      · have b := g2 (by omega)
        omega
/-- The state of the examples. -/
structure Sm.AV (w v : World) (b : Nat) : Prop where
  box : TBx v (b + 1) 10 0 (some ⟨b, 0, none⟩) 1 1
  k1 : KBx v (b + 1 + 1) 1 0
  k2 : KBx v (b + 1 + 1 + 1) 4 1000
  k3 : KBx v (b + 1 + 1 + 1 + 1) 3 1000
  ent : PBx v b 2287785600 11
  mt : MT v
  bel : Below w.heap.size w v
theorem Sm.AV.below {w v v' : World} {b : Nat} (h : AV w v b) (hb : Below v.heap.size v v') : AV w v' b :=
  ⟨h.box.below hb h.box.lt, h.k1.below hb h.k1.lt, h.k2.below hb h.k2.lt, h.k3.below hb h.k3.lt, h.ent.below hb h.ent.lt, h.mt.below hb, h.bel.trans (hb.mono h.bel.size)⟩
theorem Sm.AV.lrd {w v : World} {b : Nat} (h : AV w v b) : LRd v v.heap.size (some ⟨b, 0, none⟩) 1 fA := fun _ => by
  refine ⟨b, 0, rfl, h.ent.lt, fun i hi => ?_⟩
  obtain rfl : i = 0 := by omega
  exact ⟨h.ent.cells.1, h.ent.cells.2.1⟩
theorem Sm.AV.cells {w v : World} {b : Nat} (h : AV w v b) :
    v.cell? ⟨b + 1, 0, none⟩ = some (.int .i64 10) ∧ v.cell? ⟨b + 1, 1, none⟩ = some (.int .i64 0) ∧ v.cell? ⟨b + 1, 2, none⟩ = some (.slice (some ⟨b, 0, none⟩) 1 1) ∧ v.cell? ⟨b + 1 + 1, 0, none⟩ = some (.int .i64 1) ∧ v.cell? ⟨b + 1 + 1, 1, none⟩ = some (.int .i64 0) ∧ v.cell? ⟨b + 1 + 1 + 1, 0, none⟩ = some (.int .i64 4) ∧ v.cell? ⟨b + 1 + 1 + 1, 1, none⟩ = some (.int .i64 1000) ∧ v.cell? ⟨b + 1 + 1 + 1 + 1, 0, none⟩ = some (.int .i64 3) ∧ v.cell? ⟨b + 1 + 1 + 1 + 1, 1, none⟩ = some (.int .i64 1000) :=
  ⟨h.box.cells.1, h.box.cells.2.1, h.box.cells.2.2, h.k1.cells.1, h.k1.cells.2, h.k2.cells.1, h.k2.cells.2, h.k3.cells.1, h.k3.cells.2⟩
theorem Sm.kbx_new (w : World) (K W : Int) : KBx (w.alloc (.cells #[.int .i64 K, .int .i64 W] 26)) w.heap.size K W := heap_alloc_new w _

theorem Sm.av_new (w : World) (ht : MT w) : AV w (((((w.alloc (.cells #[.int .i64 2287785600, .int .i64 11] 40)).alloc (.cells #[.int .i64 10, .int .i64 0, .slice (some ⟨w.heap.size, 0, none⟩) 1 1] 24)).alloc (.cells #[.int .i64 1, .int .i64 0] 26)).alloc (.cells #[.int .i64 4, .int .i64 1000] 26)).alloc (.cells #[.int .i64 3, .int .i64 1000] 26)) w.heap.size := by
  obtain ⟨b, hb⟩ : ∃ b, w.heap.size = b := ⟨_, rfl⟩
  obtain ⟨x0, hx0⟩ : ∃ v, w.alloc (.cells #[.int .i64 2287785600, .int .i64 11] 40) = v := ⟨_, rfl⟩
  have sx0 : x0.heap.size = b + 1 := by rw [← hx0, ← hb]; simp
  have b0 : Below w.heap.size w x0 := by rw [← hx0]; exact (Below.refl _ _).alloc (Nat.le_refl _) _
  have e0 : PBx x0 b 2287785600 11 := by rw [← hx0, ← hb]; exact pbx_new w _ _
  obtain ⟨x1, hx1⟩ : ∃ v, x0.alloc (.cells #[.int .i64 10, .int .i64 0, .slice (some ⟨b, 0, none⟩) 1 1] 24) = v := ⟨_, rfl⟩
  have sx1 : x1.heap.size = b + 1 + 1 := by rw [← hx1]; simp [sx0]
  have b1 : Below x0.heap.size x0 x1 := by rw [← hx1]; exact (Below.refl _ _).alloc (Nat.le_refl _) _
  have e1 : TBx x1 (b + 1) 10 0 (some ⟨b, 0, none⟩) 1 1 := by rw [← hx1, ← sx0]; exact tbx_new x0 _ _ _ _ _
  obtain ⟨x2, hx2⟩ : ∃ v, x1.alloc (.cells #[.int .i64 1, .int .i64 0] 26) = v := ⟨_, rfl⟩
  have sx2 : x2.heap.size = b + 1 + 1 + 1 := by rw [← hx2]; simp [sx1]
  have b2 : Below x1.heap.size x1 x2 := by rw [← hx2]; exact (Below.refl _ _).alloc (Nat.le_refl _) _
  have e2 : KBx x2 (b + 1 + 1) 1 0 := by rw [← hx2, ← sx1]; exact kbx_new x1 _ _
  obtain ⟨x3, hx3⟩ : ∃ v, x2.alloc (.cells #[.int .i64 4, .int .i64 1000] 26) = v := ⟨_, rfl⟩
  have sx3 : x3.heap.size = b + 1 + 1 + 1 + 1 := by rw [← hx3]; simp [sx2]
  have b3 : Below x2.heap.size x2 x3 := by rw [← hx3]; exact (Below.refl _ _).alloc (Nat.le_refl _) _
  have e3 : KBx x3 (b + 1 + 1 + 1) 4 1000 := by rw [← hx3, ← sx2]; exact kbx_new x2 _ _
  obtain ⟨v0, hv0⟩ : ∃ v, x3.alloc (.cells #[.int .i64 3, .int .i64 1000] 26) = v := ⟨_, rfl⟩
  have b4 : Below x3.heap.size x3 v0 := by rw [← hv0]; exact (Below.refl _ _).alloc (Nat.le_refl _) _
  have e4 : KBx v0 (b + 1 + 1 + 1 + 1) 3 1000 := by rw [← hv0, ← sx3]; exact kbx_new x3 _ _
  have m0 := ((((ht.below b0).below b1).below b2).below b3).below b4
  have E0 := (((e0.below b1 e0.lt).below b2 (e0.below b1 e0.lt).lt).below b3 ((e0.below b1 e0.lt).below b2 (e0.below b1 e0.lt).lt).lt).below b4 (((e0.below b1 e0.lt).below b2 (e0.below b1 e0.lt).lt).below b3 ((e0.below b1 e0.lt).below b2 (e0.below b1 e0.lt).lt).lt).lt
  have E1 := ((e1.below b2 e1.lt).below b3 (e1.below b2 e1.lt).lt).below b4 ((e1.below b2 e1.lt).below b3 (e1.below b2 e1.lt).lt).lt
  have E2 := (e2.below b3 e2.lt).below b4 (e2.below b3 e2.lt).lt
  have E3 := e3.below b4 e3.lt
  have BB := ((((b0.trans (b1.mono b0.size)).trans (b2.mono (Nat.le_trans b0.size b1.size))).trans (b3.mono (Nat.le_trans b0.size (Nat.le_trans b1.size b2.size)))).trans (b4.mono (Nat.le_trans b0.size (Nat.le_trans b1.size (Nat.le_trans b2.size b3.size)))))
  rw [hb, hx0, hx1, hx2, hx3, hv0]
  exact ⟨E1, E2, E3, e4, E0, m0, BB⟩
set_option maxRecDepth 100000 in
set_option maxHeartbeats 1000000 in
theorem awake7_any (w : World) (ht : MT w) :
    Calls Tryd.prog 13 #[] w fun e w' => e = .returned (.bool true) ∧ Below w.heap.size w w' := by
  have S0 := Lib.hid (av_new w ht)
  clear ht
  go_enter Tryd.func13, Tryd.ntmps13
  go_wp2_with fail
  refine (sread_any 10 0 (some ⟨w.heap.size, 0, none⟩) 1 1 fA 1 0 2287785610999999999 _ S0.out.mt S0.out.lrd).mono ?_
  rintro e v1 ⟨rfl, hbl⟩
  rw [aw7_r1.1, aw7_r1.2]
  have S1 := Lib.hid (S0.out.below hbl)
  clear hbl S0
  obtain ⟨t0, t1, t2, t3, t4, t5, t6, t7, t8⟩ := S1.out.cells
  go_wp2_with fail
  refine (sread_any 10 0 (some ⟨w.heap.size, 0, none⟩) 1 1 fA 1 0 2287785611000000000 v1 S1.out.mt S1.out.lrd).mono ?_
  rintro e v2 ⟨rfl, hbl⟩
  rw [aw7_r2.1, aw7_r2.2]
  have S2 := Lib.hid (S1.out.below hbl)
  clear hbl S1 t0 t1 t2 t3 t4 t5 t6 t7 t8
  obtain ⟨t0, t1, t2, t3, t4, t5, t6, t7, t8⟩ := S2.out.cells
  go_wp2_with fail
  refine (stai_any 10 0 (some ⟨w.heap.size, 0, none⟩) 1 1 fA 1 0 2287785600000000000 v2 S2.out.mt S2.out.lrd (by decide) (by decide)).mono ?_
  rintro e v3 ⟨X, e0, rfl, hX, hbl⟩
  obtain ⟨rfl, rfl⟩ := aw7_tai hX
  have S3 := Lib.hid (S2.out.below hbl)
  clear hbl hX S2 t0 t1 t2 t3 t4 t5 t6 t7 t8
  obtain ⟨t0, t1, t2, t3, t4, t5, t6, t7, t8⟩ := S3.out.cells
  go_wp2_with fail
  refine (sread_any 10 0 (some ⟨w.heap.size, 0, none⟩) 1 1 fA 4 1000 2287785611000000000 v3 S3.out.mt S3.out.lrd).mono ?_
  rintro e v4 ⟨rfl, hbl⟩
  rw [aw7_r3.1, aw7_r3.2]
  have S4 := Lib.hid (S3.out.below hbl)
  clear hbl S3 t0 t1 t2 t3 t4 t5 t6 t7 t8
  obtain ⟨t0, t1, t2, t3, t4, t5, t6, t7, t8⟩ := S4.out.cells
  go_wp2_with fail
  refine (sread_any 10 0 (some ⟨w.heap.size, 0, none⟩) 1 1 fA 4 1000 2287786111000000000 v4 S4.out.mt S4.out.lrd).mono ?_
  rintro e v5 ⟨rfl, hbl⟩
  rw [aw7_r4.1, aw7_r4.2]
  have S5 := Lib.hid (S4.out.below hbl)
  clear hbl S4 t0 t1 t2 t3 t4 t5 t6 t7 t8
  obtain ⟨t0, t1, t2, t3, t4, t5, t6, t7, t8⟩ := S5.out.cells
  go_wp2_with fail
  refine (sread_any 10 0 (some ⟨w.heap.size, 0, none⟩) 1 1 fA 3 1000 2287785611000000000 v5 S5.out.mt S5.out.lrd).mono ?_
  rintro e v6 ⟨rfl, hbl⟩
  rw [aw7_r5.1, aw7_r5.2]
  have S6 := Lib.hid (S5.out.below hbl)
  clear hbl S5 t0 t1 t2 t3 t4 t5 t6 t7 t8
  obtain ⟨t0, t1, t2, t3, t4, t5, t6, t7, t8⟩ := S6.out.cells
  go_wp2_with fail
  refine (rate_any 10 0 (some ⟨w.heap.size, 0, none⟩) 1 1 fA 4 1000 2287785611000000000 v6 S6.out.mt S6.out.lrd).mono ?_
  rintro e v7 ⟨rfl, hbl⟩
  rw [aw7_rate]
  have S7 := Lib.hid (S6.out.below hbl)
  clear hbl S6 t0 t1 t2 t3 t4 t5 t6 t7 t8
  obtain ⟨t0, t1, t2, t3, t4, t5, t6, t7, t8⟩ := S7.out.cells
  go_wp2_with fail
  refine (active_any 10 0 (some ⟨w.heap.size, 0, none⟩) 1 1 fA 4 1000 2287785610999999999 v7 S7.out.mt S7.out.lrd).mono ?_
  rintro e v8 ⟨rfl, hbl⟩
  rw [aw7_act]
  have S8 := Lib.hid (S7.out.below hbl)
  clear hbl S7 t0 t1 t2 t3 t4 t5 t6 t7 t8
  obtain ⟨t0, t1, t2, t3, t4, t5, t6, t7, t8⟩ := S8.out.cells
  go_wp2_with fail
  go_ret
  exact ⟨rfl, S8.out.bel⟩
end Go.Proofs.YtghaboanakecjaaDoor
