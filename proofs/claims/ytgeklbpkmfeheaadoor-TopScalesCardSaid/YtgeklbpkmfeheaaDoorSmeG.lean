/- The chapter's examples of layer 7. -/
import Derived.Test.YtgeklbpkmfeheaaDoorSmeF
namespace Go.Proofs.YtgeklbpkmfeheaaDoor
open Go.RowKit Fx Cv Lp Sm

def Sm.fA : Nat → Int × Int := fun _ => (2287785600, 11)
theorem aw7_r1 : rdV 10 0 fA 1 1 0 2287785610999999999 = 2287785600999999999 ∧ rdE 10 0 fA 1 1 0 2287785610999999999 = 0 := ⟨by kernel_rfl, by kernel_rfl⟩
theorem aw7_r2 : rdV 10 0 fA 1 1 0 2287785611000000000 = 2287785600000000000 ∧ rdE 10 0 fA 1 1 0 2287785611000000000 = 0 := ⟨by kernel_rfl, by kernel_rfl⟩
theorem aw7_r3 : rdV 10 0 fA 1 4 1000 2287785611000000000 = 2287785601000000000 ∧ rdE 10 0 fA 1 4 1000 2287785611000000000 = 0 := ⟨by kernel_rfl, by kernel_rfl⟩
theorem aw7_r4 : rdV 10 0 fA 1 4 1000 2287786111000000000 = 2287786100500000000 ∧ rdE 10 0 fA 1 4 1000 2287786111000000000 = 0 := ⟨by kernel_rfl, by kernel_rfl⟩
theorem aw7_r5 : rdV 10 0 fA 1 3 1000 2287785611000000000 = 2287785600000000000 ∧ rdE 10 0 fA 1 3 1000 2287785611000000000 = 0 := ⟨by kernel_rfl, by kernel_rfl⟩
theorem aw7_rate : rat 10 0 fA 1 4 1000 2287785611000000000 = -1000000 := by kernel_rfl
theorem aw7_act : (smg 10 0 fA 1 4 1000 2287785610999999999 != 0) = false := by kernel_rfl
theorem aw7_chk : chkS 10 0 fA 1 1 0 = 0 := by kernel_rfl
theorem aw7_rdg {t : Int} (h : t < 2287785611000000000) : rdg 10 fA 1 1 0 t = t - 10000000000 := by
  have e : enI fA 1 0 0 = 2287785611000000000 := by kernel_rfl
  have hk : psW fA 1 1 0 t = 0 := psW_eq (by omega) (fun i hi => by omega) (fun _ => by rw [e]; exact h)
  have hf : fsI fA 1 0 0 = 2287785611000000000 := by kernel_rfl
  have hi : inW fA 1 1 0 t = false := by unfold inW; rw [hk, hf, decide_eq_false (show ¬ (2287785611000000000 : Int) ≤ t by omega)]; rfl
  have hc : plC 10 fA 1 1 0 t = 0 := by unfold plC; rw [hi]; rfl
  have ho : plO 10 fA 1 1 0 t = 10 := by unfold plO; rw [hk]; rfl
  unfold rdg
  rw [hc, ho, if_pos rfl]; omega
theorem aw7_tai {X e : Int} (h : TaiR 10 0 fA 1 1 0 2287785600000000000 X e) : X = 2287785610000000000 ∧ e = 0 := by
  have hc : cut 10 fA 1 1 0 2287785600000000000 1 = 2287785610999999999 := by kernel_rfl
  have hm : fstT 2287785600000000000 = 2287784600000000000 := by kernel_rfl
  rcases h with ⟨h, _⟩ | ⟨_, h, _⟩ | ⟨_, _, r, hf, hr⟩
  · exact absurd aw7_chk h
  · exact absurd (show isT 2287785600000000000 = true from by kernel_rfl) (by rw [h]; decide)
  · rw [hc, hm] at hf hr
    obtain ⟨r0, r1, f1, f2⟩ := hf
    have g1 : 0 < r → ¬ (2287785600000000000 : Int) ≤ 2287784600000000000 + (r - 1) - 10000000000 := by
      intro h
      have this : decide ((2287785600000000000 : Int) ≤ rdg 10 fA 1 1 0 (2287784600000000000 + (r - 1))) = false := f1 h
      have this := of_decide_eq_false this
      rw [aw7_rdg (by omega)] at this
      exact this
    have g2 : r < 1010999999999 + 1 → (2287785600000000000 : Int) ≤ 2287784600000000000 + r - 10000000000 := by
      intro h
      have this : decide ((2287785600000000000 : Int) ≤ rdg 10 fA 1 1 0 (2287784600000000000 + r)) = true := f2 (by omega)
      have this := of_decide_eq_true this
      rw [aw7_rdg (by omega)] at this
      exact this
    rcases hr with ⟨h, _, _⟩ | ⟨h, hX, he⟩
    · exfalso
      have := g1 (by omega)
      omega
    · refine ⟨?_, he⟩
      by_cases h0 : 0 < r
      · have a := g1 h0
        have b := g2 (by omega)
        omega
      · have b := g2 (by omega)
        omega
/-- The state of the examples. -/
structure Sm.AV (w v : World) (b : Nat) : Prop where
  box : TBx v (b + 1) 10 0 (some ⟨b, 0, none⟩) 1 1
  k1 : KBx v (b + 1 + 1) 1 0
  k2 : KBx v (b + 1 + 1 + 1) 4 1000
  k3 : KBx v (b + 1 + 1 + 1 + 1) 3 1000
  ent : PBx v b 2287785600 11
  mt : MT v
  bel : Below w.heap.size w v
theorem Sm.AV.below {w v v' : World} {b : Nat} (h : AV w v b) (hb : Below v.heap.size v v') : AV w v' b :=
  ⟨h.box.below hb h.box.lt, h.k1.below hb h.k1.lt, h.k2.below hb h.k2.lt, h.k3.below hb h.k3.lt, h.ent.below hb h.ent.lt, h.mt.below hb, h.bel.trans (hb.mono h.bel.size)⟩
theorem Sm.AV.lrd {w v : World} {b : Nat} (h : AV w v b) : LRd v v.heap.size (some ⟨b, 0, none⟩) 1 fA := fun _ => by
  refine ⟨b, 0, rfl, h.ent.lt, fun i hi => ?_⟩
  obtain rfl : i = 0 := by omega
  exact ⟨h.ent.cells.1, h.ent.cells.2.1⟩
theorem Sm.AV.cells {w v : World} {b : Nat} (h : AV w v b) :
    v.cell? ⟨b + 1, 0, none⟩ = some (.int .i64 10) ∧ v.cell? ⟨b + 1, 1, none⟩ = some (.int .i64 0) ∧ v.cell? ⟨b + 1, 2, none⟩ = some (.slice (some ⟨b, 0, none⟩) 1 1) ∧ v.cell? ⟨b + 1 + 1, 0, none⟩ = some (.int .i64 1) ∧ v.cell? ⟨b + 1 + 1, 1, none⟩ = some (.int .i64 0) ∧ v.cell? ⟨b + 1 + 1 + 1, 0, none⟩ = some (.int .i64 4) ∧ v.cell? ⟨b + 1 + 1 + 1, 1, none⟩ = some (.int .i64 1000) ∧ v.cell? ⟨b + 1 + 1 + 1 + 1, 0, none⟩ = some (.int .i64 3) ∧ v.cell? ⟨b + 1 + 1 + 1 + 1, 1, none⟩ = some (.int .i64 1000) :=
  ⟨h.box.cells.1, h.box.cells.2.1, h.box.cells.2.2, h.k1.cells.1, h.k1.cells.2, h.k2.cells.1, h.k2.cells.2, h.k3.cells.1, h.k3.cells.2⟩
theorem Sm.kbx_new (w : World) (K W : Int) : KBx (w.alloc (.cells #[.int .i64 K, .int .i64 W] 26)) w.heap.size K W := heap_alloc_new w _

end Go.Proofs.YtgeklbpkmfeheaaDoor
