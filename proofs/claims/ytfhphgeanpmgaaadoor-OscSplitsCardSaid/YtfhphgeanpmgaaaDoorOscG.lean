/- Laws of layer 9: the chapter's example; readings; rates. -/
import Derived.Test.YtfhphgeanpmgaaaDoorOscF
namespace Go.Proofs.YtfhphgeanpmgaaaDoor
open Go.RowKit Fx Oc

/-- What a law holds: its oscillator, and the variable. -/
def Oc.Lw (w : World) (G : Nat) (ph : Int) (a : Option Addr) (n c : Nat) (f : Nat → Int × Int) (wr : World) : Prop := Ow w w.heap.size G ph a n c f wr ∧ VN wr
theorem Oc.Lw.vn {w wr : World} {G : Nat} {ph : Int} {a : Option Addr} {n c : Nat} {f : Nat → Int × Int} (h : Lw w G ph a n c f wr) : VN wr := h.2
theorem Oc.Lw.rd {w wr : World} {G : Nat} {ph : Int} {a : Option Addr} {n c : Nat} {f : Nat → Int × Int} (h : Lw w G ph a n c f wr) : Rd2 wr wr.heap.size a n f := h.1.2.1.mono h.1.2.2.size
theorem Oc.Lw.below {w wr wx : World} {G : Nat} {ph : Int} {a : Option Addr} {n c : Nat} {f : Nat → Int × Int} (h : Lw w G ph a n c f wr) (hb : Below wr.heap.size wr wx) : Lw w G ph a n c f wx :=
  ⟨h.1.below h.1.2.2.size hb, h.2.below hb⟩
/-- The segments of the chapter's example. -/
def Oc.exf (i : Nat) : Int × Int := if i = 0 then (0, 0) else (1000000000, 1000)
set_option maxRecDepth 100000 in
theorem awake9_any (w : World) (hv : VN w) :
    Calls Tryd.prog 13 #[] w fun e w' => e = .returned (.bool true) ∧ Below w.heap.size w w' := by
  have hb1 : Below w.heap.size w (w.alloc (.cells #[.int .i64 0, .int .i64 0, .int .i64 1000000000, .int .i64 1000] 36)) := (Below.refl _ _).alloc (Nat.le_refl _) _
  have hblk : (w.alloc (.cells #[.int .i64 0, .int .i64 0, .int .i64 1000000000, .int .i64 1000] 36)).heap[w.heap.size]? = some (.cells #[.int .i64 0, .int .i64 0, .int .i64 1000000000, .int .i64 1000] 36 (0, 0)) := heap_alloc_new w _
  have hz : (w.alloc (.cells #[.int .i64 0, .int .i64 0, .int .i64 1000000000, .int .i64 1000] 36)).heap.size = w.heap.size + 1 := by simp
  obtain ⟨v, hvw⟩ : ∃ v, w.alloc (.cells #[.int .i64 0, .int .i64 0, .int .i64 1000000000, .int .i64 1000] 36) = v := ⟨_, rfl⟩
  rw [hvw] at hb1 hblk hz
  have hrd : Rd2 v v.heap.size (some ⟨w.heap.size, 0, none⟩) 2 exf := fun _ => by
    refine ⟨w.heap.size, 0, rfl, by omega, fun i hi => ?_⟩
    rcases Nat.lt_or_ge i 1 with h | h
    · obtain rfl : i = 0 := by omega
      simp [World.cell?, hblk, exf]
    · obtain rfl : i = 1 := by omega
      simp [World.cell?, hblk, exf]
  have hb2 := hb1.alloc hb1.size (.cells #[.int .i64 0, .slice (some ⟨w.heap.size, 0, none⟩) 2 2] 24)
  have hX := ox_new v 0 (some ⟨w.heap.size, 0, none⟩) 2 2
  have hr2 := hrd.below ((Below.refl v.heap.size v).alloc (Nat.le_refl _) (.cells #[.int .i64 0, .slice (some ⟨w.heap.size, 0, none⟩) 2 2] 24))
  obtain ⟨u, huw⟩ : ∃ u, v.alloc (.cells #[.int .i64 0, .slice (some ⟨w.heap.size, 0, none⟩) 2 2] 24) = u := ⟨_, rfl⟩
  rw [huw] at hb2 hX hr2
  have hv2 := hv.below hb2
  obtain ⟨c0, c1⟩ := hX.cells
  have HB := Lib.hid hb2
  have HV := Lib.hid hv2
  have HZ := Lib.hid hz
  have HR := Lib.hid (hr2.mono (show v.heap.size ≤ u.heap.size by rw [← huw]; simp))
  clear hb1 hblk hrd hb2 hX hr2 hv2 hv hz
  go_enter Tryd.func13, Tryd.ntmps13
  go_wp2_with fail
  clear hvw huw c0 c1
  refine (ord_any 0 (some ⟨w.heap.size, 0, none⟩) 2 2 exf 2000000000 u HV.out HR.out (by decide)).mono ?_
  rintro e v2 ⟨rfl, hb⟩
  have HB2 := Lib.hid (HB.out.trans (hb.mono HB.out.size))
  clear hb
  rw [show rdV 0 2 exf 2000000000 = 2000001000 from by kernel_rfl, show rdE 0 2 exf 2000000000 = 0 from by kernel_rfl]
  go_wp2_with fail
  go_ret
  exact ⟨rfl, HB2.out⟩
set_option maxRecDepth 100000 in
set_option maxHeartbeats 1000000 in
theorem reads9_law (ph : Int) (a : Option Addr) (n c : Nat) (f : Nat → Int × Int) (t : Int) (w : World) (hv : VN w) (hr : Rd2 w w.heap.size a n f) (hm : n ≤ 9223372036854775807) :
    Calls Tryd.prog 3 #[.agg #[.int .i64 ph, .slice a n c], .int .i64 t] w fun e w' => e = .returned (.bool true) ∧ Below w.heap.size w w' := by
  obtain ⟨E, hE⟩ : ∃ E, rdE ph n f t = E := ⟨_, rfl⟩
  obtain ⟨V, hV⟩ : ∃ V, rdV ph n f t = V := ⟨_, rfl⟩
  obtain ⟨K, hK⟩ : ∃ K, chk ph n f = K := ⟨_, rfl⟩
  have HEE := Lib.hid hE
  have HVV := Lib.hid hV
  have HCC := Lib.hid hK
  clear hE hV hK
  have hb1 : Below w.heap.size w (w.alloc (.cells #[.int .i64 ph, .slice a n c] 24)) := (Below.refl _ _).alloc (Nat.le_refl _) _
  have hX1 := ox_new w ph a n c
  obtain ⟨v0, hvw⟩ : ∃ v, w.alloc (.cells #[.int .i64 ph, .slice a n c] 24) = v := ⟨_, rfl⟩
  rw [hvw] at hb1 hX1
  have S0 : Hid (Lw w w.heap.size ph a n c f v0) := Lib.hid ⟨⟨hX1, hr.below hb1, hb1⟩, hv.below hb1⟩
  obtain ⟨c0, c1⟩ := hX1.cells
  have hz := hb1.size
  have HM := Lib.hid hm
  clear hb1 hX1 hr hv
  go_enter Tryd.func3, Tryd.ntmps3
  go_wp2_with fail
  clear hvw c0 c1
  refine (ord_any ph a n c f t v0 S0.out.vn (S0.out.rd) HM.out).mono ?_
  rintro e v1 ⟨rfl, hb⟩
  have S1 := Lib.hid (S0.out.below hb)
  clear hb S0
  obtain ⟨c0, c1⟩ := S1.out.1.1.cells
  go_wp2_with fail
  clear c0 c1
  refine (rrd_any ph a n c f t v1 (S1.out.rd) HM.out).mono ?_
  rintro e v2 ⟨rfl, hb⟩
  have S2 := Lib.hid (S1.out.below hb)
  clear hb S1
  rw [HVV.out, HEE.out]
  obtain ⟨c0, c1⟩ := S2.out.1.1.cells
  go_wp2_with fail
  clear c0 c1
  obtain ⟨c0, c1⟩ := S2.out.1.1.cells
  go_region_held3 (fun w' => w'.cell? ⟨w.heap.size, 0, none⟩ = some (.int .i64 ph) ∧ w'.cell? ⟨w.heap.size, 1, none⟩ = some (.slice a n c)) (go_keep)
      (first
        | (go_at_call 11; refine (ochk_any ph a n c f _ ?_ ?_ HM.out).mono ?_; exact S2.out.vn; exact (S2.out.rd); rintro e v3 ⟨rfl, hb⟩; have hb : Below v2.heap.size v2 v3 := ⟨hb.os, hb.tape, hb.output, hb.size, hb.block⟩; have S3 := Lib.hid (S2.out.below hb); obtain ⟨c30, c31⟩ := S3.out.1.1.cells; clear hb S2; rw [HCC.out])
        | (go_at_call 12; refine (rochk_any ph a n c f _ ?_ HM.out).mono ?_; exact (S3.out.rd); rintro e v4 ⟨rfl, hb⟩; have S4 := Lib.hid (S3.out.below hb); obtain ⟨c40, c41⟩ := S4.out.1.1.cells; clear hb S3; rw [HCC.out])
        | (go_at_call 13; refine (awake9_any _ ?_).mono ?_; exact S4.out.vn; rintro e v5 ⟨rfl, hb⟩; have S5 := Lib.hid (S4.out.below hb); obtain ⟨c50, c51⟩ := S5.out.1.1.cells; clear hb S4))
  go_wp2_with fail
  go_ret
  exact ⟨rfl, S5.out.1.2.2⟩
set_option maxRecDepth 100000 in
set_option maxHeartbeats 1000000 in
theorem rates9_yes (ph : Int) (a : Option Addr) (n c : Nat) (f : Nat → Int × Int) (t : Int) (w : World) (hv : VN w) (hr : Rd2 w w.heap.size a n f) (hm : n ≤ 9223372036854775807) (h : Vd ph n f) :
    Calls Tryd.prog 5 #[.agg #[.int .i64 ph, .slice a n c], .int .i64 t] w fun e w' => e = .returned (.bool true) ∧ Below w.heap.size w w' := by
  have HVd := Lib.hid h
  obtain ⟨X, hX⟩ : ∃ X, rt f t n = X := ⟨_, rfl⟩
  obtain ⟨Y, hY⟩ : ∃ Y, bnd f n = Y := ⟨_, rfl⟩
  have HRT := Lib.hid hX
  have HBD := Lib.hid hY
  clear hX hY
  clear h
  have hb1 : Below w.heap.size w (w.alloc (.cells #[.int .i64 ph, .slice a n c] 24)) := (Below.refl _ _).alloc (Nat.le_refl _) _
  have hX1 := ox_new w ph a n c
  obtain ⟨v0, hvw⟩ : ∃ v, w.alloc (.cells #[.int .i64 ph, .slice a n c] 24) = v := ⟨_, rfl⟩
  rw [hvw] at hb1 hX1
  have S0 : Hid (Lw w w.heap.size ph a n c f v0) := Lib.hid ⟨⟨hX1, hr.below hb1, hb1⟩, hv.below hb1⟩
  obtain ⟨c0, c1⟩ := hX1.cells
  have hz := hb1.size
  have HM := Lib.hid hm
  clear hb1 hX1 hr hv
  go_enter Tryd.func5, Tryd.ntmps5
  go_wp2_with fail
  clear hvw c0 c1
  obtain ⟨c0, c1⟩ := S0.out.1.1.cells
  go_region_held3 (fun w' => w'.cell? ⟨w.heap.size, 0, none⟩ = some (.int .i64 ph) ∧ w'.cell? ⟨w.heap.size, 1, none⟩ = some (.slice a n c)) (go_keep)
      (first
        | (go_at_call 16; refine (orate_yes ph a n c f t _ ?_ ?_ HM.out HVd.out).mono ?_; exact S0.out.vn; exact (S0.out.rd); rintro e v1 ⟨rfl, hb⟩; have hb : Below v0.heap.size v0 v1 := ⟨hb.os, hb.tape, hb.output, hb.size, hb.block⟩; have S1 := Lib.hid (S0.out.below hb); obtain ⟨c10, c11⟩ := S1.out.1.1.cells; clear hb S0; rw [HRT.out])
        | (go_at_call 17; refine (rrate_yes ph a n c f t _ ?_ HM.out HVd.out).mono ?_; exact (S1.out.rd); rintro e v2 ⟨rfl, hb⟩; have S2 := Lib.hid (S1.out.below hb); obtain ⟨c20, c21⟩ := S2.out.1.1.cells; clear hb S1; rw [HRT.out])
        | (go_at_call 18; refine (obound_yes ph a n c f _ ?_ ?_ HM.out HVd.out).mono ?_; exact S2.out.vn; exact (S2.out.rd); rintro e v3 ⟨rfl, hb⟩; have S3 := Lib.hid (S2.out.below hb); obtain ⟨c30, c31⟩ := S3.out.1.1.cells; clear hb S2; rw [HBD.out])
        | (go_at_call 19; refine (rbound_yes ph a n c f _ ?_ HM.out HVd.out).mono ?_; exact (S3.out.rd); rintro e v4 ⟨rfl, hb⟩; have S4 := Lib.hid (S3.out.below hb); obtain ⟨c40, c41⟩ := S4.out.1.1.cells; clear hb S3; rw [HBD.out])
        | (go_at_call 13; refine (awake9_any _ ?_).mono ?_; exact S4.out.vn; rintro e v5 ⟨rfl, hb⟩; have S5 := Lib.hid (S4.out.below hb); obtain ⟨c50, c51⟩ := S5.out.1.1.cells; clear hb S4))
  go_wp2_with fail
  go_ret
  exact ⟨rfl, S5.out.1.2.2⟩
set_option maxRecDepth 100000 in
set_option maxHeartbeats 1000000 in
theorem rates9_no (ph : Int) (a : Option Addr) (n c : Nat) (f : Nat → Int × Int) (t : Int) (w : World) (hv : VN w) (hr : Rd2 w w.heap.size a n f) (hm : n ≤ 9223372036854775807) (h : ¬ chk ph n f = 0) :
    Calls Tryd.prog 5 #[.agg #[.int .i64 ph, .slice a n c], .int .i64 t] w fun e w' => e = .returned (.bool true) ∧ Below w.heap.size w w' := by
  have HVd := Lib.hid h
  clear h
  have hb1 : Below w.heap.size w (w.alloc (.cells #[.int .i64 ph, .slice a n c] 24)) := (Below.refl _ _).alloc (Nat.le_refl _) _
  have hX1 := ox_new w ph a n c
  obtain ⟨v0, hvw⟩ : ∃ v, w.alloc (.cells #[.int .i64 ph, .slice a n c] 24) = v := ⟨_, rfl⟩
  rw [hvw] at hb1 hX1
  have S0 : Hid (Lw w w.heap.size ph a n c f v0) := Lib.hid ⟨⟨hX1, hr.below hb1, hb1⟩, hv.below hb1⟩
  obtain ⟨c0, c1⟩ := hX1.cells
  have hz := hb1.size
  have HM := Lib.hid hm
  clear hb1 hX1 hr hv
  go_enter Tryd.func5, Tryd.ntmps5
  go_wp2_with fail
  clear hvw c0 c1
  obtain ⟨c0, c1⟩ := S0.out.1.1.cells
  go_region_held3 (fun w' => w'.cell? ⟨w.heap.size, 0, none⟩ = some (.int .i64 ph) ∧ w'.cell? ⟨w.heap.size, 1, none⟩ = some (.slice a n c)) (go_keep)
      (first
        | (go_at_call 16; refine (orate_no ph a n c f t _ ?_ ?_ HM.out HVd.out).mono ?_; exact S0.out.vn; exact (S0.out.rd); rintro e v1 ⟨rfl, hb⟩; have hb : Below v0.heap.size v0 v1 := ⟨hb.os, hb.tape, hb.output, hb.size, hb.block⟩; have S1 := Lib.hid (S0.out.below hb); obtain ⟨c10, c11⟩ := S1.out.1.1.cells; clear hb S0)
        | (go_at_call 17; refine (rrate_no ph a n c f t _ ?_ HM.out HVd.out).mono ?_; exact (S1.out.rd); rintro e v2 ⟨rfl, hb⟩; have S2 := Lib.hid (S1.out.below hb); obtain ⟨c20, c21⟩ := S2.out.1.1.cells; clear hb S1)
        | (go_at_call 18; refine (obound_no ph a n c f _ ?_ ?_ HM.out HVd.out).mono ?_; exact S2.out.vn; exact (S2.out.rd); rintro e v3 ⟨rfl, hb⟩; have S3 := Lib.hid (S2.out.below hb); obtain ⟨c30, c31⟩ := S3.out.1.1.cells; clear hb S2)
        | (go_at_call 19; refine (rbound_no ph a n c f _ ?_ HM.out HVd.out).mono ?_; exact (S3.out.rd); rintro e v4 ⟨rfl, hb⟩; have S4 := Lib.hid (S3.out.below hb); obtain ⟨c40, c41⟩ := S4.out.1.1.cells; clear hb S3)
        | (go_at_call 13; refine (awake9_any _ ?_).mono ?_; exact S4.out.vn; rintro e v5 ⟨rfl, hb⟩; have S5 := Lib.hid (S4.out.below hb); obtain ⟨c50, c51⟩ := S5.out.1.1.cells; clear hb S4))
  go_wp2_with fail
  go_ret
  exact ⟨rfl, S5.out.1.2.2⟩
theorem rates9_law (ph : Int) (a : Option Addr) (n c : Nat) (f : Nat → Int × Int) (t : Int) (w : World) (hv : VN w) (hr : Rd2 w w.heap.size a n f) (hm : n ≤ 9223372036854775807) :
    Calls Tryd.prog 5 #[.agg #[.int .i64 ph, .slice a n c], .int .i64 t] w fun e w' => e = .returned (.bool true) ∧ Below w.heap.size w w' := by
  by_cases h : chk ph n f = 0
  · exact rates9_yes ph a n c f t w hv hr hm (chk_iff.1 h)
  · exact rates9_no ph a n c f t w hv hr hm h
end Go.Proofs.YtfhphgeanpmgaaaDoor
