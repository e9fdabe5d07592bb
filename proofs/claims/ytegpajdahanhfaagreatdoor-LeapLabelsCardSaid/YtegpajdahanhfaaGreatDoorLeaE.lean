/- Contracts of layer 6: the program's TAI, UTC, Indicator, Next. -/
import Derived.Test.YtegpajdahanhfaaGreatDoorLeaD
namespace Go.Proofs.YtegpajdahanhfaaGreatDoor
open Go.RowKit Fx Cv Lp

/-- The error of TAI, and its second. -/
def Lp.taiE (B E : Int) (f : Nat → Int × Int) (n : Nat) (u : Int) (x : Bool) : Int :=
  if chkL B E f n ≠ 0 then chkL B E f n else if inS u = false then 3
  else if (if x = true then chaU B f n u ≠ 1 else chaU B f n u = -1) then 11 else 0
def Lp.taiV (B E : Int) (f : Nat → Int × Int) (n : Nat) (u : Int) (x : Bool) : Int :=
  if taiE B E f n u x = 0 then u + offA B f (psU f n u) + (if x = true then 1 else 0) else 0
theorem Lp.chaU_in {B E : Int} {f : Nat → Int × Int} {n : Nat} {u : Int} (h : inR B E f n) : -2000 ≤ chaU B f n u ∧ chaU B f n u ≤ 2000 := by
  unfold chaU
  by_cases c : psU f n u < n ∧ (f (psU f n u)).1 = u + 1
  · rw [if_pos c]
    have a := offA_in h (psU_le f n u)
    have b := (h.2.2 _ c.1).1
    omega
  · rw [if_neg c]; omega
theorem Lp.tai_bad {B E : Int} {f : Nat → Int × Int} {n : Nat} {u : Int} {x : Bool} {v : Int} (h : taiE B E f n u x = v) (h0 : v ≠ 0) : Ending.returned (.tuple #[.int .i64 0, .int .i64 v]) = .returned (.tuple #[.int .i64 (taiV B E f n u x), .int .i64 (taiE B E f n u x)]) := by
  unfold taiV; rw [h, if_neg h0]
theorem Lp.tai_good {B E : Int} {f : Nat → Int × Int} {n : Nat} {u : Int} {x : Bool} {v : Int} (h : taiE B E f n u x = 0) (hv : u + offA B f (psU f n u) + (if x = true then 1 else 0) = v) : Ending.returned (.tuple #[.int .i64 v, .int .i64 0]) = .returned (.tuple #[.int .i64 (taiV B E f n u x), .int .i64 (taiE B E f n u x)]) := by
  unfold taiV; rw [h, if_pos rfl, hv]

set_option maxRecDepth 100000 in
set_option maxHeartbeats 1000000 in
theorem ltai_any (B E : Int) (a : Option Addr) (n c : Nat) (f : Nat → Int × Int) (u : Int) (x : Bool) (w : World) (ht : MT w) (hr : LRd w w.heap.size a n f) :
    Calls Tryz.prog 14 #[.agg #[.int .i64 B, .int .i64 E, .slice a n c], .int .i64 u, .bool x] w fun e w' => e = .returned (.tuple #[.int .i64 (taiV B E f n u x), .int .i64 (taiE B E f n u x)]) ∧ Below w.heap.size w w' := by
  have HR := Lib.hid hr
  have HT := Lib.hid ht
  by_cases hz : chkL B E f n = 0
  case neg =>
    obtain ⟨v, hv⟩ : ∃ v, chkL B E f n = v := ⟨_, rfl⟩
    have h0 : v ≠ 0 := by rw [← hv]; exact hz
    have HC := Lib.hid hv
    have HE : Hid (taiE B E f n u x = v) := Lib.hid (by unfold taiE; rw [if_pos hz, hv])
    have H0 := Lib.hid h0
    have g1 : decide (v = 0) = false := decide_eq_false h0
    have g2 : (v == 0) = false := by simpa using h0
    have g3 : (v != 0) = true := by simp [bne, g2]
    clear hr ht hv hz
    have BB0 := Lib.hid ((Below.refl w.heap.size w).alloc (Nat.le_refl _) (.cells #[.int .i64 B, .int .i64 E, .slice a n c] 24))
    have X0 := Lib.hid (tbx_new w B E a n c)
    obtain ⟨W0, hW0⟩ : ∃ W, w.alloc (.cells #[.int .i64 B, .int .i64 E, .slice a n c] 24) = W := ⟨_, rfl⟩
    rw [hW0] at BB0 X0
    obtain ⟨t0, t1, t2⟩ := X0.out.cells
    go_enter Tryz.func14, Tryz.ntmps14
    go_wp2_with fail
    refine (lchk_any B E a n c f _ (HT.out.below BB0.out) (show LRd W0 W0.heap.size a n f from (HR.out.below BB0.out).mono BB0.out.size)).mono ?_
    rintro e w1 ⟨rfl, hb⟩
    have X1 := Lib.hid (X0.out.below hb X0.out.lt)
    have B1 := Lib.hid (BB0.out.trans (hb.mono BB0.out.size))
    clear hb X0 BB0
    rw [HC.out]
    go_wp2_with fail
    go_ret2
    exact ⟨tai_bad HE.out H0.out, B1.out⟩
  have HC := Lib.hid hz
  obtain ⟨hn, hR, _⟩ := chk_zero hz
  by_cases hu : inS u = true
  case neg =>
    have hu' : inS u = false := by simpa using hu
    have HU := Lib.hid hu'
    have HE : Hid (taiE B E f n u x = 3) := Lib.hid (by unfold taiE; rw [if_neg (by rw [hz]; decide), if_pos hu'])
    clear hr ht hz hu hu' hR
    have BB0 := Lib.hid ((Below.refl w.heap.size w).alloc (Nat.le_refl _) (.cells #[.int .i64 B, .int .i64 E, .slice a n c] 24))
    have X0 := Lib.hid (tbx_new w B E a n c)
    obtain ⟨W0, hW0⟩ : ∃ W, w.alloc (.cells #[.int .i64 B, .int .i64 E, .slice a n c] 24) = W := ⟨_, rfl⟩
    rw [hW0] at BB0 X0
    obtain ⟨t0, t1, t2⟩ := X0.out.cells
    go_enter Tryz.func14, Tryz.ntmps14
    go_wp2_with fail
    refine (lchk_any B E a n c f _ (HT.out.below BB0.out) (show LRd W0 W0.heap.size a n f from (HR.out.below BB0.out).mono BB0.out.size)).mono ?_
    rintro e w1 ⟨rfl, hb⟩
    have X1 := Lib.hid (X0.out.below hb X0.out.lt)
    have B1 := Lib.hid (BB0.out.trans (hb.mono BB0.out.size))
    clear hb X0 BB0
    rw [HC.out]
    go_wp2_with fail
    refine (lissec_any u _).mono ?_
    rintro e w' ⟨rfl, hw'⟩; subst w'
    rw [HU.out]
    go_wp2_with fail
    go_ret2
    exact ⟨tai_bad HE.out (by decide), B1.out⟩
  have HU := Lib.hid hu
  have hub : -8000000000 ≤ u ∧ u ≤ 8000000000 := by simpa [inS] using hu
  obtain ⟨u0, u1⟩ := hub
  have hcb := chaU_in (u := u) hR
  obtain ⟨s, hs⟩ : ∃ s, chaU B f n u = s := ⟨_, rfl⟩
  have HS := Lib.hid hs
  rw [hs] at hcb
  have HI := Lib.hid hR
  have HEE : Hid (∀ y : Bool, taiE B E f n u y = if (if y = true then s ≠ 1 else s = -1) then 11 else 0) := Lib.hid (fun y => by unfold taiE; rw [if_neg (by rw [hz]; decide), if_neg (by rw [hu]; decide), hs])
  obtain ⟨k, hkk⟩ : ∃ k, psU f n u = k := ⟨_, rfl⟩
  have HK := Lib.hid hkk
  have hk : k ≤ n := by rw [← hkk]; exact psU_le f n u
  obtain ⟨O, hO⟩ : ∃ O, offA B f k = O := ⟨_, rfl⟩
  have HO := Lib.hid hO
  have ob := offA_in hR hk
  rw [hO] at ob
  have HV : Hid (u + offA B f (psU f n u) = u + O) := Lib.hid (by rw [hkk, hO])
  clear hr ht hz hu hs hR hkk hO
  cases x
  · by_cases hm : s = -1
    · subst hm
      have HE : Hid (taiE B E f n u false = 11) := Lib.hid (by rw [HEE.out false]; simp)
      have BB0 := Lib.hid ((Below.refl w.heap.size w).alloc (Nat.le_refl _) (.cells #[.int .i64 B, .int .i64 E, .slice a n c] 24))
      have X0 := Lib.hid (tbx_new w B E a n c)
      obtain ⟨W0, hW0⟩ : ∃ W, w.alloc (.cells #[.int .i64 B, .int .i64 E, .slice a n c] 24) = W := ⟨_, rfl⟩
      rw [hW0] at BB0 X0
      obtain ⟨t0, t1, t2⟩ := X0.out.cells
      go_enter Tryz.func14, Tryz.ntmps14
      go_wp2_with fail
      refine (lchk_any B E a n c f _ (HT.out.below BB0.out) (show LRd W0 W0.heap.size a n f from (HR.out.below BB0.out).mono BB0.out.size)).mono ?_
      rintro e w1 ⟨rfl, hb⟩
      have X1 := Lib.hid (X0.out.below hb X0.out.lt)
      have B1 := Lib.hid (BB0.out.trans (hb.mono BB0.out.size))
      clear hb X0 BB0
      rw [HC.out]
      go_wp2_with fail
      refine (lissec_any u _).mono ?_
      rintro e w' ⟨rfl, hw'⟩; subst w'
      rw [HU.out]
      obtain ⟨t2_0, t2_1, t2_2⟩ := X1.out.cells
      go_wp2_with fail
      clear t2_0 t2_1 t2_2
      refine (cafter_any B E a n c f u _ (show LRd w1 w1.heap.size a n f from (HR.out.below B1.out).mono B1.out.size) hn HI.out u0 u1).mono ?_
      rintro e w3 ⟨rfl, hb⟩
      have X3 := Lib.hid (X1.out.below hb X1.out.lt)
      have B3 := Lib.hid (B1.out.trans (hb.mono B1.out.size))
      clear hb X1 B1
      rw [HS.out]
      obtain ⟨t4_0, t4_1, t4_2⟩ := X3.out.cells
      go_wp2_with fail
      go_ret2
      exact ⟨tai_bad HE.out (by decide), B3.out⟩
    · have g1 : decide (s = -1) = false := decide_eq_false hm
      have g2 : (s == -1) = false := by simpa using hm
      have g3 : (s != -1) = true := by simp [bne, g2]
      have HE : Hid (taiE B E f n u false = 0) := Lib.hid (by rw [HEE.out false]; simp [hm])
      have BB0 := Lib.hid ((Below.refl w.heap.size w).alloc (Nat.le_refl _) (.cells #[.int .i64 B, .int .i64 E, .slice a n c] 24))
      have X0 := Lib.hid (tbx_new w B E a n c)
      obtain ⟨W0, hW0⟩ : ∃ W, w.alloc (.cells #[.int .i64 B, .int .i64 E, .slice a n c] 24) = W := ⟨_, rfl⟩
      rw [hW0] at BB0 X0
      obtain ⟨t0, t1, t2⟩ := X0.out.cells
      go_enter Tryz.func14, Tryz.ntmps14
      go_wp2_with fail
      refine (lchk_any B E a n c f _ (HT.out.below BB0.out) (show LRd W0 W0.heap.size a n f from (HR.out.below BB0.out).mono BB0.out.size)).mono ?_
      rintro e w1 ⟨rfl, hb⟩
      have X1 := Lib.hid (X0.out.below hb X0.out.lt)
      have B1 := Lib.hid (BB0.out.trans (hb.mono BB0.out.size))
      clear hb X0 BB0
      rw [HC.out]
      go_wp2_with fail
      refine (lissec_any u _).mono ?_
      rintro e w' ⟨rfl, hw'⟩; subst w'
      rw [HU.out]
      obtain ⟨t2_0, t2_1, t2_2⟩ := X1.out.cells
      go_wp2_with fail
      clear t2_0 t2_1 t2_2
      refine (cafter_any B E a n c f u _ (show LRd w1 w1.heap.size a n f from (HR.out.below B1.out).mono B1.out.size) hn HI.out u0 u1).mono ?_
      rintro e w3 ⟨rfl, hb⟩
      have X3 := Lib.hid (X1.out.below hb X1.out.lt)
      have B3 := Lib.hid (B1.out.trans (hb.mono B1.out.size))
      clear hb X1 B1
      rw [HS.out]
      obtain ⟨t4_0, t4_1, t4_2⟩ := X3.out.cells
      go_wp2_with fail
      go_region_held3 (fun w' => w'.cell? ⟨w.heap.size, 0, none⟩ = some (.int .i64 B) ∧ w'.cell? ⟨w.heap.size, 1, none⟩ = some (.int .i64 E) ∧ w'.cell? ⟨w.heap.size, 2, none⟩ = some (.slice a n c)) (go_keep)
          (first
            | (go_at_call 35; refine (passed_any B E _ n c f u _ ?_ hn).mono ?_; exact (show LRd w3 w3.heap.size a n f from (HR.out.below B3.out).mono B3.out.size); rintro e w5 ⟨rfl, hw⟩; rw [HK.out]; have hw' : Below w3.heap.size w3 w5 := ⟨hw.os, hw.tape, hw.output, hw.size, hw.block⟩; have X5 := Lib.hid (X3.out.below hw' X3.out.lt); have B5 := Lib.hid (B3.out.trans (hw'.mono B3.out.size)); obtain ⟨q5_0, q5_1, q5_2⟩ := X5.out.cells; clear hw hw' X3 B3)
            | (go_at_call 34; refine (offa_any B E _ n c f k _ ?_ hk hn).mono ?_; exact (show LRd w5 w5.heap.size a n f from (HR.out.below B5.out).mono B5.out.size); rintro e w6 ⟨rfl, hw⟩; rw [HO.out]; have hw' := hw; have X6 := Lib.hid (X5.out.below hw' X5.out.lt); have B6 := Lib.hid (B5.out.trans (hw'.mono B5.out.size)); obtain ⟨q6_0, q6_1, q6_2⟩ := X6.out.cells; clear hw hw' X5 B5))
      go_wp2_with fail
      go_ret2
      exact ⟨tai_good HE.out (by rw [HV.out]; rw [IntWalk.i64_in _ (by omega)]; simp), B6.out⟩
  · by_cases hm : s = 1
    · subst hm
      have HE : Hid (taiE B E f n u true = 0) := Lib.hid (by rw [HEE.out true]; simp)
      have BB0 := Lib.hid ((Below.refl w.heap.size w).alloc (Nat.le_refl _) (.cells #[.int .i64 B, .int .i64 E, .slice a n c] 24))
      have X0 := Lib.hid (tbx_new w B E a n c)
      obtain ⟨W0, hW0⟩ : ∃ W, w.alloc (.cells #[.int .i64 B, .int .i64 E, .slice a n c] 24) = W := ⟨_, rfl⟩
      rw [hW0] at BB0 X0
      obtain ⟨t0, t1, t2⟩ := X0.out.cells
      go_enter Tryz.func14, Tryz.ntmps14
      go_wp2_with fail
      refine (lchk_any B E a n c f _ (HT.out.below BB0.out) (show LRd W0 W0.heap.size a n f from (HR.out.below BB0.out).mono BB0.out.size)).mono ?_
      rintro e w1 ⟨rfl, hb⟩
      have X1 := Lib.hid (X0.out.below hb X0.out.lt)
      have B1 := Lib.hid (BB0.out.trans (hb.mono BB0.out.size))
      clear hb X0 BB0
      rw [HC.out]
      go_wp2_with fail
      refine (lissec_any u _).mono ?_
      rintro e w' ⟨rfl, hw'⟩; subst w'
      rw [HU.out]
      obtain ⟨t2_0, t2_1, t2_2⟩ := X1.out.cells
      go_wp2_with fail
      clear t2_0 t2_1 t2_2
      refine (cafter_any B E a n c f u _ (show LRd w1 w1.heap.size a n f from (HR.out.below B1.out).mono B1.out.size) hn HI.out u0 u1).mono ?_
      rintro e w3 ⟨rfl, hb⟩
      have X3 := Lib.hid (X1.out.below hb X1.out.lt)
      have B3 := Lib.hid (B1.out.trans (hb.mono B1.out.size))
      clear hb X1 B1
      rw [HS.out]
      obtain ⟨t4_0, t4_1, t4_2⟩ := X3.out.cells
      go_wp2_with fail
      go_region_held3 (fun w' => w'.cell? ⟨w.heap.size, 0, none⟩ = some (.int .i64 B) ∧ w'.cell? ⟨w.heap.size, 1, none⟩ = some (.int .i64 E) ∧ w'.cell? ⟨w.heap.size, 2, none⟩ = some (.slice a n c)) (go_keep)
          (first
            | (go_at_call 35; refine (passed_any B E _ n c f u _ ?_ hn).mono ?_; exact (show LRd w3 w3.heap.size a n f from (HR.out.below B3.out).mono B3.out.size); rintro e w5 ⟨rfl, hw⟩; rw [HK.out]; have hw' : Below w3.heap.size w3 w5 := ⟨hw.os, hw.tape, hw.output, hw.size, hw.block⟩; have X5 := Lib.hid (X3.out.below hw' X3.out.lt); have B5 := Lib.hid (B3.out.trans (hw'.mono B3.out.size)); obtain ⟨q5_0, q5_1, q5_2⟩ := X5.out.cells; clear hw hw' X3 B3)
            | (go_at_call 34; refine (offa_any B E _ n c f k _ ?_ hk hn).mono ?_; exact (show LRd w5 w5.heap.size a n f from (HR.out.below B5.out).mono B5.out.size); rintro e w6 ⟨rfl, hw⟩; rw [HO.out]; have hw' := hw; have X6 := Lib.hid (X5.out.below hw' X5.out.lt); have B6 := Lib.hid (B5.out.trans (hw'.mono B5.out.size)); obtain ⟨q6_0, q6_1, q6_2⟩ := X6.out.cells; clear hw hw' X5 B5))
      go_wp2_with fail
      go_ret2
      exact ⟨tai_good HE.out (by rw [HV.out]; simp), B6.out⟩
    · have g1 : decide (s = 1) = false := decide_eq_false hm
      have g2 : (s == 1) = false := by simpa using hm
      have g3 : (s != 1) = true := by simp [bne, g2]
      have HE : Hid (taiE B E f n u true = 11) := Lib.hid (by rw [HEE.out true]; simp [hm])
      have BB0 := Lib.hid ((Below.refl w.heap.size w).alloc (Nat.le_refl _) (.cells #[.int .i64 B, .int .i64 E, .slice a n c] 24))
      have X0 := Lib.hid (tbx_new w B E a n c)
      obtain ⟨W0, hW0⟩ : ∃ W, w.alloc (.cells #[.int .i64 B, .int .i64 E, .slice a n c] 24) = W := ⟨_, rfl⟩
      rw [hW0] at BB0 X0
      obtain ⟨t0, t1, t2⟩ := X0.out.cells
      go_enter Tryz.func14, Tryz.ntmps14
      go_wp2_with fail
      refine (lchk_any B E a n c f _ (HT.out.below BB0.out) (show LRd W0 W0.heap.size a n f from (HR.out.below BB0.out).mono BB0.out.size)).mono ?_
      rintro e w1 ⟨rfl, hb⟩
      have X1 := Lib.hid (X0.out.below hb X0.out.lt)
      have B1 := Lib.hid (BB0.out.trans (hb.mono BB0.out.size))
      clear hb X0 BB0
      rw [HC.out]
      go_wp2_with fail
      refine (lissec_any u _).mono ?_
      rintro e w' ⟨rfl, hw'⟩; subst w'
      rw [HU.out]
      obtain ⟨t2_0, t2_1, t2_2⟩ := X1.out.cells
      go_wp2_with fail
      clear t2_0 t2_1 t2_2
      refine (cafter_any B E a n c f u _ (show LRd w1 w1.heap.size a n f from (HR.out.below B1.out).mono B1.out.size) hn HI.out u0 u1).mono ?_
      rintro e w3 ⟨rfl, hb⟩
      have X3 := Lib.hid (X1.out.below hb X1.out.lt)
      have B3 := Lib.hid (B1.out.trans (hb.mono B1.out.size))
      clear hb X1 B1
      rw [HS.out]
      obtain ⟨t4_0, t4_1, t4_2⟩ := X3.out.cells
      go_wp2_with fail
      go_ret2
      exact ⟨tai_bad HE.out (by decide), B3.out⟩

/-- The label of a second: the number of entries passed, the second, whether it is an inserted one. -/
def Lp.utX (B : Int) (f : Nat → Int × Int) (n : Nat) (t : Int) : Bool := decide (psT f n t < n) && decide (t - offA B f (psT f n t) = (f (psT f n t)).1)
def Lp.utU (B : Int) (f : Nat → Int × Int) (n : Nat) (t : Int) : Int := t - offA B f (psT f n t) - (if utX B f n t = true then 1 else 0)
def Lp.utE (B E : Int) (f : Nat → Int × Int) (n : Nat) (t : Int) : Int :=
  if chkL B E f n ≠ 0 then chkL B E f n else if okI (t - offA B f (psT f n t)) = true ∧ inS (utU B f n t) = true then 0 else 3
def Lp.utV (B E : Int) (f : Nat → Int × Int) (n : Nat) (t : Int) : Int := if utE B E f n t = 0 then utU B f n t else 0
def Lp.utP (B E : Int) (f : Nat → Int × Int) (n : Nat) (t : Int) : Bool := if utE B E f n t = 0 then utX B f n t else false
theorem Lp.ut_bad {B E : Int} {f : Nat → Int × Int} {n : Nat} {t v : Int} (h : utE B E f n t = v) (h0 : v ≠ 0) : Ending.returned (.tuple #[.int .i64 0, .bool false, .int .i64 v]) = .returned (.tuple #[.int .i64 (utV B E f n t), .bool (utP B E f n t), .int .i64 (utE B E f n t)]) := by
  unfold utV utP; rw [h, if_neg h0, if_neg h0]
theorem Lp.ut_good {B E : Int} {f : Nat → Int × Int} {n : Nat} {t v : Int} {x : Bool} (h : utE B E f n t = 0) (hv : utU B f n t = v) (hx : utX B f n t = x) : Ending.returned (.tuple #[.int .i64 v, .bool x, .int .i64 0]) = .returned (.tuple #[.int .i64 (utV B E f n t), .bool (utP B E f n t), .int .i64 (utE B E f n t)]) := by
  unfold utV utP; rw [h, if_pos rfl, if_pos rfl, hv, hx]
set_option maxRecDepth 100000 in
set_option maxHeartbeats 2000000 in
theorem lutc_any (B E : Int) (a : Option Addr) (n c : Nat) (f : Nat → Int × Int) (t : Int) (w : World) (ht : MT w) (hr : LRd w w.heap.size a n f) (t0 : -9223372036854775808 ≤ t) (t1 : t ≤ 9223372036854775807) :
    Calls Tryz.prog 16 #[.agg #[.int .i64 B, .int .i64 E, .slice a n c], .int .i64 t] w fun e w' => e = .returned (.tuple #[.int .i64 (utV B E f n t), .bool (utP B E f n t), .int .i64 (utE B E f n t)]) ∧ Below w.heap.size w w' := by
  have HR := Lib.hid hr
  have HT := Lib.hid ht
  by_cases hz : chkL B E f n = 0
  case neg =>
    obtain ⟨v, hv⟩ : ∃ v, chkL B E f n = v := ⟨_, rfl⟩
    have h0 : v ≠ 0 := by rw [← hv]; exact hz
    have HC := Lib.hid hv
    have HE : Hid (utE B E f n t = v) := Lib.hid (by unfold utE; rw [if_pos hz, hv])
    have H0 := Lib.hid h0
    have g1 : decide (v = 0) = false := decide_eq_false h0
    have g2 : (v == 0) = false := by simpa using h0
    have g3 : (v != 0) = true := by simp [bne, g2]
    clear hr ht hv hz
    have BB0 := Lib.hid ((Below.refl w.heap.size w).alloc (Nat.le_refl _) (.cells #[.int .i64 B, .int .i64 E, .slice a n c] 24))
    have X0 := Lib.hid (tbx_new w B E a n c)
    obtain ⟨W0, hW0⟩ : ∃ W, w.alloc (.cells #[.int .i64 B, .int .i64 E, .slice a n c] 24) = W := ⟨_, rfl⟩
    rw [hW0] at BB0 X0
    obtain ⟨t0, t1, t2⟩ := X0.out.cells
    go_enter Tryz.func16, Tryz.ntmps16
    go_wp2_with fail
    refine (lchk_any B E a n c f _ (HT.out.below BB0.out) (show LRd W0 W0.heap.size a n f from (HR.out.below BB0.out).mono BB0.out.size)).mono ?_
    rintro e w1 ⟨rfl, hb⟩
    have X1 := Lib.hid (X0.out.below hb X0.out.lt)
    have B1 := Lib.hid (BB0.out.trans (hb.mono BB0.out.size))
    clear hb X0 BB0
    rw [HC.out]
    go_wp2_with fail
    exact bodyPost_ret (v := .tuple #[.int .i64 0, .bool false, .int .i64 v]) (by simp [results, Tryz.results16, go_sem]) rfl ⟨ut_bad HE.out H0.out, B1.out⟩
  have HC := Lib.hid hz
  obtain ⟨hn, hR, _⟩ := chk_zero hz
  have HI := Lib.hid hR
  have HEE : Hid (utE B E f n t = if okI (t - offA B f (psT f n t)) = true ∧ inS (utU B f n t) = true then 0 else 3) := Lib.hid (by unfold utE; rw [if_neg (by rw [hz]; decide)])
  clear hr ht hz hR
  have BB0 := Lib.hid ((Below.refl w.heap.size w).alloc (Nat.le_refl _) (.cells #[.int .i64 B, .int .i64 E, .slice a n c] 24))
  have X0 := Lib.hid (tbx_new w B E a n c)
  obtain ⟨W0, hW0⟩ : ∃ W, w.alloc (.cells #[.int .i64 B, .int .i64 E, .slice a n c] 24) = W := ⟨_, rfl⟩
  rw [hW0] at BB0 X0
  obtain ⟨y0, y1, y2⟩ := X0.out.cells
  go_enter Tryz.func16, Tryz.ntmps16
  go_wp2_with fail
  refine (lchk_any B E a n c f _ (HT.out.below BB0.out) (show LRd W0 W0.heap.size a n f from (HR.out.below BB0.out).mono BB0.out.size)).mono ?_
  rintro e w1 ⟨rfl, hb⟩
  have X1 := Lib.hid (X0.out.below hb X0.out.lt)
  have B1 := Lib.hid (BB0.out.trans (hb.mono BB0.out.size))
  clear hb X0 BB0
  rw [HC.out]
  go_wp2_with fail
  clear hW0 y0 y1 y2
  go_loopw [8] (fun iv wr => ∃ k : Nat, k ≤ n ∧ iv = .int .i64 k ∧ Hid (∀ j, j < k → decide ((f j).1 + (f j).2 ≤ t) = true) ∧ Hid (TBx wr w.heap.size B E a n c) ∧ Hid (Below w.heap.size w wr)) (fun iv _ => n - (intOf iv).toNat)
  case atStart => exact ⟨0, by omega, rfl, Lib.hid (fun i hi => by omega), X1, B1⟩
  case round =>
    clear X1 B1
    obtain ⟨k, hk, rfl, HK, XR, HB⟩ := hrel
    obtain ⟨y0, y1, y2⟩ := XR.out.cells
    by_cases hlt : k < n
    · obtain ⟨b, off, rfl, hbl⟩ := HR.out.some (by omega)
      obtain ⟨e0, e1⟩ := (HR.out.below HB.out).at hlt
      have hki : (k : Int) < n := by omega
      have hib := HI.out.2.2 k hlt
      obtain ⟨x, hx⟩ : ∃ x, (f k).1 = x := ⟨_, rfl⟩
      obtain ⟨y, hy⟩ : ∃ y, (f k).2 = y := ⟨_, rfl⟩
      rw [hx] at e0
      rw [hy] at e1
      rw [hx, hy] at hib
      obtain ⟨⟨b0, b1⟩, b2, b3⟩ := hib
      have HX := Lib.hid hx
      have HY := Lib.hid hy
      clear hx hy
      by_cases hle : x + y ≤ t
      · have HN : Hid (∀ j, j < k + 1 → decide ((f j).1 + (f j).2 ≤ t) = true) := Lib.hid (fun j hj => by
          rcases (show j < k ∨ j = k by omega) with h | rfl
          · exact HK.out j h
          · rw [HX.out, HY.out]; exact decide_eq_true hle)
        have d1 : decide (x + y ≤ t) = true := decide_eq_true hle
        have dk : decide ((k : Int) < n) = true := decide_eq_true hki
        go_wp2_with fail
        go_quiet (fail)
        go_wp2_with fail
        go_roundw
        case rel => exact ⟨k + 1, by omega, by go_num, HN, Lib.hid (show TBx (wr.drewN nq) _ _ _ _ _ _ from XR.out), Lib.hid (blwn HB.out nq)⟩
        case measure => simp [intOf]; omega
      · have d1 : decide (x + y ≤ t) = false := decide_eq_false hle
        have dk : decide ((k : Int) < n) = true := decide_eq_true hki
        have hps : psT f n t = k := fst_eq hk HK.out (.inr (by rw [HX.out, HY.out]; exact d1))
        have ob := offA_in HI.out hk
        obtain ⟨O, hO⟩ : ∃ O, offA B f k = O := ⟨_, rfl⟩
        rw [hO] at ob
        have HO := Lib.hid hO
        rw [hps, hO] at HEE
        by_cases hxo : t - O = x
        · have HXX : Hid (utX B f n t = true) := Lib.hid (by unfold utX; rw [hps, hO]; rw [HX.out, decide_eq_true hlt, decide_eq_true hxo]; rfl)
          have HUU : Hid (utU B f n t = x - 1) := Lib.hid (by unfold utU; rw [HXX.out, hps, hO, hxo]; simp)
          rw [HUU.out] at HEE
          by_cases hok : -9223372036854775808 ≤ t - O ∧ t - O ≤ 9223372036854775807
          · have ho1 := okI_yes hok.1 hok.2
            have HOK := Lib.hid ho1
            rw [ho1] at HEE
            obtain ⟨k0, k1⟩ := hok
            clear ho1
            obtain ⟨g, hg⟩ : ∃ g, inS (x - 1) = g := ⟨_, rfl⟩
            have HG := Lib.hid hg
            rw [hg] at HEE
            clear hg hps hO
            have hx8 : -8000000000 ≤ t - O ∧ t - O ≤ 8000000000 := by omega
            obtain ⟨x8, x9⟩ := hx8
            go_wp2_with fail
            go_quiet (fail)
            have XQ := Lib.hid (show TBx (wr.drewN nq) _ _ _ _ _ _ from XR.out)
            have BQ := Lib.hid (blwn HB.out nq)
            obtain ⟨Q, hQ⟩ : ∃ W, wr.drewN nq = W := ⟨_, rfl⟩
            rw [hQ] at XQ BQ ⊢
            clear hQ XR HB y0 y1 y2
            obtain ⟨z1_0, z1_1, z1_2⟩ := XQ.out.cells
            go_wp2_with fail
            refine (offa_any B E _ _ c f k _ (show LRd Q Q.heap.size (some ⟨b, off, none⟩) n f from (HR.out.below BQ.out).mono BQ.out.size) hk hn).mono ?_
            rintro e w2 ⟨rfl, hb⟩
            have X2 := Lib.hid (XQ.out.below hb XQ.out.lt)
            have B2 := Lib.hid (BQ.out.trans (hb.mono BQ.out.size))
            clear hb XQ BQ
            rw [HO.out]
            obtain ⟨v3_0, v3_1, v3_2⟩ := X2.out.cells
            obtain ⟨m1, _⟩ := (HR.out.below B2.out).at hlt
            rw [HX.out] at m1
            go_wp2_with fail
            refine (sub_any t O _ (by omega) (by omega) (by omega) (by omega)).mono ?_
            rintro e w' ⟨rfl, hw'⟩; subst w'
            rw [HOK.out, sel_true]
            go_wp2_with fail
            refine (lissec_any _ _).mono ?_
            rintro e w' ⟨rfl, hw'⟩; subst w'
            rw [HG.out]
            cases g
            · have HE : Hid (utE B E f n t = 3) := Lib.hid (by rw [HEE.out]; simp)
              go_wp2_with fail
              exact bodyPost_ret (v := .tuple #[.int .i64 0, .bool false, .int .i64 3]) (by simp [results, Tryz.results16, go_sem]) rfl ⟨ut_bad HE.out (by decide), B2.out⟩
            · have HE : Hid (utE B E f n t = 0) := Lib.hid (by rw [HEE.out]; simp)
              go_wp2_with fail
              exact bodyPost_ret (v := .tuple #[.int .i64 (x - 1), .bool true, .int .i64 0]) (by simp [results, Tryz.results16, go_sem]) rfl ⟨ut_good HE.out HUU.out HXX.out, B2.out⟩
          · exact absurd ⟨by omega, by omega⟩ hok
        · have HXX : Hid (utX B f n t = false) := Lib.hid (by unfold utX; rw [hps, hO]; rw [HX.out, decide_eq_false hxo, Bool.and_false])
          have HUU : Hid (utU B f n t = t - O) := Lib.hid (by unfold utU; rw [HXX.out, hps, hO]; simp)
          rw [HUU.out] at HEE
          by_cases hok : -9223372036854775808 ≤ t - O ∧ t - O ≤ 9223372036854775807
          · have ho1 := okI_yes hok.1 hok.2
            have HOK := Lib.hid ho1
            rw [ho1] at HEE
            obtain ⟨k0, k1⟩ := hok
            clear ho1
            have q1 : decide (t - O = x) = false := decide_eq_false hxo
            have q2 : ((t - O) == x) = false := by simpa using hxo
            obtain ⟨g, hg⟩ : ∃ g, inS (t - O) = g := ⟨_, rfl⟩
            have HG := Lib.hid hg
            rw [hg] at HEE
            clear hg hps hO
            go_wp2_with fail
            go_quiet (fail)
            have XQ := Lib.hid (show TBx (wr.drewN nq) _ _ _ _ _ _ from XR.out)
            have BQ := Lib.hid (blwn HB.out nq)
            obtain ⟨Q, hQ⟩ : ∃ W, wr.drewN nq = W := ⟨_, rfl⟩
            rw [hQ] at XQ BQ ⊢
            clear hQ XR HB y0 y1 y2
            obtain ⟨z1_0, z1_1, z1_2⟩ := XQ.out.cells
            go_wp2_with fail
            refine (offa_any B E _ _ c f k _ (show LRd Q Q.heap.size (some ⟨b, off, none⟩) n f from (HR.out.below BQ.out).mono BQ.out.size) hk hn).mono ?_
            rintro e w2 ⟨rfl, hb⟩
            have X2 := Lib.hid (XQ.out.below hb XQ.out.lt)
            have B2 := Lib.hid (BQ.out.trans (hb.mono BQ.out.size))
            clear hb XQ BQ
            rw [HO.out]
            obtain ⟨v3_0, v3_1, v3_2⟩ := X2.out.cells
            obtain ⟨m1, _⟩ := (HR.out.below B2.out).at hlt
            rw [HX.out] at m1
            go_wp2_with fail
            refine (sub_any t O _ (by omega) (by omega) (by omega) (by omega)).mono ?_
            rintro e w' ⟨rfl, hw'⟩; subst w'
            rw [HOK.out, sel_true]
            go_wp2_with fail
            refine (lissec_any _ _).mono ?_
            rintro e w' ⟨rfl, hw'⟩; subst w'
            rw [HG.out]
            cases g
            · have HE : Hid (utE B E f n t = 3) := Lib.hid (by rw [HEE.out]; simp)
              go_wp2_with fail
              exact bodyPost_ret (v := .tuple #[.int .i64 0, .bool false, .int .i64 3]) (by simp [results, Tryz.results16, go_sem]) rfl ⟨ut_bad HE.out (by decide), B2.out⟩
            · have HE : Hid (utE B E f n t = 0) := Lib.hid (by rw [HEE.out]; simp)
              go_wp2_with fail
              exact bodyPost_ret (v := .tuple #[.int .i64 (t - O), .bool false, .int .i64 0]) (by simp [results, Tryz.results16, go_sem]) rfl ⟨ut_good HE.out HUU.out HXX.out, B2.out⟩
          · have ho1 := okI_no (x := t - O) (by omega)
            have HOK := Lib.hid ho1
            have HE : Hid (utE B E f n t = 3) := Lib.hid (by rw [HEE.out, ho1]; simp)
            clear ho1 hok hps hO
            go_wp2_with fail
            go_quiet (fail)
            have XQ := Lib.hid (show TBx (wr.drewN nq) _ _ _ _ _ _ from XR.out)
            have BQ := Lib.hid (blwn HB.out nq)
            obtain ⟨Q, hQ⟩ : ∃ W, wr.drewN nq = W := ⟨_, rfl⟩
            rw [hQ] at XQ BQ ⊢
            clear hQ XR HB y0 y1 y2
            obtain ⟨z1_0, z1_1, z1_2⟩ := XQ.out.cells
            go_wp2_with fail
            refine (offa_any B E _ _ c f k _ (show LRd Q Q.heap.size (some ⟨b, off, none⟩) n f from (HR.out.below BQ.out).mono BQ.out.size) hk hn).mono ?_
            rintro e w2 ⟨rfl, hb⟩
            have X2 := Lib.hid (XQ.out.below hb XQ.out.lt)
            have B2 := Lib.hid (BQ.out.trans (hb.mono BQ.out.size))
            clear hb XQ BQ
            rw [HO.out]
            go_wp2_with fail
            refine (sub_any t O _ (by omega) (by omega) (by omega) (by omega)).mono ?_
            rintro e w' ⟨rfl, hw'⟩; subst w'
            rw [HOK.out, sel_false]
            go_wp2_with fail
            exact bodyPost_ret (v := .tuple #[.int .i64 0, .bool false, .int .i64 3]) (by simp [results, Tryz.results16, go_sem]) rfl ⟨ut_bad HE.out (by decide), B2.out⟩
    · obtain rfl : k = n := by omega
      have hps : psT f k t = k := fst_eq (Nat.le_refl _) HK.out (.inl rfl)
      have dk : decide ((k : Int) < k) = false := decide_eq_false (by omega)
      have hki : ¬ (k : Int) < k := by omega
      have ob := offA_in HI.out hk
      obtain ⟨O, hO⟩ : ∃ O, offA B f k = O := ⟨_, rfl⟩
      rw [hO] at ob
      have HO := Lib.hid hO
      rw [hps, hO] at HEE
      have HXX : Hid (utX B f k t = false) := Lib.hid (by unfold utX; rw [hps, hO]; rw [decide_eq_false (show ¬ k < k by omega), Bool.false_and])
      have HUU : Hid (utU B f k t = t - O) := Lib.hid (by unfold utU; rw [HXX.out, hps, hO]; simp)
      rw [HUU.out] at HEE
      by_cases hok : -9223372036854775808 ≤ t - O ∧ t - O ≤ 9223372036854775807
      · have ho1 := okI_yes hok.1 hok.2
        have HOK := Lib.hid ho1
        rw [ho1] at HEE
        obtain ⟨k0, k1⟩ := hok
        clear ho1
        obtain ⟨g, hg⟩ : ∃ g, inS (t - O) = g := ⟨_, rfl⟩
        have HG := Lib.hid hg
        rw [hg] at HEE
        clear hg hps hO
        go_wp2_with fail
        go_quiet (fail)
        have XQ := Lib.hid (show TBx (wr.drewN nq) _ _ _ _ _ _ from XR.out)
        have BQ := Lib.hid (blwn HB.out nq)
        obtain ⟨Q, hQ⟩ : ∃ W, wr.drewN nq = W := ⟨_, rfl⟩
        rw [hQ] at XQ BQ ⊢
        clear hQ XR HB y0 y1 y2
        obtain ⟨z1_0, z1_1, z1_2⟩ := XQ.out.cells
        go_wp2_with fail
        refine (offa_any B E _ _ c f k _ (show LRd Q Q.heap.size a k f from (HR.out.below BQ.out).mono BQ.out.size) hk hn).mono ?_
        rintro e w2 ⟨rfl, hb⟩
        have X2 := Lib.hid (XQ.out.below hb XQ.out.lt)
        have B2 := Lib.hid (BQ.out.trans (hb.mono BQ.out.size))
        clear hb XQ BQ
        rw [HO.out]
        obtain ⟨v3_0, v3_1, v3_2⟩ := X2.out.cells
        go_wp2_with fail
        refine (sub_any t O _ (by omega) (by omega) (by omega) (by omega)).mono ?_
        rintro e w' ⟨rfl, hw'⟩; subst w'
        rw [HOK.out, sel_true]
        go_wp2_with fail
        refine (lissec_any _ _).mono ?_
        rintro e w' ⟨rfl, hw'⟩; subst w'
        rw [HG.out]
        cases g
        · have HE : Hid (utE B E f k t = 3) := Lib.hid (by rw [HEE.out]; simp)
          go_wp2_with fail
          exact bodyPost_ret (v := .tuple #[.int .i64 0, .bool false, .int .i64 3]) (by simp [results, Tryz.results16, go_sem]) rfl ⟨ut_bad HE.out (by decide), B2.out⟩
        · have HE : Hid (utE B E f k t = 0) := Lib.hid (by rw [HEE.out]; simp)
          go_wp2_with fail
          exact bodyPost_ret (v := .tuple #[.int .i64 (t - O), .bool false, .int .i64 0]) (by simp [results, Tryz.results16, go_sem]) rfl ⟨ut_good HE.out HUU.out HXX.out, B2.out⟩
      · have ho1 := okI_no (x := t - O) (by omega)
        have HOK := Lib.hid ho1
        have HE : Hid (utE B E f k t = 3) := Lib.hid (by rw [HEE.out, ho1]; simp)
        clear ho1 hok hps hO
        go_wp2_with fail
        go_quiet (fail)
        have XQ := Lib.hid (show TBx (wr.drewN nq) _ _ _ _ _ _ from XR.out)
        have BQ := Lib.hid (blwn HB.out nq)
        obtain ⟨Q, hQ⟩ : ∃ W, wr.drewN nq = W := ⟨_, rfl⟩
        rw [hQ] at XQ BQ ⊢
        clear hQ XR HB y0 y1 y2
        obtain ⟨z1_0, z1_1, z1_2⟩ := XQ.out.cells
        go_wp2_with fail
        refine (offa_any B E _ _ c f k _ (show LRd Q Q.heap.size a k f from (HR.out.below BQ.out).mono BQ.out.size) hk hn).mono ?_
        rintro e w2 ⟨rfl, hb⟩
        have X2 := Lib.hid (XQ.out.below hb XQ.out.lt)
        have B2 := Lib.hid (BQ.out.trans (hb.mono BQ.out.size))
        clear hb XQ BQ
        rw [HO.out]
        go_wp2_with fail
        refine (sub_any t O _ (by omega) (by omega) (by omega) (by omega)).mono ?_
        rintro e w' ⟨rfl, hw'⟩; subst w'
        rw [HOK.out, sel_false]
        go_wp2_with fail
        exact bodyPost_ret (v := .tuple #[.int .i64 0, .bool false, .int .i64 3]) (by simp [results, Tryz.results16, go_sem]) rfl ⟨ut_bad HE.out (by decide), B2.out⟩
end Go.Proofs.YtegpajdahanhfaaGreatDoor
