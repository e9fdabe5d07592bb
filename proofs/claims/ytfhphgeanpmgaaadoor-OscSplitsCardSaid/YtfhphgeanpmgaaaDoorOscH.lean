/- Contracts of layer 9: When of both. -/
import Derived.Test.YtfhphgeanpmgaaaDoorOscG
namespace Go.Proofs.YtfhphgeanpmgaaaDoor
open Go.RowKit Fx Oc

/-- What the closure of When captures. -/
def Oc.Cw (w : World) (D G H : Nat) (ph : Int) (a : Option Addr) (n c : Nat) (f : Nat → Int × Int) (r : Int) (wr : World) : Prop := Ow w D G ph a n c f wr ∧ (wr.cell? ⟨H, 0, none⟩ = some (.int .i64 r) ∧ H < wr.heap.size) ∧ D ≤ wr.heap.size
theorem Oc.Cw.below {w wr wx : World} {D G H : Nat} {ph : Int} {a : Option Addr} {n c : Nat} {f : Nat → Int × Int} {r : Int} (h : Cw w D G H ph a n c f r wr) (hb : Below wr.heap.size wr wx) : Cw w D G H ph a n c f r wx :=
  ⟨h.1.below h.2.2 hb, ⟨(hb.cell (p := ⟨H, 0, none⟩) h.2.1.2).trans h.2.1.1, Nat.lt_of_lt_of_le h.2.1.2 hb.size⟩, Nat.le_trans h.2.2 hb.size⟩
set_option maxRecDepth 100000 in
theorem wcl_any (w0 : World) (D G H : Nat) (ph : Int) (a : Option Addr) (n c : Nat) (f : Nat → Int × Int) (r : Int) (t : Int) (w : World) (hc : Cw w0 D G H ph a n c f r w) (h : Vd ph n f) (t0 : 0 ≤ t) (t1 : t ≤ 1125899906842624) :
    Calls Tryd.prog 27 #[.int .i64 t, .pointer (some ⟨G, 0, none⟩), .pointer (some ⟨H, 0, none⟩)] w fun e w' => e = .returned (.bool (decide (r ≤ rd ph n f t))) ∧ Below w.heap.size w w' := by
  have HC := Lib.hid hc
  have HVd := Lib.hid h
  obtain ⟨c0, c1⟩ := hc.1.1.cells
  have c2 := hc.2.1.1
  obtain ⟨X, hX⟩ : ∃ X, rd ph n f t = X := ⟨_, rfl⟩
  rw [hX]
  have HX := Lib.hid hX
  clear hc h hX
  go_enter Tryd.func27, Tryd.ntmps27
  go_wp2_with fail
  go_region_held3 (fun w' => w'.cell? ⟨G, 0, none⟩ = some (.int .i64 ph) ∧ w'.cell? ⟨G, 1, none⟩ = some (.slice a n c) ∧ w'.cell? ⟨H, 0, none⟩ = some (.int .i64 r)) (go_keep)
    (first
      | (go_at_call 22; refine (reading_any ph a n c f t _ ?_ HVd.out t0 t1).mono ?_; exact (HC.out.1.2.1.mono HC.out.2.2); rintro e w1 ⟨rfl, hb⟩; rw [HX.out]; have hb : Below w.heap.size w w1 := ⟨hb.os, hb.tape, hb.output, hb.size, hb.block⟩; have HC1 := Lib.hid (HC.out.below hb); obtain ⟨d0, d1⟩ := HC1.out.1.1.cells; have d2 := HC1.out.2.1.1; have HB := Lib.hid hb; clear hb))
  go_wp2_with fail
  go_ret
  exact ⟨rfl, HB.out⟩
/-- What a search finds. -/
def Oc.FndW (ph : Int) (n : Nat) (f : Nat → Int × Int) (r : Int) (w : World) (e : Ending) (w' : World) : Prop :=
  ∃ i : Int, e = .returned (.int .i64 i) ∧ ((0 ≤ i ∧ i ≤ 1125899906842625) ∧ (0 < i → rd ph n f (i - 1) < r) ∧ (i ≤ 1125899906842624 → r ≤ rd ph n f i)) ∧ Below w.heap.size w w'
set_option maxRecDepth 100000 in
set_option maxHeartbeats 1000000 in
theorem search_any (w0 : World) (D G H : Nat) (ph : Int) (a : Option Addr) (n c : Nat) (f : Nat → Int × Int) (r : Int) (w : World) (hc : Cw w0 D G H ph a n c f r w) (h : Vd ph n f) :
    Calls Tryd.prog 26 #[.int .i64 1125899906842625, .func (Fn.func 27) #[] #[.pointer (some ⟨G, 0, none⟩), .pointer (some ⟨H, 0, none⟩)]] w (FndW ph n f r w) := by
  have HVd := Lib.hid h
  have HC := Lib.hid (And.intro hc (Below.refl w.heap.size w))
  clear hc h
  go_enter Tryd.func26, Tryd.ntmps26
  go_wp2_with fail
  go_loopw [5, 6, 7] (fun iv jv _ wr => ∃ i j : Int, (0 ≤ i ∧ i ≤ j ∧ j ≤ 1125899906842625) ∧ iv = .int .i64 i ∧ jv = .int .i64 j ∧ Hid ((0 < i → rd ph n f (i - 1) < r) ∧ (j ≤ 1125899906842624 → r ≤ rd ph n f j)) ∧ Hid (Cw w0 D G H ph a n c f r wr ∧ Below w.heap.size w wr)) (fun iv jv _ _ => (intOf jv - intOf iv).toNat)
  case atStart => exact ⟨0, 1125899906842625, ⟨by omega, by omega, by omega⟩, rfl, rfl, Lib.hid ⟨fun h => absurd h (by omega), fun h => absurd h (by omega)⟩, HC⟩
  case round =>
    clear HC
    obtain ⟨i, j, ⟨i0, ij, j1⟩, rfl, rfl, HI, HC⟩ := hrel
    by_cases hlt : i < j
    · obtain ⟨m, hm⟩ : ∃ m, (i + j) / 2 = m := ⟨_, rfl⟩
      have m0 : i ≤ m := by omega
      have m1 : m < j := by omega
      obtain ⟨X, hX⟩ : ∃ X, rd ph n f m = X := ⟨_, rfl⟩
      have HX := Lib.hid hX
      clear hX
      by_cases hr : r ≤ X
      · have d1 : decide (r ≤ X) = true := decide_eq_true hr
        go_wp2_with fail
        refine (wcl_any w0 D G H ph a n c f r m wr HC.out.1 HVd.out (by omega) (by omega)).mono ?_
        rintro e w1 ⟨rfl, hb⟩
        have HC2 := Lib.hid (And.intro (HC.out.1.below hb) (HC.out.2.trans (hb.mono HC.out.2.size)))
        rw [HX.out]
        clear hb HC hm
        go_wp2_with fail
        go_roundw
        case rel => exact ⟨i, m, ⟨by omega, by omega, by omega⟩, rfl, rfl, Lib.hid ⟨HI.out.1, fun _ => by rw [HX.out]; exact hr⟩, HC2⟩
        case measure => simp [intOf]; omega
      · have d1 : decide (r ≤ X) = false := decide_eq_false hr
        go_wp2_with fail
        refine (wcl_any w0 D G H ph a n c f r m wr HC.out.1 HVd.out (by omega) (by omega)).mono ?_
        rintro e w1 ⟨rfl, hb⟩
        have HC2 := Lib.hid (And.intro (HC.out.1.below hb) (HC.out.2.trans (hb.mono HC.out.2.size)))
        rw [HX.out]
        clear hb HC hm
        go_wp2_with fail
        go_roundw
        case rel => exact ⟨m + 1, j, ⟨by omega, by omega, by omega⟩, rfl, rfl, Lib.hid ⟨fun _ => by rw [show m + 1 - 1 = m by omega, HX.out]; omega, HI.out.2⟩, HC2⟩
        case measure => simp [intOf]; omega
    · obtain rfl : i = j := by omega
      go_wp2_with fail
      go_ret
      exact ⟨i, rfl, ⟨⟨i0, j1⟩, HI.out⟩, HC.out.2⟩
/-- What When answers. -/
def Oc.WOk (ph : Int) (n : Nat) (f : Nat → Int × Int) (r v e : Int) : Prop :=
  (¬ chk ph n f = 0 ∧ v = 0 ∧ e = chk ph n f) ∨ (chk ph n f = 0 ∧ rd ph n f 1125899906842624 < r ∧ v = 0 ∧ e = 11) ∨ (chk ph n f = 0 ∧ e = 0 ∧ Fst ph n f r v)
theorem Oc.wok_unique {ph : Int} {n : Nat} {f : Nat → Int × Int} {r v e v' e' : Int} (h : WOk ph n f r v e) (h' : WOk ph n f r v' e') : v = v' ∧ e = e' := by
  rcases h with ⟨c, h1, h2⟩ | ⟨c, h0, h1, h2⟩ | ⟨c, h1, h2⟩ <;> rcases h' with ⟨d, k1, k2⟩ | ⟨d, k0, k1, k2⟩ | ⟨d, k1, k2⟩
  · exact ⟨by omega, by omega⟩
  · exact absurd d c
  · exact absurd d c
  · exact absurd c d
  · exact ⟨by omega, by omega⟩
  · have hv := chk_iff.1 c
    have := rd_mono hv (t := v') (u := 1125899906842624) k2.1.1 k2.1.2 (by omega)
    have := k2.2.1
    omega
  · exact absurd c d
  · have hv := chk_iff.1 c
    have := rd_mono hv (t := v) (u := 1125899906842624) h2.1.1 h2.1.2 (by omega)
    have := h2.2.1
    omega
  · exact ⟨fst_unique (chk_iff.1 c) h2 k2, by omega⟩
def Oc.WhenIs (ph : Int) (n : Nat) (f : Nat → Int × Int) (r : Int) (w : World) (x : Ending) (w' : World) : Prop := ∃ v e : Int, x = .returned (.tuple #[.int .i64 v, .int .i64 e]) ∧ WOk ph n f r v e ∧ Below w.heap.size w w'
set_option maxRecDepth 100000 in
theorem owhen_no (ph : Int) (a : Option Addr) (n c : Nat) (f : Nat → Int × Int) (r : Int) (w : World) (hv : VN w) (hr : Rd2 w w.heap.size a n f) (hm : n ≤ 9223372036854775807) (h : ¬ chk ph n f = 0) :
    Calls Tryd.prog 14 #[.agg #[.int .i64 ph, .slice a n c], .int .i64 r] w (WhenIs ph n f r w) := by
  have HN := Lib.hid h
  obtain ⟨E, hE⟩ : ∃ E, chk ph n f = E := ⟨_, rfl⟩
  rw [hE] at h
  have k0 : (E == 0) = false := by simpa using h
  have k1 : (E != 0) = true := by simpa using h
  have HE := Lib.hid hE
  clear h hE
  have HV := Lib.hid (hv.below (((Below.refl w.heap.size w).alloc (Nat.le_refl _) (.cells #[.int .i64 ph, .slice a n c] 24)).alloc (by simp) (.cells #[.int .i64 r] 3)))
  have hb1 : Below w.heap.size w (w.alloc (.cells #[.int .i64 ph, .slice a n c] 24)) := (Below.refl _ _).alloc (Nat.le_refl _) _
  have hb2 := hb1.alloc hb1.size (.cells #[.int .i64 r] 3)
  have hX2 := (ox_new w ph a n c).alloc (.cells #[.int .i64 r] 3)
  have hr2 := hr.below hb2
  have hi2 : ((w.alloc (.cells #[.int .i64 ph, .slice a n c] 24)).alloc (.cells #[.int .i64 r] 3)).cell? ⟨w.heap.size + 1, 0, none⟩ = some (.int .i64 r) := by
    have := heap_alloc_new (w.alloc (.cells #[.int .i64 ph, .slice a n c] 24)) (.cells #[.int .i64 r] 3)
    rw [show (w.alloc (.cells #[.int .i64 ph, .slice a n c] 24)).heap.size = w.heap.size + 1 by simp] at this
    unfold World.cell?
    show (match (_ : Option Obj) with | some (.cells cs _ _) => cs[0]? | _ => none) = _
    rw [this]
    rfl
  have hz2 : ((w.alloc (.cells #[.int .i64 ph, .slice a n c] 24)).alloc (.cells #[.int .i64 r] 3)).heap.size = w.heap.size + 1 + 1 := by simp
  obtain ⟨v, hvw⟩ : ∃ v, (w.alloc (.cells #[.int .i64 ph, .slice a n c] 24)).alloc (.cells #[.int .i64 r] 3) = v := ⟨_, rfl⟩
  rw [hvw] at hb2 hX2 hr2 hi2 hz2 HV
  obtain ⟨c0, c1⟩ := hX2.cells
  have HO1 : Hid (Cw w w.heap.size w.heap.size (w.heap.size + 1) ph a n c f r v) := Lib.hid ⟨⟨hX2, hr2, hb2⟩, ⟨hi2, by omega⟩, by omega⟩
  have hs1 : w.heap.size ≤ v.heap.size := by omega
  clear hb1 hb2 hX2 hr2 hi2 hz2 hr hv
  go_enter Tryd.func14, Tryd.ntmps14
  go_wp2_with fail
  clear hvw c0 c1
  refine (ochk_any ph a n c f v HV.out (HO1.out.1.2.1.mono hs1) hm).mono ?_
  rintro e v1 ⟨rfl, hb⟩
  have HO2 := Lib.hid (HO1.out.below hb)
  clear hb HO1 HV
  rw [HE.out]
  go_wp2_with fail
  go_ret2
  exact ⟨0, E, rfl, .inl ⟨HN.out, rfl, HE.out.symm⟩, HO2.out.1.2.2⟩
set_option maxRecDepth 100000 in
theorem rwhen_no (ph : Int) (a : Option Addr) (n c : Nat) (f : Nat → Int × Int) (r : Int) (w : World) (hr : Rd2 w w.heap.size a n f) (hm : n ≤ 9223372036854775807) (h : ¬ chk ph n f = 0) :
    Calls Tryd.prog 15 #[.agg #[.int .i64 ph, .slice a n c], .int .i64 r] w (WhenIs ph n f r w) := by
  have HN := Lib.hid h
  obtain ⟨E, hE⟩ : ∃ E, chk ph n f = E := ⟨_, rfl⟩
  rw [hE] at h
  have k0 : (E == 0) = false := by simpa using h
  have k1 : (E != 0) = true := by simpa using h
  have HE := Lib.hid hE
  clear h hE
  have hb1 : Below w.heap.size w (w.alloc (.cells #[.int .i64 ph, .slice a n c] 24)) := (Below.refl _ _).alloc (Nat.le_refl _) _
  have hX1 := ox_new w ph a n c
  obtain ⟨v, hvw⟩ : ∃ v, w.alloc (.cells #[.int .i64 ph, .slice a n c] 24) = v := ⟨_, rfl⟩
  rw [hvw] at hb1 hX1
  have hr1 := hr.below hb1
  obtain ⟨c0, c1⟩ := hX1.cells
  have HO1 : Hid (Ow w w.heap.size w.heap.size ph a n c f v) := Lib.hid ⟨hX1, hr1, hb1⟩
  have hs1 := hb1.size
  clear hb1 hX1 hr1 hr
  go_enter Tryd.func15, Tryd.ntmps15
  go_wp2_with fail
  clear hvw c0 c1
  refine (rochk_any ph a n c f v (HO1.out.2.1.mono hs1) hm).mono ?_
  rintro e v1 ⟨rfl, hb⟩
  have HO2 := Lib.hid (HO1.out.below hs1 hb)
  clear hb HO1
  rw [HE.out]
  go_wp2_with fail
  go_ret2
  exact ⟨0, E, rfl, .inl ⟨HN.out, rfl, HE.out.symm⟩, HO2.out.2.2⟩
set_option maxRecDepth 100000 in
set_option maxHeartbeats 1000000 in
theorem owhen_yes (ph : Int) (a : Option Addr) (n c : Nat) (f : Nat → Int × Int) (r : Int) (w : World) (hv : VN w) (hr : Rd2 w w.heap.size a n f) (hm : n ≤ 9223372036854775807) (h : Vd ph n f) :
    Calls Tryd.prog 14 #[.agg #[.int .i64 ph, .slice a n c], .int .i64 r] w (WhenIs ph n f r w) := by
  have HE := Lib.hid (chk_iff.2 h)
  have HVd := Lib.hid h
  clear h
  have HV := Lib.hid (hv.below (((Below.refl w.heap.size w).alloc (Nat.le_refl _) (.cells #[.int .i64 ph, .slice a n c] 24)).alloc (by simp) (.cells #[.int .i64 r] 3)))
  have hb1 : Below w.heap.size w (w.alloc (.cells #[.int .i64 ph, .slice a n c] 24)) := (Below.refl _ _).alloc (Nat.le_refl _) _
  have hb2 := hb1.alloc hb1.size (.cells #[.int .i64 r] 3)
  have hX2 := (ox_new w ph a n c).alloc (.cells #[.int .i64 r] 3)
  have hr2 := hr.below hb2
  have hi2 : ((w.alloc (.cells #[.int .i64 ph, .slice a n c] 24)).alloc (.cells #[.int .i64 r] 3)).cell? ⟨w.heap.size + 1, 0, none⟩ = some (.int .i64 r) := by
    have := heap_alloc_new (w.alloc (.cells #[.int .i64 ph, .slice a n c] 24)) (.cells #[.int .i64 r] 3)
    rw [show (w.alloc (.cells #[.int .i64 ph, .slice a n c] 24)).heap.size = w.heap.size + 1 by simp] at this
    unfold World.cell?
    show (match (_ : Option Obj) with | some (.cells cs _ _) => cs[0]? | _ => none) = _
    rw [this]
    rfl
  have hz2 : ((w.alloc (.cells #[.int .i64 ph, .slice a n c] 24)).alloc (.cells #[.int .i64 r] 3)).heap.size = w.heap.size + 1 + 1 := by simp
  obtain ⟨v, hvw⟩ : ∃ v, (w.alloc (.cells #[.int .i64 ph, .slice a n c] 24)).alloc (.cells #[.int .i64 r] 3) = v := ⟨_, rfl⟩
  rw [hvw] at hb2 hX2 hr2 hi2 hz2 HV
  obtain ⟨c0, c1⟩ := hX2.cells
  have HO1 : Hid (Cw w w.heap.size w.heap.size (w.heap.size + 1) ph a n c f r v) := Lib.hid ⟨⟨hX2, hr2, hb2⟩, ⟨hi2, by omega⟩, by omega⟩
  have hs1 : w.heap.size ≤ v.heap.size := by omega
  clear hb1 hb2 hX2 hr2 hi2 hz2 hr hv
  go_enter Tryd.func14, Tryd.ntmps14
  go_wp2_with fail
  clear hvw c0 c1
  refine (ochk_any ph a n c f v HV.out (HO1.out.1.2.1.mono hs1) hm).mono ?_
  rintro e v1 ⟨rfl, hb⟩
  have HO2 := Lib.hid (HO1.out.below hb)
  clear hb HO1 HV
  rw [HE.out]
  go_wp2_with fail
  refine (search_any w w.heap.size w.heap.size (w.heap.size + 1) ph a n c f r v1 HO2.out HVd.out).mono ?_
  rintro e v2 ⟨i, rfl, ⟨⟨i0, i1⟩, i2, i3⟩, hb⟩
  have HI := Lib.hid (And.intro i2 i3)
  have HB := Lib.hid (HO2.out.1.2.2.trans (hb.mono HO2.out.2.2))
  clear i2 i3 hb HO2
  by_cases hi : 1125899906842624 < i
  · have d1 : decide (1125899906842624 < i) = true := decide_eq_true hi
    go_wp2_with fail
    go_ret2
    exact ⟨0, 11, rfl, .inr (.inl ⟨HE.out, by have := HI.out.1 (by omega); rw [show i - 1 = 1125899906842624 by omega] at this; exact this, rfl, rfl⟩), HB.out⟩
  · have d1 : decide (1125899906842624 < i) = false := decide_eq_false hi
    go_wp2_with fail
    go_ret2
    exact ⟨i, 0, rfl, .inr (.inr ⟨HE.out, rfl, ⟨i0, by omega⟩, HI.out.2 (by omega), HI.out.1⟩), HB.out⟩
set_option maxRecDepth 100000 in
set_option maxHeartbeats 1000000 in
theorem rwhen_yes (ph : Int) (a : Option Addr) (n c : Nat) (f : Nat → Int × Int) (r : Int) (w : World) (hr : Rd2 w w.heap.size a n f) (hm : n ≤ 9223372036854775807) (h : Vd ph n f) :
    Calls Tryd.prog 15 #[.agg #[.int .i64 ph, .slice a n c], .int .i64 r] w (WhenIs ph n f r w) := by
  have HE := Lib.hid (chk_iff.2 h)
  have HVd := Lib.hid h
  clear h
  have hb1 : Below w.heap.size w (w.alloc (.cells #[.int .i64 ph, .slice a n c] 24)) := (Below.refl _ _).alloc (Nat.le_refl _) _
  have hX1 := ox_new w ph a n c
  obtain ⟨v, hvw⟩ : ∃ v, w.alloc (.cells #[.int .i64 ph, .slice a n c] 24) = v := ⟨_, rfl⟩
  rw [hvw] at hb1 hX1
  have hr1 := hr.below hb1
  obtain ⟨c0, c1⟩ := hX1.cells
  have HO1 : Hid (Ow w w.heap.size w.heap.size ph a n c f v) := Lib.hid ⟨hX1, hr1, hb1⟩
  have hs1 := hb1.size
  clear hb1 hX1 hr1 hr
  go_enter Tryd.func15, Tryd.ntmps15
  go_wp2_with fail
  clear hvw c0 c1
  refine (rochk_any ph a n c f v (HO1.out.2.1.mono hs1) hm).mono ?_
  rintro e v1 ⟨rfl, hb⟩
  have HO2 := Lib.hid (HO1.out.below hs1 hb)
  clear hb HO1
  rw [HE.out]
  have hs2 := HO2.out.2.2.size
  obtain ⟨c0, c1⟩ := HO2.out.1.cells
  go_wp2_with fail
  clear c0 c1
  refine (rread_any ph a n c f 1125899906842624 v1 (HO2.out.2.1.mono hs2) HVd.out (by decide) (by decide)).mono ?_
  rintro e v2 ⟨rfl, hb⟩
  have HO3 := Lib.hid (HO2.out.below hs2 hb)
  have hs3 := HO3.out.2.2.size
  clear hb HO2
  obtain ⟨X, hX⟩ : ∃ X, rd ph n f 1125899906842624 = X := ⟨_, rfl⟩
  rw [hX]
  have HX := Lib.hid hX
  clear hX
  by_cases hr0 : X < r
  · have d1 : decide (X < r) = true := decide_eq_true hr0
    go_wp2_with fail
    go_ret2
    exact ⟨0, 11, rfl, .inr (.inl ⟨HE.out, by rw [HX.out]; exact hr0, rfl, rfl⟩), HO3.out.2.2⟩
  · have d1 : decide (X < r) = false := decide_eq_false hr0
    go_wp2_with fail
    go_loopw [7, 8, 9] (fun iv jv _ wr => ∃ i j : Int, (0 ≤ i ∧ i ≤ j ∧ j ≤ 1125899906842624) ∧ iv = .int .i64 i ∧ jv = .int .i64 j ∧ Hid ((0 < i → rd ph n f (i - 1) < r) ∧ r ≤ rd ph n f j) ∧ Hid (Ow w w.heap.size w.heap.size ph a n c f wr)) (fun iv jv _ _ => (intOf jv - intOf iv).toNat)
    case atStart => exact ⟨0, 1125899906842624, ⟨by omega, by omega, by omega⟩, rfl, rfl, Lib.hid ⟨fun h => absurd h (by omega), by rw [HX.out]; omega⟩, HO3⟩
    case round =>
      clear HO3
      obtain ⟨i, j, ⟨i0, ij, j1⟩, rfl, rfl, HI, HO⟩ := hrel
      obtain ⟨c0, c1⟩ := HO.out.1.cells
      have hsz := HO.out.2.2.size
      by_cases hlt : i < j
      · obtain ⟨m, hm'⟩ : ∃ m, (i + j) / 2 = m := ⟨_, rfl⟩
        have m0 : i ≤ m := by omega
        have m1 : m < j := by omega
        obtain ⟨Y, hY⟩ : ∃ Y, rd ph n f m = Y := ⟨_, rfl⟩
        have HY := Lib.hid hY
        have HMM := Lib.hid hm'
        clear hY
        by_cases hr1 : r ≤ Y
        · have d2 : decide (r ≤ Y) = true := decide_eq_true hr1
          go_wp2_with fail
          refine (rread_any ph a n c f m wr (HO.out.2.1.mono hsz) HVd.out (by omega) (by omega)).mono ?_
          rintro e w1 ⟨rfl, hb⟩
          have HO4 := Lib.hid (HO.out.below hsz hb)
          rw [HY.out]
          clear hb HO hm' c0 c1
          go_wp2_with fail
          go_roundw
          case rel => exact ⟨i, m, ⟨by omega, by omega, by omega⟩, rfl, by first | rfl | rw [HMM.out], Lib.hid ⟨HI.out.1, by rw [HY.out]; exact hr1⟩, HO4⟩
          case measure => simp [intOf]; omega
        · have d2 : decide (r ≤ Y) = false := decide_eq_false hr1
          go_wp2_with fail
          refine (rread_any ph a n c f m wr (HO.out.2.1.mono hsz) HVd.out (by omega) (by omega)).mono ?_
          rintro e w1 ⟨rfl, hb⟩
          have HO4 := Lib.hid (HO.out.below hsz hb)
          rw [HY.out]
          clear hb HO hm' c0 c1
          go_wp2_with fail
          go_roundw
          case rel => exact ⟨m + 1, j, ⟨by omega, by omega, by omega⟩, by first | rfl | rw [HMM.out], rfl, Lib.hid ⟨fun _ => by rw [show m + 1 - 1 = m by omega, HY.out]; omega, HI.out.2⟩, HO4⟩
          case measure => simp [intOf]; omega
      · obtain rfl : i = j := by omega
        go_wp2_with fail
        go_ret2
        exact ⟨i, 0, rfl, .inr (.inr ⟨HE.out, rfl, ⟨i0, j1⟩, HI.out.2, HI.out.1⟩), HO.out.2.2⟩
theorem owhen_any (ph : Int) (a : Option Addr) (n c : Nat) (f : Nat → Int × Int) (r : Int) (w : World) (hv : VN w) (hr : Rd2 w w.heap.size a n f) (hm : n ≤ 9223372036854775807) :
    Calls Tryd.prog 14 #[.agg #[.int .i64 ph, .slice a n c], .int .i64 r] w (WhenIs ph n f r w) := by
  by_cases h : chk ph n f = 0
  · exact owhen_yes ph a n c f r w hv hr hm (chk_iff.1 h)
  · exact owhen_no ph a n c f r w hv hr hm h
theorem rwhen_any (ph : Int) (a : Option Addr) (n c : Nat) (f : Nat → Int × Int) (r : Int) (w : World) (hr : Rd2 w w.heap.size a n f) (hm : n ≤ 9223372036854775807) :
    Calls Tryd.prog 15 #[.agg #[.int .i64 ph, .slice a n c], .int .i64 r] w (WhenIs ph n f r w) := by
  by_cases h : chk ph n f = 0
  · exact rwhen_yes ph a n c f r w hr hm (chk_iff.1 h)
  · exact rwhen_no ph a n c f r w hr hm h
end Go.Proofs.YtfhphgeanpmgaaaDoor
