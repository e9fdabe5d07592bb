/- Laws of layer 9: inverses; order; drift. -/
import Derived.Test.YtfhphgeanpmgaaaDoorOscH
namespace Go.Proofs.YtfhphgeanpmgaaaDoor
open Go.RowKit Fx Oc

/-- Do a time and a duration lie within the times of oscillators? -/
def Oc.spn (t d : Int) : Bool := decide (0 ≤ t ∧ t ≤ 1125899906842624 ∧ 0 ≤ d ∧ d ≤ 1125899906842624 - t)
theorem Oc.spn_iff {t d : Int} : spn t d = true ↔ (0 ≤ t ∧ t ≤ 1125899906842624 ∧ 0 ≤ d ∧ d ≤ 1125899906842624 - t) := by simp [spn]
theorem Oc.spn_iff' {t d : Int} : spn t d = false ↔ ¬(0 ≤ t ∧ t ≤ 1125899906842624 ∧ 0 ≤ d ∧ d ≤ 1125899906842624 - t) := by simp [spn]
theorem spn_any (t d : Int) (w : World) :
    Calls Tryd.prog 20 #[.int .i64 t, .int .i64 d] w fun e w' => e = .returned (.bool (spn t d)) ∧ w = w' := by
  by_cases h0 : 0 ≤ t
  · by_cases h1 : t ≤ 1125899906842624
    · by_cases h2 : 0 ≤ d
      · by_cases h3 : d ≤ 1125899906842624 - t
        · rw [spn_iff.2 ⟨h0, h1, h2, h3⟩]
          go_enter Tryd.func20, Tryd.ntmps20
          go_wp2
          go_ret
          exact ⟨rfl, rfl⟩
        · rw [spn_iff'.2 (by omega)]
          go_enter Tryd.func20, Tryd.ntmps20
          go_wp2
          go_ret
          exact ⟨rfl, rfl⟩
      · rw [spn_iff'.2 (by omega)]
        go_enter Tryd.func20, Tryd.ntmps20
        go_wp2
        go_ret
        exact ⟨rfl, rfl⟩
    · rw [spn_iff'.2 (by omega)]
      go_enter Tryd.func20, Tryd.ntmps20
      go_wp2
      go_ret
      exact ⟨rfl, rfl⟩
  · rw [spn_iff'.2 (by omega)]
    go_enter Tryd.func20, Tryd.ntmps20
    go_wp2
    go_ret
    exact ⟨rfl, rfl⟩
set_option maxRecDepth 100000 in
set_option maxHeartbeats 1000000 in
theorem inverts9_law (ph : Int) (a : Option Addr) (n c : Nat) (f : Nat → Int × Int) (r : Int) (w : World) (hv : VN w) (hr : Rd2 w w.heap.size a n f) (hm : n ≤ 9223372036854775807) :
    Calls Tryd.prog 4 #[.agg #[.int .i64 ph, .slice a n c], .int .i64 r] w fun e w' => e = .returned (.bool true) ∧ Below w.heap.size w w' := by
  have hb1 : Below w.heap.size w (w.alloc (.cells #[.int .i64 ph, .slice a n c] 24)) := (Below.refl _ _).alloc (Nat.le_refl _) _
  have hX1 := ox_new w ph a n c
  obtain ⟨v0, hvw⟩ : ∃ v, w.alloc (.cells #[.int .i64 ph, .slice a n c] 24) = v := ⟨_, rfl⟩
  rw [hvw] at hb1 hX1
  have S0 : Hid (Lw w w.heap.size ph a n c f v0) := Lib.hid ⟨⟨hX1, hr.below hb1, hb1⟩, hv.below hb1⟩
  obtain ⟨c0, c1⟩ := hX1.cells
  have hz := hb1.size
  have HM := Lib.hid hm
  clear hb1 hX1 hr hv
  go_enter Tryd.func4, Tryd.ntmps4
  go_wp2_with fail
  clear hvw c0 c1
  refine (owhen_any ph a n c f r v0 S0.out.vn (S0.out.rd) HM.out).mono ?_
  rintro e v1 ⟨p1, p2, rfl, hp, hb⟩
  have S1 := Lib.hid (S0.out.below hb)
  have Hhp := Lib.hid hp
  clear hb S0 hp
  obtain ⟨c0, c1⟩ := S1.out.1.1.cells
  go_wp2_with fail
  clear c0 c1
  refine (rwhen_any ph a n c f r v1 (S1.out.rd) HM.out).mono ?_
  rintro e v2 ⟨q1, q2, rfl, hq, hb⟩
  have S2 := Lib.hid (S1.out.below hb)
  have Hhq := Lib.hid hq
  clear hb S1 hq
  obtain ⟨e1, e2⟩ := wok_unique Hhp.out Hhq.out
  subst e1 e2
  go_wp2_with fail
  refine (awake9_any v2 S2.out.vn).mono ?_
  rintro e v3 ⟨rfl, hb⟩
  have S3 := Lib.hid (S2.out.below hb)
  clear hb S2
  go_wp2_with fail
  go_ret
  exact ⟨rfl, S3.out.1.2.2⟩
set_option maxRecDepth 100000 in
set_option maxHeartbeats 1000000 in
theorem rises9_out (ph : Int) (a : Option Addr) (n c : Nat) (f : Nat → Int × Int) (t d : Int) (w : World) (hv : VN w) (hr : Rd2 w w.heap.size a n f) (hm : n ≤ 9223372036854775807) (h0 : spn t d = false) :
    Calls Tryd.prog 6 #[.agg #[.int .i64 ph, .slice a n c], .int .i64 t, .int .i64 d] w fun e w' => e = .returned (.bool true) ∧ Below w.heap.size w w' := by
  have hb1 : Below w.heap.size w (w.alloc (.cells #[.int .i64 ph, .slice a n c] 24)) := (Below.refl _ _).alloc (Nat.le_refl _) _
  have hX1 := ox_new w ph a n c
  obtain ⟨v0, hvw⟩ : ∃ v, w.alloc (.cells #[.int .i64 ph, .slice a n c] 24) = v := ⟨_, rfl⟩
  rw [hvw] at hb1 hX1
  have S0 : Hid (Lw w w.heap.size ph a n c f v0) := Lib.hid ⟨⟨hX1, hr.below hb1, hb1⟩, hv.below hb1⟩
  obtain ⟨c0, c1⟩ := hX1.cells
  have hz := hb1.size
  have HM := Lib.hid hm
  clear hb1 hX1 hr hv
  go_enter Tryd.func6, Tryd.ntmps6
  go_wp2_with fail
  clear hvw c0 c1
  refine (spn_any t d _).mono ?_
  rintro e w' ⟨rfl, rfl⟩
  go_wp2_with fail
  refine (awake9_any v0 S0.out.vn).mono ?_
  rintro e v1 ⟨rfl, hb⟩
  have S1 := Lib.hid (S0.out.below hb)
  clear hb S0
  go_wp2_with fail
  go_ret
  exact ⟨rfl, S1.out.1.2.2⟩
set_option maxRecDepth 100000 in
set_option maxHeartbeats 1000000 in
theorem rises9_no (ph : Int) (a : Option Addr) (n c : Nat) (f : Nat → Int × Int) (t d : Int) (w : World) (hv : VN w) (hr : Rd2 w w.heap.size a n f) (hm : n ≤ 9223372036854775807) (h0 : spn t d = true) (h : ¬ chk ph n f = 0) :
    Calls Tryd.prog 6 #[.agg #[.int .i64 ph, .slice a n c], .int .i64 t, .int .i64 d] w fun e w' => e = .returned (.bool true) ∧ Below w.heap.size w w' := by
  have hs := spn_iff.1 h0
  obtain ⟨t0, t1, d0, d1⟩ := hs
  have HNo := Lib.hid h
  obtain ⟨E, hE⟩ : ∃ E, chk ph n f = E := ⟨_, rfl⟩
  have e1 : rdE ph n f t = E := (if_neg h).trans hE
  have e2 : rdE ph n f (t + d) = E := (if_neg h).trans hE
  obtain ⟨V1, hV1⟩ : ∃ V, rdV ph n f t = V := ⟨_, rfl⟩
  obtain ⟨V2, hV2⟩ : ∃ V, rdV ph n f (t + d) = V := ⟨_, rfl⟩
  have HE1 := Lib.hid e1
  have HE2 := Lib.hid e2
  have HV1 := Lib.hid hV1
  have HV2 := Lib.hid hV2
  rw [hE] at h
  have k0 : (E == 0) = false := by simpa using h
  have k1 : (E != 0) = true := by simpa using h
  clear h hE e1 e2 hV1 hV2
  have hb1 : Below w.heap.size w (w.alloc (.cells #[.int .i64 ph, .slice a n c] 24)) := (Below.refl _ _).alloc (Nat.le_refl _) _
  have hX1 := ox_new w ph a n c
  obtain ⟨v0, hvw⟩ : ∃ v, w.alloc (.cells #[.int .i64 ph, .slice a n c] 24) = v := ⟨_, rfl⟩
  rw [hvw] at hb1 hX1
  have S0 : Hid (Lw w w.heap.size ph a n c f v0) := Lib.hid ⟨⟨hX1, hr.below hb1, hb1⟩, hv.below hb1⟩
  obtain ⟨c0, c1⟩ := hX1.cells
  have hz := hb1.size
  have HM := Lib.hid hm
  clear hb1 hX1 hr hv
  go_enter Tryd.func6, Tryd.ntmps6
  go_wp2_with fail
  clear hvw c0 c1
  refine (spn_any t d _).mono ?_
  rintro e w' ⟨rfl, rfl⟩
  obtain ⟨c0, c1⟩ := S0.out.1.1.cells
  go_wp2_with fail
  clear c0 c1
  refine (ord_any ph a n c f t v0 S0.out.vn (S0.out.rd) HM.out).mono ?_
  rintro e v1 ⟨rfl, hb⟩
  have S1 := Lib.hid (S0.out.below hb)
  clear hb S0
  rw [HV1.out, HE1.out]
  obtain ⟨c0, c1⟩ := S1.out.1.1.cells
  go_wp2_with fail
  clear c0 c1
  refine (ord_any ph a n c f (t + d) v1 S1.out.vn (S1.out.rd) HM.out).mono ?_
  rintro e v2 ⟨rfl, hb⟩
  have S2 := Lib.hid (S1.out.below hb)
  clear hb S1
  rw [HV2.out, HE2.out]
  obtain ⟨c0, c1⟩ := S2.out.1.1.cells
  go_wp2_with fail
  clear c0 c1
  refine (awake9_any v2 S2.out.vn).mono ?_
  rintro e v3 ⟨rfl, hb⟩
  have S3 := Lib.hid (S2.out.below hb)
  clear hb S2
  go_wp2_with fail
  go_ret
  exact ⟨rfl, S3.out.1.2.2⟩
set_option maxRecDepth 100000 in
set_option maxHeartbeats 1000000 in
theorem rises9_eq (ph : Int) (a : Option Addr) (n c : Nat) (f : Nat → Int × Int) (t d : Int) (w : World) (hv : VN w) (hr : Rd2 w w.heap.size a n f) (hm : n ≤ 9223372036854775807) (h0 : spn t d = true) (h : Vd ph n f) (heq : rd ph n f (t + d) = rd ph n f t) :
    Calls Tryd.prog 6 #[.agg #[.int .i64 ph, .slice a n c], .int .i64 t, .int .i64 d] w fun e w' => e = .returned (.bool true) ∧ Below w.heap.size w w' := by
  have hs := spn_iff.1 h0
  obtain ⟨t0, t1, d0, d1⟩ := hs
  have HVd := Lib.hid h
  have hck := chk_iff.2 h
  have e1 : rdE ph n f t = 0 := (if_pos hck).trans (if_pos ⟨t0, t1⟩)
  have e2 : rdE ph n f (t + d) = 0 := (if_pos hck).trans (if_pos ⟨by omega, by omega⟩)
  have v1 : rdV ph n f t = rd ph n f t := if_pos e1
  have v2 : rdV ph n f (t + d) = rd ph n f (t + d) := if_pos e2
  have rb1 := rd_bound h t0 t1
  have rb2 := rd_bound h (t := t + d) (by omega) (by omega)
  have hmo := rd_mono h (t := t) (u := t + d) t0 (by omega) (by omega)
  have hdf := rd_diff h (t := t) (d := d) t0 d0 (by omega)
  obtain ⟨A, hA⟩ : ∃ A, rd ph n f t = A := ⟨_, rfl⟩
  obtain ⟨B, hB⟩ : ∃ B, rd ph n f (t + d) = B := ⟨_, rfl⟩
  rw [hA] at v1 rb1 hmo hdf
  rw [hB] at v2 rb2 hmo hdf
  have hAB : B = A := by rw [← hA, ← hB]; exact heq
  subst hAB
  have HE1 := Lib.hid e1
  have HE2 := Lib.hid e2
  have HV1 := Lib.hid v1
  have HV2 := Lib.hid v2
  have HA := Lib.hid hA
  have HB := Lib.hid hB
  clear hA hB heq
  have HCk := Lib.hid hck
  obtain ⟨b0, b1⟩ := rb1
  obtain ⟨b2, b3⟩ := rb2
  have b4 : t + d ≤ 1125899906842624 := by omega
  clear h hck e1 e2 v1 v2 hdf
  have hb1 : Below w.heap.size w (w.alloc (.cells #[.int .i64 ph, .slice a n c] 24)) := (Below.refl _ _).alloc (Nat.le_refl _) _
  have hX1 := ox_new w ph a n c
  obtain ⟨v0, hvw⟩ : ∃ v, w.alloc (.cells #[.int .i64 ph, .slice a n c] 24) = v := ⟨_, rfl⟩
  rw [hvw] at hb1 hX1
  have S0 : Hid (Lw w w.heap.size ph a n c f v0) := Lib.hid ⟨⟨hX1, hr.below hb1, hb1⟩, hv.below hb1⟩
  obtain ⟨c0, c1⟩ := hX1.cells
  have hz := hb1.size
  have HM := Lib.hid hm
  clear hb1 hX1 hr hv
  go_enter Tryd.func6, Tryd.ntmps6
  go_wp2_with fail
  clear hvw c0 c1
  refine (spn_any t d _).mono ?_
  rintro e w' ⟨rfl, rfl⟩
  obtain ⟨c0, c1⟩ := S0.out.1.1.cells
  go_wp2_with fail
  clear c0 c1
  refine (ord_any ph a n c f t v0 S0.out.vn (S0.out.rd) HM.out).mono ?_
  rintro e v1 ⟨rfl, hb⟩
  have S1 := Lib.hid (S0.out.below hb)
  clear hb S0
  rw [HV1.out, HE1.out]
  obtain ⟨c0, c1⟩ := S1.out.1.1.cells
  go_wp2_with fail
  clear c0 c1
  refine (ord_any ph a n c f (t + d) v1 S1.out.vn (S1.out.rd) HM.out).mono ?_
  rintro e v2 ⟨rfl, hb⟩
  have S2 := Lib.hid (S1.out.below hb)
  clear hb S1
  rw [HV2.out, HE2.out]
  obtain ⟨c0, c1⟩ := S2.out.1.1.cells
  go_wp2_with fail
  clear c0 c1
  refine (owhen_any ph a n c f B v2 S2.out.vn (S2.out.rd) HM.out).mono ?_
  rintro e v3 ⟨p1, p2, rfl, hp, hb⟩
  have S3 := Lib.hid (S2.out.below hb)
  have Hhp := Lib.hid hp
  clear hb S2 hp
  have hp := Hhp.out
  have hfs : p2 = 0 ∧ Fst ph n f B p1 := by
    rcases hp with ⟨c, _, _⟩ | ⟨_, h2, _, _⟩ | ⟨_, h2, h3⟩
    · exact absurd HCk.out c
    · have := rd_mono HVd.out (t := t + d) (u := 1125899906842624) (by omega) b4 (by omega)
      rw [HB.out] at this
      omega
    · exact ⟨h2, h3⟩
  obtain ⟨h2, ⟨w0, w1⟩, w2, w3⟩ := hfs
  subst h2
  have g1 : p1 ≤ t + d := by
    rcases Int.lt_or_le (t + d) p1 with hx | hx
    · have hy := w3 (by omega)
      have := rd_mono HVd.out (t := t + d) (u := p1 - 1) (by omega) (by omega) (by omega)
      rw [HB.out] at this
      omega
    · exact hx
  clear hp w3
  clear w2
  go_wp2_with fail
  refine (awake9_any v3 S3.out.vn).mono ?_
  rintro e v4 ⟨rfl, hb⟩
  have S4 := Lib.hid (S3.out.below hb)
  clear hb S3
  go_wp2_with fail
  go_ret
  exact ⟨rfl, S4.out.1.2.2⟩
set_option maxRecDepth 100000 in
set_option maxHeartbeats 1000000 in
theorem rises9_lt (ph : Int) (a : Option Addr) (n c : Nat) (f : Nat → Int × Int) (t d : Int) (w : World) (hv : VN w) (hr : Rd2 w w.heap.size a n f) (hm : n ≤ 9223372036854775807) (h0 : spn t d = true) (h : Vd ph n f) (heq : ¬ rd ph n f t = rd ph n f (t + d)) :
    Calls Tryd.prog 6 #[.agg #[.int .i64 ph, .slice a n c], .int .i64 t, .int .i64 d] w fun e w' => e = .returned (.bool true) ∧ Below w.heap.size w w' := by
  have hs := spn_iff.1 h0
  obtain ⟨t0, t1, d0, d1⟩ := hs
  have HVd := Lib.hid h
  have hck := chk_iff.2 h
  have e1 : rdE ph n f t = 0 := (if_pos hck).trans (if_pos ⟨t0, t1⟩)
  have e2 : rdE ph n f (t + d) = 0 := (if_pos hck).trans (if_pos ⟨by omega, by omega⟩)
  have v1 : rdV ph n f t = rd ph n f t := if_pos e1
  have v2 : rdV ph n f (t + d) = rd ph n f (t + d) := if_pos e2
  have rb1 := rd_bound h t0 t1
  have rb2 := rd_bound h (t := t + d) (by omega) (by omega)
  have hmo := rd_mono h (t := t) (u := t + d) t0 (by omega) (by omega)
  have hdf := rd_diff h (t := t) (d := d) t0 d0 (by omega)
  obtain ⟨A, hA⟩ : ∃ A, rd ph n f t = A := ⟨_, rfl⟩
  obtain ⟨B, hB⟩ : ∃ B, rd ph n f (t + d) = B := ⟨_, rfl⟩
  rw [hA] at v1 rb1 hmo hdf
  rw [hB] at v2 rb2 hmo hdf
  have hne : (A == B) = false := by rw [← hA, ← hB]; simpa using heq
  have hlt : A < B := by
    have : ¬ A = B := by simpa using hne
    omega
  have HE1 := Lib.hid e1
  have HE2 := Lib.hid e2
  have HV1 := Lib.hid v1
  have HV2 := Lib.hid v2
  have HA := Lib.hid hA
  have HB := Lib.hid hB
  have HCk := Lib.hid hck
  obtain ⟨b0, b1⟩ := rb1
  obtain ⟨b2, b3⟩ := rb2
  have b4 : t + d ≤ 1125899906842624 := by omega
  clear h hck e1 e2 v1 v2 hdf hA hB heq
  have hb1 : Below w.heap.size w (w.alloc (.cells #[.int .i64 ph, .slice a n c] 24)) := (Below.refl _ _).alloc (Nat.le_refl _) _
  have hX1 := ox_new w ph a n c
  obtain ⟨v0, hvw⟩ : ∃ v, w.alloc (.cells #[.int .i64 ph, .slice a n c] 24) = v := ⟨_, rfl⟩
  rw [hvw] at hb1 hX1
  have S0 : Hid (Lw w w.heap.size ph a n c f v0) := Lib.hid ⟨⟨hX1, hr.below hb1, hb1⟩, hv.below hb1⟩
  obtain ⟨c0, c1⟩ := hX1.cells
  have hz := hb1.size
  have HM := Lib.hid hm
  clear hb1 hX1 hr hv
  go_enter Tryd.func6, Tryd.ntmps6
  go_wp2_with fail
  clear hvw c0 c1
  refine (spn_any t d _).mono ?_
  rintro e w' ⟨rfl, rfl⟩
  obtain ⟨c0, c1⟩ := S0.out.1.1.cells
  go_wp2_with fail
  clear c0 c1
  refine (ord_any ph a n c f t v0 S0.out.vn (S0.out.rd) HM.out).mono ?_
  rintro e v1 ⟨rfl, hb⟩
  have S1 := Lib.hid (S0.out.below hb)
  clear hb S0
  rw [HV1.out, HE1.out]
  obtain ⟨c0, c1⟩ := S1.out.1.1.cells
  go_wp2_with fail
  clear c0 c1
  refine (ord_any ph a n c f (t + d) v1 S1.out.vn (S1.out.rd) HM.out).mono ?_
  rintro e v2 ⟨rfl, hb⟩
  have S2 := Lib.hid (S1.out.below hb)
  clear hb S1
  rw [HV2.out, HE2.out]
  obtain ⟨c0, c1⟩ := S2.out.1.1.cells
  go_wp2_with fail
  clear c0 c1
  refine (owhen_any ph a n c f B v2 S2.out.vn (S2.out.rd) HM.out).mono ?_
  rintro e v3 ⟨p1, p2, rfl, hp, hb⟩
  have S3 := Lib.hid (S2.out.below hb)
  have Hhp := Lib.hid hp
  clear hb S2 hp
  have hp := Hhp.out
  have hfs : p2 = 0 ∧ Fst ph n f B p1 := by
    rcases hp with ⟨c, _, _⟩ | ⟨_, h2, _, _⟩ | ⟨_, h2, h3⟩
    · exact absurd HCk.out c
    · have := rd_mono HVd.out (t := t + d) (u := 1125899906842624) (by omega) b4 (by omega)
      rw [HB.out] at this
      omega
    · exact ⟨h2, h3⟩
  obtain ⟨h2, ⟨w0, w1⟩, w2, w3⟩ := hfs
  subst h2
  have g1 : p1 ≤ t + d := by
    rcases Int.lt_or_le (t + d) p1 with hx | hx
    · have hy := w3 (by omega)
      have := rd_mono HVd.out (t := t + d) (u := p1 - 1) (by omega) (by omega) (by omega)
      rw [HB.out] at this
      omega
    · exact hx
  clear hp w3
  have g2 : t < p1 := by
    rcases Int.lt_or_le t p1 with hx | hx
    · exact hx
    · have := rd_mono HVd.out (t := p1) (u := t) w0 hx t1
      rw [HA.out] at this
      omega
  clear w2
  go_wp2_with fail
  refine (awake9_any v3 S3.out.vn).mono ?_
  rintro e v4 ⟨rfl, hb⟩
  have S4 := Lib.hid (S3.out.below hb)
  clear hb S3
  go_wp2_with fail
  go_ret
  exact ⟨rfl, S4.out.1.2.2⟩
set_option maxRecDepth 100000 in
set_option maxHeartbeats 1000000 in
theorem drifts9_out (ph : Int) (a : Option Addr) (n c : Nat) (f : Nat → Int × Int) (t d : Int) (w : World) (hv : VN w) (hr : Rd2 w w.heap.size a n f) (hm : n ≤ 9223372036854775807) (h0 : spn t d = false) :
    Calls Tryd.prog 7 #[.agg #[.int .i64 ph, .slice a n c], .int .i64 t, .int .i64 d] w fun e w' => e = .returned (.bool true) ∧ Below w.heap.size w w' := by
  have hb1 : Below w.heap.size w (w.alloc (.cells #[.int .i64 ph, .slice a n c] 24)) := (Below.refl _ _).alloc (Nat.le_refl _) _
  have hX1 := ox_new w ph a n c
  obtain ⟨v0, hvw⟩ : ∃ v, w.alloc (.cells #[.int .i64 ph, .slice a n c] 24) = v := ⟨_, rfl⟩
  rw [hvw] at hb1 hX1
  have S0 : Hid (Lw w w.heap.size ph a n c f v0) := Lib.hid ⟨⟨hX1, hr.below hb1, hb1⟩, hv.below hb1⟩
  obtain ⟨c0, c1⟩ := hX1.cells
  have hz := hb1.size
  have HM := Lib.hid hm
  clear hb1 hX1 hr hv
  go_enter Tryd.func7, Tryd.ntmps7
  go_wp2_with fail
  clear hvw c0 c1
  refine (spn_any t d _).mono ?_
  rintro e w' ⟨rfl, rfl⟩
  go_wp2_with fail
  refine (awake9_any v0 S0.out.vn).mono ?_
  rintro e v1 ⟨rfl, hb⟩
  have S1 := Lib.hid (S0.out.below hb)
  clear hb S0
  go_wp2_with fail
  go_ret
  exact ⟨rfl, S1.out.1.2.2⟩
set_option maxRecDepth 100000 in
set_option maxHeartbeats 1000000 in
theorem drifts9_no (ph : Int) (a : Option Addr) (n c : Nat) (f : Nat → Int × Int) (t d : Int) (w : World) (hv : VN w) (hr : Rd2 w w.heap.size a n f) (hm : n ≤ 9223372036854775807) (h0 : spn t d = true) (h : ¬ chk ph n f = 0) :
    Calls Tryd.prog 7 #[.agg #[.int .i64 ph, .slice a n c], .int .i64 t, .int .i64 d] w fun e w' => e = .returned (.bool true) ∧ Below w.heap.size w w' := by
  have hs := spn_iff.1 h0
  obtain ⟨t0, t1, d0, d1⟩ := hs
  have HNo := Lib.hid h
  obtain ⟨E, hE⟩ : ∃ E, chk ph n f = E := ⟨_, rfl⟩
  have e1 : rdE ph n f t = E := (if_neg h).trans hE
  have e2 : rdE ph n f (t + d) = E := (if_neg h).trans hE
  obtain ⟨V1, hV1⟩ : ∃ V, rdV ph n f t = V := ⟨_, rfl⟩
  obtain ⟨V2, hV2⟩ : ∃ V, rdV ph n f (t + d) = V := ⟨_, rfl⟩
  have HE1 := Lib.hid e1
  have HE2 := Lib.hid e2
  have HV1 := Lib.hid hV1
  have HV2 := Lib.hid hV2
  rw [hE] at h
  have k0 : (E == 0) = false := by simpa using h
  have k1 : (E != 0) = true := by simpa using h
  clear h hE e1 e2 hV1 hV2
  have hb1 : Below w.heap.size w (w.alloc (.cells #[.int .i64 ph, .slice a n c] 24)) := (Below.refl _ _).alloc (Nat.le_refl _) _
  have hX1 := ox_new w ph a n c
  obtain ⟨v0, hvw⟩ : ∃ v, w.alloc (.cells #[.int .i64 ph, .slice a n c] 24) = v := ⟨_, rfl⟩
  rw [hvw] at hb1 hX1
  have S0 : Hid (Lw w w.heap.size ph a n c f v0) := Lib.hid ⟨⟨hX1, hr.below hb1, hb1⟩, hv.below hb1⟩
  obtain ⟨c0, c1⟩ := hX1.cells
  have hz := hb1.size
  have HM := Lib.hid hm
  clear hb1 hX1 hr hv
  go_enter Tryd.func7, Tryd.ntmps7
  go_wp2_with fail
  clear hvw c0 c1
  refine (spn_any t d _).mono ?_
  rintro e w' ⟨rfl, rfl⟩
  obtain ⟨c0, c1⟩ := S0.out.1.1.cells
  go_wp2_with fail
  clear c0 c1
  refine (ord_any ph a n c f t v0 S0.out.vn (S0.out.rd) HM.out).mono ?_
  rintro e v1 ⟨rfl, hb⟩
  have S1 := Lib.hid (S0.out.below hb)
  clear hb S0
  rw [HV1.out, HE1.out]
  obtain ⟨c0, c1⟩ := S1.out.1.1.cells
  go_wp2_with fail
  clear c0 c1
  refine (ord_any ph a n c f (t + d) v1 S1.out.vn (S1.out.rd) HM.out).mono ?_
  rintro e v2 ⟨rfl, hb⟩
  have S2 := Lib.hid (S1.out.below hb)
  clear hb S1
  rw [HV2.out, HE2.out]
  obtain ⟨c0, c1⟩ := S2.out.1.1.cells
  go_wp2_with fail
  clear c0 c1
  refine (obound_no ph a n c f v2 S2.out.vn (S2.out.rd) HM.out HNo.out).mono ?_
  rintro e v3 ⟨rfl, hb⟩
  have S3 := Lib.hid (S2.out.below hb)
  clear hb S2
  go_wp2_with fail
  refine (awake9_any v3 S3.out.vn).mono ?_
  rintro e v4 ⟨rfl, hb⟩
  have S4 := Lib.hid (S3.out.below hb)
  clear hb S3
  go_wp2_with fail
  go_ret
  exact ⟨rfl, S4.out.1.2.2⟩
set_option maxRecDepth 100000 in
set_option maxHeartbeats 1000000 in
theorem drifts9_yes (ph : Int) (a : Option Addr) (n c : Nat) (f : Nat → Int × Int) (t d : Int) (w : World) (hv : VN w) (hr : Rd2 w w.heap.size a n f) (hm : n ≤ 9223372036854775807) (h0 : spn t d = true) (h : Vd ph n f) :
    Calls Tryd.prog 7 #[.agg #[.int .i64 ph, .slice a n c], .int .i64 t, .int .i64 d] w fun e w' => e = .returned (.bool true) ∧ Below w.heap.size w w' := by
  have hs := spn_iff.1 h0
  obtain ⟨t0, t1, d0, d1⟩ := hs
  have HVd := Lib.hid h
  have hck := chk_iff.2 h
  have e1 : rdE ph n f t = 0 := (if_pos hck).trans (if_pos ⟨t0, t1⟩)
  have e2 : rdE ph n f (t + d) = 0 := (if_pos hck).trans (if_pos ⟨by omega, by omega⟩)
  have v1 : rdV ph n f t = rd ph n f t := if_pos e1
  have v2 : rdV ph n f (t + d) = rd ph n f (t + d) := if_pos e2
  have rb1 := rd_bound h t0 t1
  have rb2 := rd_bound h (t := t + d) (by omega) (by omega)
  have hmo := rd_mono h (t := t) (u := t + d) t0 (by omega) (by omega)
  have hdf := rd_diff h (t := t) (d := d) t0 d0 (by omega)
  obtain ⟨A, hA⟩ : ∃ A, rd ph n f t = A := ⟨_, rfl⟩
  obtain ⟨B, hB⟩ : ∃ B, rd ph n f (t + d) = B := ⟨_, rfl⟩
  rw [hA] at v1 rb1 hmo hdf
  rw [hB] at v2 rb2 hmo hdf
  have HE1 := Lib.hid e1
  have HE2 := Lib.hid e2
  have HV1 := Lib.hid v1
  have HV2 := Lib.hid v2
  have HA := Lib.hid hA
  have HB := Lib.hid hB
  have HCk := Lib.hid hck
  obtain ⟨b0, b1⟩ := rb1
  obtain ⟨b2, b3⟩ := rb2
  have b4 : t + d ≤ 1125899906842624 := by omega
  have n0 := bnd_nonneg f n
  have n1 := bnd_max (f := f) (k := n) fun i hi => (h.ok i hi).2
  obtain ⟨M, hM⟩ : ∃ M, bnd f n = M := ⟨_, rfl⟩
  rw [hM] at n0 n1 hdf
  have HBn := Lib.hid hM
  have m1 := mulb (e := d / 1000000000) (p := M) (M := 1125900) (N := 500000) (by omega) (by omega) (by omega) (by omega) (by omega)
  have m2 := mulb (e := d % 1000000000) (p := M) (M := 1000000000) (N := 500000) (by omega) (by omega) (by omega) (by omega) (by omega)
  have m3 : 0 ≤ d % 1000000000 * M := Int.mul_nonneg (by omega) n0
  have hsp : d * M = 1000000000 * (d / 1000000000 * M) + d % 1000000000 * M := by
    have h2 := Int.mul_ediv_add_emod d 1000000000
    rw [show d * M = (1000000000 * (d / 1000000000) + d % 1000000000) * M from by rw [h2], Int.add_mul, Int.mul_assoc]
  obtain ⟨U, hU⟩ : ∃ U, d / 1000000000 * M = U := ⟨_, rfl⟩
  obtain ⟨V, hV⟩ : ∃ V, d % 1000000000 * M = V := ⟨_, rfl⟩
  rw [hU] at m1 hsp
  rw [hV] at m2 m3 hsp
  rw [hsp] at hdf
  obtain ⟨Q, hQ⟩ : ∃ Q, (V + 999999999) / 1000000000 = Q := ⟨_, rfl⟩
  have q0 : B - A - d ≤ U + Q := by omega
  have q1 : d - (B - A) ≤ U + Q := by omega
  have q2 : 0 ≤ Q := by omega
  have q3 : Q ≤ 600000 := by omega
  have f0 : decide (B - A - d ≤ U + Q) = true := decide_eq_true q0
  have f1 : decide (d - (B - A) ≤ U + Q) = true := decide_eq_true q1
  obtain ⟨u0, u1⟩ := m1
  obtain ⟨u2, u3⟩ := m2
  clear h hck e1 e2 v1 v2 hdf hA hB hM hsp
  have hb1 : Below w.heap.size w (w.alloc (.cells #[.int .i64 ph, .slice a n c] 24)) := (Below.refl _ _).alloc (Nat.le_refl _) _
  have hX1 := ox_new w ph a n c
  obtain ⟨v0, hvw⟩ : ∃ v, w.alloc (.cells #[.int .i64 ph, .slice a n c] 24) = v := ⟨_, rfl⟩
  rw [hvw] at hb1 hX1
  have S0 : Hid (Lw w w.heap.size ph a n c f v0) := Lib.hid ⟨⟨hX1, hr.below hb1, hb1⟩, hv.below hb1⟩
  obtain ⟨c0, c1⟩ := hX1.cells
  have hz := hb1.size
  have HM := Lib.hid hm
  clear hb1 hX1 hr hv
  go_enter Tryd.func7, Tryd.ntmps7
  go_wp2_with fail
  clear hvw c0 c1
  refine (spn_any t d _).mono ?_
  rintro e w' ⟨rfl, rfl⟩
  obtain ⟨c0, c1⟩ := S0.out.1.1.cells
  go_wp2_with fail
  clear c0 c1
  refine (ord_any ph a n c f t v0 S0.out.vn (S0.out.rd) HM.out).mono ?_
  rintro e v1 ⟨rfl, hb⟩
  have S1 := Lib.hid (S0.out.below hb)
  clear hb S0
  rw [HV1.out, HE1.out]
  obtain ⟨c0, c1⟩ := S1.out.1.1.cells
  go_wp2_with fail
  clear c0 c1
  refine (ord_any ph a n c f (t + d) v1 S1.out.vn (S1.out.rd) HM.out).mono ?_
  rintro e v2 ⟨rfl, hb⟩
  have S2 := Lib.hid (S1.out.below hb)
  clear hb S1
  rw [HV2.out, HE2.out]
  obtain ⟨c0, c1⟩ := S2.out.1.1.cells
  go_wp2_with fail
  clear c0 c1
  refine (obound_yes ph a n c f v2 S2.out.vn (S2.out.rd) HM.out HVd.out).mono ?_
  rintro e v3 ⟨rfl, hb⟩
  have S3 := Lib.hid (S2.out.below hb)
  clear hb S2
  rw [HBn.out]
  trace "X"
  go_wp2_with fail
  refine (awake9_any v3 S3.out.vn).mono ?_
  rintro e v4 ⟨rfl, hb⟩
  have S4 := Lib.hid (S3.out.below hb)
  clear hb S3
  go_wp2_with fail
  go_ret
  exact ⟨rfl, S4.out.1.2.2⟩
theorem rises9_law (ph : Int) (a : Option Addr) (n c : Nat) (f : Nat → Int × Int) (t d : Int) (w : World) (hv : VN w) (hr : Rd2 w w.heap.size a n f) (hm : n ≤ 9223372036854775807) :
    Calls Tryd.prog 6 #[.agg #[.int .i64 ph, .slice a n c], .int .i64 t, .int .i64 d] w fun e w' => e = .returned (.bool true) ∧ Below w.heap.size w w' := by
  cases h0 : spn t d with
  | false => exact rises9_out ph a n c f t d w hv hr hm h0
  | true =>
    by_cases h : chk ph n f = 0
    · have h := chk_iff.1 h
      by_cases he : rd ph n f (t + d) = rd ph n f t
      · exact rises9_eq ph a n c f t d w hv hr hm h0 h he
      · exact rises9_lt ph a n c f t d w hv hr hm h0 h (fun h2 => he h2.symm)
    · exact rises9_no ph a n c f t d w hv hr hm h0 h
theorem drifts9_law (ph : Int) (a : Option Addr) (n c : Nat) (f : Nat → Int × Int) (t d : Int) (w : World) (hv : VN w) (hr : Rd2 w w.heap.size a n f) (hm : n ≤ 9223372036854775807) :
    Calls Tryd.prog 7 #[.agg #[.int .i64 ph, .slice a n c], .int .i64 t, .int .i64 d] w fun e w' => e = .returned (.bool true) ∧ Below w.heap.size w w' := by
  cases h0 : spn t d with
  | false => exact drifts9_out ph a n c f t d w hv hr hm h0
  | true =>
    by_cases h : chk ph n f = 0
    · exact drifts9_yes ph a n c f t d w hv hr hm h0 (chk_iff.1 h)
    · exact drifts9_no ph a n c f t d w hv hr hm h0 h
end Go.Proofs.YtfhphgeanpmgaaaDoor
