/- Contracts of layer 9: readings of the specification; Read of both. -/
import Derived.Test.YtfhphgeanpmgaaaDoorOscE
namespace Go.Proofs.YtfhphgeanpmgaaaDoor
open Go.RowKit Fx Oc

theorem rfl9_any (B : Int) (w : World) (h0 : -10000000000000000 ≤ B) (h1 : B ≤ 10000000000000000) :
    Calls Tryd.prog 31 #[.int .i64 B, .int .i64 1000000000] w fun e w' => e = .returned (.int .i64 (B / 1000000000)) ∧ w = w' := by
  have hT : B.tdiv 1000000000 = if B < 0 then -((-B) / 1000000000) else B / 1000000000 := by
    split
    · rw [show B = -(-B) from by omega, Int.neg_tdiv, Int.tdiv_eq_ediv_of_nonneg (by omega), Int.neg_neg]
    · exact Int.tdiv_eq_ediv_of_nonneg (by omega)
  have hM : B.tmod 1000000000 = B - 1000000000 * B.tdiv 1000000000 := by have := Int.mul_tdiv_add_tmod B 1000000000; omega
  obtain ⟨u, hu⟩ : ∃ u, B.tdiv 1000000000 = u := ⟨_, rfl⟩
  obtain ⟨v, hv⟩ : ∃ v, B.tmod 1000000000 = v := ⟨_, rfl⟩
  rw [hu] at hT hM
  rw [hv] at hM
  have u0 : -10000001 ≤ u ∧ u ≤ 10000001 := by rw [hT]; split <;> omega
  have hF : (v < 0 → B / 1000000000 = u - 1) ∧ (0 ≤ v → B / 1000000000 = u) := by rw [hM, hT]; split <;> omega
  clear hM hT
  have HF := Lib.hid hF
  obtain ⟨u0, u1⟩ := u0
  clear hF
  by_cases hlt : v < 0
  · have hd : decide (v < 0) = true := decide_eq_true hlt
    go_enter Tryd.func31, Tryd.ntmps31
    go_wp2
    go_ret
    exact ⟨ret1 (by rw [HF.out.1 hlt]), rfl⟩
  · have hd : decide (v < 0) = false := decide_eq_false hlt
    go_enter Tryd.func31, Tryd.ntmps31
    go_wp2
    go_ret
    exact ⟨ret1 (by rw [HF.out.2 (by omega)]), rfl⟩
set_option maxRecDepth 100000 in
set_option maxHeartbeats 2000000 in
theorem rread_any (ph : Int) (a : Option Addr) (n c : Nat) (f : Nat → Int × Int) (t : Int) (w : World) (hr : Rd2 w w.heap.size a n f) (h : Vd ph n f) (t0 : 0 ≤ t) (t1 : t ≤ 1125899906842624) :
    Calls Tryd.prog 23 #[.agg #[.int .i64 ph, .slice a n c], .int .i64 t] w fun e w' => e = .returned (.int .i64 (rd ph n f t)) ∧ Below w.heap.size w w' := by
  have HVd := Lib.hid h
  have n0 := h.n0
  have n16 := h.n16
  have ph0 := h.p0
  have ph1 := h.p1
  obtain ⟨b, off, rfl, hbD⟩ := hr.ptr n0
  clear h
  have hb1 : Below w.heap.size w (w.alloc (.cells #[.int .i64 ph, .slice (some ⟨b, off, none⟩) n c] 24)) := (Below.refl _ _).alloc (Nat.le_refl _) _
  have hX1 := ox_new w ph (some ⟨b, off, none⟩) n c
  obtain ⟨v, hvw⟩ : ∃ v, w.alloc (.cells #[.int .i64 ph, .slice (some ⟨b, off, none⟩) n c] 24) = v := ⟨_, rfl⟩
  rw [hvw] at hb1 hX1
  have hr1 := hr.below hb1
  obtain ⟨c0, c1⟩ := hX1.cells
  have HO2 : Hid (Ow w w.heap.size w.heap.size ph (some ⟨b, off, none⟩) n c f v) := Lib.hid ⟨hX1, hr1, hb1⟩
  clear hb1 hX1 hr1 hr
  go_enter Tryd.func23, Tryd.ntmps23
  go_wp2_with fail
  clear hvw c0 c1
  go_loopw [5, 6, 7, 8, 9] (fun wh re i _ _ wr => ∃ k : Nat, k ≤ n ∧ i = .int .i64 k ∧ wh = .int .i64 (whole f n t k) ∧ re = .int .i64 (rest f n t k) ∧ Hid (Ow w w.heap.size w.heap.size ph (some ⟨b, off, none⟩) n c f wr)) (fun _ _ i _ _ _ => n - (intOf i).toNat)
  case atStart => exact ⟨0, by omega, rfl, rfl, rfl, HO2⟩
  case round =>
    clear HO2
    obtain ⟨k, hk, rfl, rfl, rfl, HO⟩ := hrel
    obtain ⟨c0, c1⟩ := HO.out.1.cells
    have hsz := HO.out.2.2.size
    have hgl := HO.out.1.lt
    have sb := sums_small HVd.out t hk
    obtain ⟨⟨b0, b1⟩, b2, b3⟩ := sb
    by_cases hlt : k < n
    · have hok := HVd.out.ok k hlt
      have hlb := lenI_bound HVd.out t hlt
      have hpb := parts_bound HVd.out t hlt
      obtain ⟨q0, q1⟩ := HO.out.2.1.at (i := k) hlt
      obtain ⟨L, hL⟩ : ∃ L, lenI f n t k = L := ⟨_, rfl⟩
      have hL2 : max 0 (min t (endI f n k) - (f k).1) = L := hL
      obtain ⟨s0, hs0⟩ : ∃ s0, (f k).1 = s0 := ⟨_, rfl⟩
      obtain ⟨s1, hs1⟩ : ∃ s1, (f k).2 = s1 := ⟨_, rfl⟩
      unfold okS at hok
      have HW := Lib.hid (show whole f n t (k + 1) = whole f n t k + L / 1000000000 * s1 by rw [← hL, ← hs1]; rfl)
      have HR := Lib.hid (show rest f n t (k + 1) = rest f n t k + L % 1000000000 * s1 by rw [← hL, ← hs1]; rfl)
      rw [hs0] at q0
      rw [hs1] at q1
      rw [hs0, hs1] at hok
      rw [hs0] at hL2
      rw [hL] at hlb hpb
      rw [hs1] at hpb
      obtain ⟨A, hA⟩ : ∃ A, whole f n t k = A := ⟨_, rfl⟩
      obtain ⟨B, hB⟩ : ∃ B, rest f n t k = B := ⟨_, rfl⟩
      rw [hA] at b0 b1 HW ⊢
      rw [hB] at b2 b3 HR ⊢
      obtain ⟨⟨k0, k1⟩, k2, k3⟩ := hok
      obtain ⟨k6, k7⟩ := hlb
      have ew : IntKind.i64.wrap ((k : Int) + 1) = (k : Int) + 1 := IntWalk.i64_in _ (by omega)
      have en : ((k : Int) + 1).toNat = k + 1 := by omega
      clear hL hs0 hs1 hA hB
      by_cases hk1 : k + 1 < n
      · obtain ⟨y0, _⟩ := HO.out.2.1.at (i := k + 1) hk1
        have hyo := (HVd.out.ok (k + 1) hk1).1
        rw [show endI f n k = (f (k + 1)).1 from if_pos hk1] at hL2
        obtain ⟨e0, he0⟩ : ∃ e0, (f (k + 1)).1 = e0 := ⟨_, rfl⟩
        rw [he0] at y0 hL2 hyo
        obtain ⟨h8, h9⟩ := hyo
        have d1 : decide ((k : Int) + 1 < (n : Int)) = true := decide_eq_true (by omega)
        clear he0
        by_cases hy : e0 < t
        · have d2 : decide (e0 < t) = true := decide_eq_true hy
          obtain ⟨M, hM'⟩ : ∃ M, e0 - s0 = M := ⟨_, rfl⟩
          have hLM : L = max 0 M := by omega
          clear hL2 hy
          by_cases hM : M ≤ 0
          · have e5 : decide (M ≤ 0) = true := decide_eq_true hM
            obtain rfl : L = 0 := by omega
            have HW2 : Hid (whole f n t (k + 1) = A) := Lib.hid (by rw [HW.out]; simp)
            have HR2 : Hid (rest f n t (k + 1) = B) := Lib.hid (by rw [HR.out]; simp)
            clear HW HR hpb k6 k7 hM hLM
            go_wp2_with fail
            go_roundw
            case rel => exact ⟨k + 1, by omega, by go_num, by rw [HW2.out], by rw [HR2.out], HO⟩
            case measure => simp [intOf]; omega
          · have e5 : decide (M ≤ 0) = false := decide_eq_false hM
            obtain rfl : L = M := by omega
            obtain ⟨U, hU⟩ : ∃ U, L / 1000000000 * s1 = U := ⟨_, rfl⟩
            obtain ⟨V, hV⟩ : ∃ V, L % 1000000000 * s1 = V := ⟨_, rfl⟩
            rw [hU, hV] at hpb
            rw [hU] at HW
            rw [hV] at HR
            obtain ⟨⟨u0, u1⟩, v0, v1⟩ := hpb
            clear hLM hM
            go_wp2_with fail
            go_roundw
            case rel => exact ⟨k + 1, by omega, by go_num, by rw [HW.out], by rw [HR.out], HO⟩
            case measure => simp [intOf]; omega
        · have d2 : decide (e0 < t) = false := decide_eq_false hy
          obtain ⟨M, hM'⟩ : ∃ M, t - s0 = M := ⟨_, rfl⟩
          have hLM : L = max 0 M := by omega
          clear hL2 hy
          by_cases hM : M ≤ 0
          · have e5 : decide (M ≤ 0) = true := decide_eq_true hM
            obtain rfl : L = 0 := by omega
            have HW2 : Hid (whole f n t (k + 1) = A) := Lib.hid (by rw [HW.out]; simp)
            have HR2 : Hid (rest f n t (k + 1) = B) := Lib.hid (by rw [HR.out]; simp)
            clear HW HR hpb k6 k7 hM hLM
            go_wp2_with fail
            go_roundw
            case rel => exact ⟨k + 1, by omega, by go_num, by rw [HW2.out], by rw [HR2.out], HO⟩
            case measure => simp [intOf]; omega
          · have e5 : decide (M ≤ 0) = false := decide_eq_false hM
            obtain rfl : L = M := by omega
            obtain ⟨U, hU⟩ : ∃ U, L / 1000000000 * s1 = U := ⟨_, rfl⟩
            obtain ⟨V, hV⟩ : ∃ V, L % 1000000000 * s1 = V := ⟨_, rfl⟩
            rw [hU, hV] at hpb
            rw [hU] at HW
            rw [hV] at HR
            obtain ⟨⟨u0, u1⟩, v0, v1⟩ := hpb
            clear hLM hM
            go_wp2_with fail
            go_roundw
            case rel => exact ⟨k + 1, by omega, by go_num, by rw [HW.out], by rw [HR.out], HO⟩
            case measure => simp [intOf]; omega
      · rw [show endI f n k = 1125899906842624 from if_neg hk1] at hL2
        have d1 : decide ((k : Int) + 1 < (n : Int)) = false := decide_eq_false (by omega)
        obtain ⟨M, hM'⟩ : ∃ M, t - s0 = M := ⟨_, rfl⟩
        have hLM : L = max 0 M := by omega
        clear hL2 hk1
        by_cases hM : M ≤ 0
        · have e5 : decide (M ≤ 0) = true := decide_eq_true hM
          obtain rfl : L = 0 := by omega
          have HW2 : Hid (whole f n t (k + 1) = A) := Lib.hid (by rw [HW.out]; simp)
          have HR2 : Hid (rest f n t (k + 1) = B) := Lib.hid (by rw [HR.out]; simp)
          clear HW HR hpb k6 k7 hM hLM
          go_wp2_with fail
          go_roundw
          case rel => exact ⟨k + 1, by omega, by go_num, by rw [HW2.out], by rw [HR2.out], HO⟩
          case measure => simp [intOf]; omega
        · have e5 : decide (M ≤ 0) = false := decide_eq_false hM
          obtain rfl : L = M := by omega
          obtain ⟨U, hU⟩ : ∃ U, L / 1000000000 * s1 = U := ⟨_, rfl⟩
          obtain ⟨V, hV⟩ : ∃ V, L % 1000000000 * s1 = V := ⟨_, rfl⟩
          rw [hU, hV] at hpb
          rw [hU] at HW
          rw [hV] at HR
          obtain ⟨⟨u0, u1⟩, v0, v1⟩ := hpb
          clear hLM hM
          go_wp2_with fail
          go_roundw
          case rel => exact ⟨k + 1, by omega, by go_num, by rw [HW.out], by rw [HR.out], HO⟩
          case measure => simp [intOf]; omega
    · obtain rfl : n = k := by omega
      have HRD := Lib.hid (rd_eq ph n f t)
      obtain ⟨A, hA⟩ : ∃ A, whole f n t n = A := ⟨_, rfl⟩
      obtain ⟨B, hB⟩ : ∃ B, rest f n t n = B := ⟨_, rfl⟩
      rw [hA, hB] at HRD
      rw [hA] at b0 b1 ⊢
      rw [hB] at b2 b3 ⊢
      obtain ⟨Q, hQ⟩ : ∃ Q, B / 1000000000 = Q := ⟨_, rfl⟩
      rw [hQ] at HRD
      have q0 : -10000001 ≤ Q := by omega
      have q1 : Q ≤ 10000001 := by omega
      have HQ1 := Lib.hid hQ
      have ew1 : IntKind.i64.wrap (ph + t) = ph + t := IntWalk.i64_in _ (by omega)
      have ew2 : IntKind.i64.wrap (ph + t + A) = ph + t + A := IntWalk.i64_in _ (by omega)
      have ew3 : IntKind.i64.wrap (ph + t + A + Q) = ph + t + A + Q := IntWalk.i64_in _ (by omega)
      clear hA hB hQ
      go_wp2_with fail
      go_quiet ((go_at_call 31; exact Calls.quiet_of_same ((rfl9_any _ _ (by omega) (by omega)).mono (by rintro e w' ⟨rfl, rfl⟩; rw [HQ1.out]; exact ⟨rfl, rfl⟩))))
      go_wp2_with fail
      go_ret
      exact ⟨ret1 HRD.out.symm, blwn HO.out.2.2 _⟩
/-- The answers of Read. -/
def Oc.rdE (ph : Int) (n : Nat) (f : Nat → Int × Int) (t : Int) : Int := if chk ph n f = 0 then (if 0 ≤ t ∧ t ≤ 1125899906842624 then 0 else 3) else chk ph n f
def Oc.rdV (ph : Int) (n : Nat) (f : Nat → Int × Int) (t : Int) : Int := if (if chk ph n f = 0 then (if 0 ≤ t ∧ t ≤ 1125899906842624 then (0 : Int) else 3) else chk ph n f) = 0 then rd ph n f t else 0
set_option maxRecDepth 100000 in
theorem ord_no (ph : Int) (a : Option Addr) (n c : Nat) (f : Nat → Int × Int) (t : Int) (w : World) (hv : VN w) (hr : Rd2 w w.heap.size a n f) (hm : n ≤ 9223372036854775807) (h : ¬ chk ph n f = 0) :
    Calls Tryd.prog 9 #[.agg #[.int .i64 ph, .slice a n c], .int .i64 t] w fun e w' => e = .returned (.tuple #[.int .i64 0, .int .i64 (chk ph n f)]) ∧ Below w.heap.size w w' := by
  obtain ⟨E, hE⟩ : ∃ E, chk ph n f = E := ⟨_, rfl⟩
  rw [hE] at h ⊢
  have k0 : (E == 0) = false := by simpa using h
  have k1 : (E != 0) = true := by simpa using h
  have HE := Lib.hid hE
  clear h hE
  have HV := Lib.hid (hv.below ((Below.refl w.heap.size w).alloc (Nat.le_refl _) (.cells #[.int .i64 ph, .slice a n c] 24)))
  have hb1 : Below w.heap.size w (w.alloc (.cells #[.int .i64 ph, .slice a n c] 24)) := (Below.refl _ _).alloc (Nat.le_refl _) _
  have hX1 := ox_new w ph a n c
  obtain ⟨v, hvw⟩ : ∃ v, w.alloc (.cells #[.int .i64 ph, .slice a n c] 24) = v := ⟨_, rfl⟩
  rw [hvw] at hb1 hX1 HV
  have hr1 := hr.below hb1
  obtain ⟨c0, c1⟩ := hX1.cells
  have HO1 : Hid (Ow w w.heap.size w.heap.size ph a n c f v) := Lib.hid ⟨hX1, hr1, hb1⟩
  have hs1 := hb1.size
  clear hb1 hX1 hr1 hr hv
  go_enter Tryd.func9, Tryd.ntmps9
  go_wp2_with fail
  clear hvw c0 c1
  refine (ochk_any ph a n c f v HV.out (HO1.out.2.1.mono hs1) hm).mono ?_
  rintro e v1 ⟨rfl, hb⟩
  have HO2 := Lib.hid (HO1.out.below hs1 hb)
  have hs2 := HO2.out.2.2.size
  clear hb HO1 HV
  rw [HE.out]
  go_wp2_with fail
  go_ret2
  exact ⟨rfl, HO2.out.2.2⟩
set_option maxRecDepth 100000 in
theorem ord_out (ph : Int) (a : Option Addr) (n c : Nat) (f : Nat → Int × Int) (t : Int) (w : World) (hv : VN w) (hr : Rd2 w w.heap.size a n f) (hm : n ≤ 9223372036854775807) (h : Vd ph n f) (ht0 : ¬(0 ≤ t ∧ t ≤ 1125899906842624)) :
    Calls Tryd.prog 9 #[.agg #[.int .i64 ph, .slice a n c], .int .i64 t] w fun e w' => e = .returned (.tuple #[.int .i64 0, .int .i64 3]) ∧ Below w.heap.size w w' := by
  have HE := Lib.hid (chk_iff.2 h)
  have ht : tt t = false := tt_no ht0
  clear h ht0
  have HV := Lib.hid (hv.below ((Below.refl w.heap.size w).alloc (Nat.le_refl _) (.cells #[.int .i64 ph, .slice a n c] 24)))
  have hb1 : Below w.heap.size w (w.alloc (.cells #[.int .i64 ph, .slice a n c] 24)) := (Below.refl _ _).alloc (Nat.le_refl _) _
  have hX1 := ox_new w ph a n c
  obtain ⟨v, hvw⟩ : ∃ v, w.alloc (.cells #[.int .i64 ph, .slice a n c] 24) = v := ⟨_, rfl⟩
  rw [hvw] at hb1 hX1 HV
  have hr1 := hr.below hb1
  obtain ⟨c0, c1⟩ := hX1.cells
  have HO1 : Hid (Ow w w.heap.size w.heap.size ph a n c f v) := Lib.hid ⟨hX1, hr1, hb1⟩
  have hs1 := hb1.size
  clear hb1 hX1 hr1 hr hv
  go_enter Tryd.func9, Tryd.ntmps9
  go_wp2_with fail
  clear hvw c0 c1
  refine (ochk_any ph a n c f v HV.out (HO1.out.2.1.mono hs1) hm).mono ?_
  rintro e v1 ⟨rfl, hb⟩
  have HO2 := Lib.hid (HO1.out.below hs1 hb)
  have hs2 := HO2.out.2.2.size
  clear hb HO1 HV
  rw [HE.out]
  go_wp2_with fail
  refine (tt_any t _).mono ?_
  rintro e w' ⟨rfl, rfl⟩
  go_wp2_with fail
  go_ret2
  exact ⟨rfl, HO2.out.2.2⟩
set_option maxRecDepth 100000 in
theorem ord_yes (ph : Int) (a : Option Addr) (n c : Nat) (f : Nat → Int × Int) (t : Int) (w : World) (hv : VN w) (hr : Rd2 w w.heap.size a n f) (hm : n ≤ 9223372036854775807) (h : Vd ph n f) (t0 : 0 ≤ t) (t1 : t ≤ 1125899906842624) :
    Calls Tryd.prog 9 #[.agg #[.int .i64 ph, .slice a n c], .int .i64 t] w fun e w' => e = .returned (.tuple #[.int .i64 (rd ph n f t), .int .i64 0]) ∧ Below w.heap.size w w' := by
  have HE := Lib.hid (chk_iff.2 h)
  have HVd := Lib.hid h
  have ht : tt t = true := tt_yes t0 t1
  clear h
  have HV := Lib.hid (hv.below ((Below.refl w.heap.size w).alloc (Nat.le_refl _) (.cells #[.int .i64 ph, .slice a n c] 24)))
  have hb1 : Below w.heap.size w (w.alloc (.cells #[.int .i64 ph, .slice a n c] 24)) := (Below.refl _ _).alloc (Nat.le_refl _) _
  have hX1 := ox_new w ph a n c
  obtain ⟨v, hvw⟩ : ∃ v, w.alloc (.cells #[.int .i64 ph, .slice a n c] 24) = v := ⟨_, rfl⟩
  rw [hvw] at hb1 hX1 HV
  have hr1 := hr.below hb1
  obtain ⟨c0, c1⟩ := hX1.cells
  have HO1 : Hid (Ow w w.heap.size w.heap.size ph a n c f v) := Lib.hid ⟨hX1, hr1, hb1⟩
  have hs1 := hb1.size
  clear hb1 hX1 hr1 hr hv
  go_enter Tryd.func9, Tryd.ntmps9
  go_wp2_with fail
  clear hvw c0 c1
  refine (ochk_any ph a n c f v HV.out (HO1.out.2.1.mono hs1) hm).mono ?_
  rintro e v1 ⟨rfl, hb⟩
  have HO2 := Lib.hid (HO1.out.below hs1 hb)
  have hs2 := HO2.out.2.2.size
  clear hb HO1 HV
  rw [HE.out]
  obtain ⟨c0, c1⟩ := HO2.out.1.cells
  go_wp2_with fail
  refine (tt_any t _).mono ?_
  rintro e w' ⟨rfl, rfl⟩
  go_wp2_with fail
  clear c0 c1
  refine (reading_any ph a n c f t _ (HO2.out.2.1.mono hs2) HVd.out t0 t1).mono ?_
  rintro e v2 ⟨rfl, hb⟩
  have HO3 := Lib.hid (HO2.out.below hs2 hb)
  clear hb HO2
  obtain ⟨X, hX⟩ : ∃ X, rd ph n f t = X := ⟨_, rfl⟩
  rw [hX]
  have HX := Lib.hid hX
  clear hX
  go_wp2_with fail
  go_ret2
  exact ⟨ret_t HX.out.symm rfl, HO3.out.2.2⟩
/-- Read. -/
theorem ord_any (ph : Int) (a : Option Addr) (n c : Nat) (f : Nat → Int × Int) (t : Int) (w : World) (hv : VN w) (hr : Rd2 w w.heap.size a n f) (hm : n ≤ 9223372036854775807) :
    Calls Tryd.prog 9 #[.agg #[.int .i64 ph, .slice a n c], .int .i64 t] w fun e w' => e = .returned (.tuple #[.int .i64 (rdV ph n f t), .int .i64 (rdE ph n f t)]) ∧ Below w.heap.size w w' := by
  unfold rdV rdE
  by_cases h : chk ph n f = 0
  · rw [if_pos h]
    have h := chk_iff.1 h
    by_cases ht : 0 ≤ t ∧ t ≤ 1125899906842624
    · rw [if_pos ht, if_pos rfl]; exact ord_yes ph a n c f t w hv hr hm h ht.1 ht.2
    · rw [if_neg ht, if_neg (by decide)]
      exact ord_out ph a n c f t w hv hr hm h ht
  · rw [if_neg h, if_neg h]; exact ord_no ph a n c f t w hv hr hm h
set_option maxRecDepth 100000 in
theorem rrd_no (ph : Int) (a : Option Addr) (n c : Nat) (f : Nat → Int × Int) (t : Int) (w : World) (hr : Rd2 w w.heap.size a n f) (hm : n ≤ 9223372036854775807) (h : ¬ chk ph n f = 0) :
    Calls Tryd.prog 10 #[.agg #[.int .i64 ph, .slice a n c], .int .i64 t] w fun e w' => e = .returned (.tuple #[.int .i64 0, .int .i64 (chk ph n f)]) ∧ Below w.heap.size w w' := by
  obtain ⟨E, hE⟩ : ∃ E, chk ph n f = E := ⟨_, rfl⟩
  rw [hE] at h ⊢
  have k0 : (E == 0) = false := by simpa using h
  have k1 : (E != 0) = true := by simpa using h
  have HE := Lib.hid hE
  clear h hE
  have hb1 : Below w.heap.size w (w.alloc (.cells #[.int .i64 ph, .slice a n c] 24)) := (Below.refl _ _).alloc (Nat.le_refl _) _
  have hX1 := ox_new w ph a n c
  obtain ⟨v, hvw⟩ : ∃ v, w.alloc (.cells #[.int .i64 ph, .slice a n c] 24) = v := ⟨_, rfl⟩
  rw [hvw] at hb1 hX1
  have hr1 := hr.below hb1
  obtain ⟨c0, c1⟩ := hX1.cells
  have HO1 : Hid (Ow w w.heap.size w.heap.size ph a n c f v) := Lib.hid ⟨hX1, hr1, hb1⟩
  have hs1 := hb1.size
  clear hb1 hX1 hr1 hr
  go_enter Tryd.func10, Tryd.ntmps10
  go_wp2_with fail
  clear hvw c0 c1
  refine (rochk_any ph a n c f v (HO1.out.2.1.mono hs1) hm).mono ?_
  rintro e v1 ⟨rfl, hb⟩
  have HO2 := Lib.hid (HO1.out.below hs1 hb)
  have hs2 := HO2.out.2.2.size
  clear hb HO1
  rw [HE.out]
  go_wp2_with fail
  go_ret2
  exact ⟨rfl, HO2.out.2.2⟩
set_option maxRecDepth 100000 in
theorem rrd_outa (ph : Int) (a : Option Addr) (n c : Nat) (f : Nat → Int × Int) (t : Int) (w : World) (hr : Rd2 w w.heap.size a n f) (hm : n ≤ 9223372036854775807) (h : Vd ph n f) (ht0 : t < 0) :
    Calls Tryd.prog 10 #[.agg #[.int .i64 ph, .slice a n c], .int .i64 t] w fun e w' => e = .returned (.tuple #[.int .i64 0, .int .i64 3]) ∧ Below w.heap.size w w' := by
  have HE := Lib.hid (chk_iff.2 h)
  have d0 : decide (t < 0) = true := decide_eq_true ht0
  clear h ht0
  have hb1 : Below w.heap.size w (w.alloc (.cells #[.int .i64 ph, .slice a n c] 24)) := (Below.refl _ _).alloc (Nat.le_refl _) _
  have hX1 := ox_new w ph a n c
  obtain ⟨v, hvw⟩ : ∃ v, w.alloc (.cells #[.int .i64 ph, .slice a n c] 24) = v := ⟨_, rfl⟩
  rw [hvw] at hb1 hX1
  have hr1 := hr.below hb1
  obtain ⟨c0, c1⟩ := hX1.cells
  have HO1 : Hid (Ow w w.heap.size w.heap.size ph a n c f v) := Lib.hid ⟨hX1, hr1, hb1⟩
  have hs1 := hb1.size
  clear hb1 hX1 hr1 hr
  go_enter Tryd.func10, Tryd.ntmps10
  go_wp2_with fail
  clear hvw c0 c1
  refine (rochk_any ph a n c f v (HO1.out.2.1.mono hs1) hm).mono ?_
  rintro e v1 ⟨rfl, hb⟩
  have HO2 := Lib.hid (HO1.out.below hs1 hb)
  have hs2 := HO2.out.2.2.size
  clear hb HO1
  rw [HE.out]
  go_wp2_with fail
  go_ret2
  exact ⟨rfl, HO2.out.2.2⟩
set_option maxRecDepth 100000 in
theorem rrd_outb (ph : Int) (a : Option Addr) (n c : Nat) (f : Nat → Int × Int) (t : Int) (w : World) (hr : Rd2 w w.heap.size a n f) (hm : n ≤ 9223372036854775807) (h : Vd ph n f) (ht0 : 1125899906842624 < t) :
    Calls Tryd.prog 10 #[.agg #[.int .i64 ph, .slice a n c], .int .i64 t] w fun e w' => e = .returned (.tuple #[.int .i64 0, .int .i64 3]) ∧ Below w.heap.size w w' := by
  have HE := Lib.hid (chk_iff.2 h)
  have d0 : decide (t < 0) = false := decide_eq_false (by omega)
  have d1 : decide (1125899906842624 < t) = true := decide_eq_true ht0
  clear h ht0
  have hb1 : Below w.heap.size w (w.alloc (.cells #[.int .i64 ph, .slice a n c] 24)) := (Below.refl _ _).alloc (Nat.le_refl _) _
  have hX1 := ox_new w ph a n c
  obtain ⟨v, hvw⟩ : ∃ v, w.alloc (.cells #[.int .i64 ph, .slice a n c] 24) = v := ⟨_, rfl⟩
  rw [hvw] at hb1 hX1
  have hr1 := hr.below hb1
  obtain ⟨c0, c1⟩ := hX1.cells
  have HO1 : Hid (Ow w w.heap.size w.heap.size ph a n c f v) := Lib.hid ⟨hX1, hr1, hb1⟩
  have hs1 := hb1.size
  clear hb1 hX1 hr1 hr
  go_enter Tryd.func10, Tryd.ntmps10
  go_wp2_with fail
  clear hvw c0 c1
  refine (rochk_any ph a n c f v (HO1.out.2.1.mono hs1) hm).mono ?_
  rintro e v1 ⟨rfl, hb⟩
  have HO2 := Lib.hid (HO1.out.below hs1 hb)
  have hs2 := HO2.out.2.2.size
  clear hb HO1
  rw [HE.out]
  go_wp2_with fail
  go_ret2
  exact ⟨rfl, HO2.out.2.2⟩
set_option maxRecDepth 100000 in
theorem rrd_yes (ph : Int) (a : Option Addr) (n c : Nat) (f : Nat → Int × Int) (t : Int) (w : World) (hr : Rd2 w w.heap.size a n f) (hm : n ≤ 9223372036854775807) (h : Vd ph n f) (t0 : 0 ≤ t) (t1 : t ≤ 1125899906842624) :
    Calls Tryd.prog 10 #[.agg #[.int .i64 ph, .slice a n c], .int .i64 t] w fun e w' => e = .returned (.tuple #[.int .i64 (rd ph n f t), .int .i64 0]) ∧ Below w.heap.size w w' := by
  have HE := Lib.hid (chk_iff.2 h)
  have HVd := Lib.hid h
  have d0 : decide (t < 0) = false := decide_eq_false (by omega)
  have d1 : decide (1125899906842624 < t) = false := decide_eq_false (by omega)
  clear h
  have hb1 : Below w.heap.size w (w.alloc (.cells #[.int .i64 ph, .slice a n c] 24)) := (Below.refl _ _).alloc (Nat.le_refl _) _
  have hX1 := ox_new w ph a n c
  obtain ⟨v, hvw⟩ : ∃ v, w.alloc (.cells #[.int .i64 ph, .slice a n c] 24) = v := ⟨_, rfl⟩
  rw [hvw] at hb1 hX1
  have hr1 := hr.below hb1
  obtain ⟨c0, c1⟩ := hX1.cells
  have HO1 : Hid (Ow w w.heap.size w.heap.size ph a n c f v) := Lib.hid ⟨hX1, hr1, hb1⟩
  have hs1 := hb1.size
  clear hb1 hX1 hr1 hr
  go_enter Tryd.func10, Tryd.ntmps10
  go_wp2_with fail
  clear hvw c0 c1
  refine (rochk_any ph a n c f v (HO1.out.2.1.mono hs1) hm).mono ?_
  rintro e v1 ⟨rfl, hb⟩
  have HO2 := Lib.hid (HO1.out.below hs1 hb)
  have hs2 := HO2.out.2.2.size
  clear hb HO1
  rw [HE.out]
  obtain ⟨c0, c1⟩ := HO2.out.1.cells
  go_wp2_with fail
  clear c0 c1
  refine (rread_any ph a n c f t _ (HO2.out.2.1.mono hs2) HVd.out t0 t1).mono ?_
  rintro e v2 ⟨rfl, hb⟩
  have HO3 := Lib.hid (HO2.out.below hs2 hb)
  clear hb HO2
  obtain ⟨X, hX⟩ : ∃ X, rd ph n f t = X := ⟨_, rfl⟩
  rw [hX]
  have HX := Lib.hid hX
  clear hX
  go_wp2_with fail
  go_ret2
  exact ⟨ret_t HX.out.symm rfl, HO3.out.2.2⟩
/-- Read. -/
theorem rrd_any (ph : Int) (a : Option Addr) (n c : Nat) (f : Nat → Int × Int) (t : Int) (w : World) (hr : Rd2 w w.heap.size a n f) (hm : n ≤ 9223372036854775807) :
    Calls Tryd.prog 10 #[.agg #[.int .i64 ph, .slice a n c], .int .i64 t] w fun e w' => e = .returned (.tuple #[.int .i64 (rdV ph n f t), .int .i64 (rdE ph n f t)]) ∧ Below w.heap.size w w' := by
  unfold rdV rdE
  by_cases h : chk ph n f = 0
  · rw [if_pos h]
    have h := chk_iff.1 h
    by_cases ht : 0 ≤ t ∧ t ≤ 1125899906842624
    · rw [if_pos ht, if_pos rfl]; exact rrd_yes ph a n c f t w hr hm h ht.1 ht.2
    · rw [if_neg ht, if_neg (by decide)]
      rcases Int.lt_or_le t 0 with h0 | h0
      · exact rrd_outa ph a n c f t w hr hm h h0
      · exact rrd_outb ph a n c f t w hr hm h (by omega)
  · rw [if_neg h, if_neg h]; exact rrd_no ph a n c f t w hr hm h
end Go.Proofs.YtfhphgeanpmgaaaDoor
