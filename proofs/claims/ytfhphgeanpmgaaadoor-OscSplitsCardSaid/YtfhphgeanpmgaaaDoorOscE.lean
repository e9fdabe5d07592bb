/- Contracts of layer 9: readings of the program. -/
import Derived.Test.YtfhphgeanpmgaaaDoorOscD
namespace Go.Proofs.YtfhphgeanpmgaaaDoor
open Go.RowKit Fx Oc

set_option maxRecDepth 100000 in
theorem span_mid (ph : Int) (b off n c : Nat) (f : Nat → Int × Int) (k : Nat) (s0 s1 e0 : Int) (w : World) (hr : Rd2 w w.heap.size (some ⟨b, off, none⟩) n f) (hk : k + 1 < n) (hn : n ≤ 16) (hs0 : (f k).1 = s0) (hs1 : (f k).2 = s1) (he0 : (f (k + 1)).1 = e0) :
    Calls Tryd.prog 28 #[.agg #[.int .i64 ph, .slice (some ⟨b, off, none⟩) n c], .int .i64 k] w fun e w' => e = .returned (.agg #[.int .i64 s0, .int .i64 s1, .int .i64 e0]) ∧ Below w.heap.size w w' := by
  have hb1 : Below w.heap.size w (w.alloc (.cells #[.int .i64 ph, .slice (some ⟨b, off, none⟩) n c] 24)) := (Below.refl _ _).alloc (Nat.le_refl _) _
  have hX1 := ox_new w ph (some ⟨b, off, none⟩) n c
  have hr1 := hr.below hb1
  have hlt := hX1.lt
  obtain ⟨v, hvw⟩ : ∃ v, w.alloc (.cells #[.int .i64 ph, .slice (some ⟨b, off, none⟩) n c] 24) = v := ⟨_, rfl⟩
  rw [hvw] at hb1 hX1 hr1 hlt
  have hb2 := hb1.alloc hb1.size (.cells #[.int .i64 0, .int .i64 0, .int .i64 0] 42)
  have hr2 := hr1.below ((Below.refl _ _).alloc hb1.size (.cells #[.int .i64 0, .int .i64 0, .int .i64 0] 42))
  have hX2 := hX1.alloc (.cells #[.int .i64 0, .int .i64 0, .int .i64 0] 42)
  obtain ⟨q0, q1⟩ := hr2.at (i := k) (by omega)
  rw [hs0] at q0
  rw [hs1] at q1
  obtain ⟨y0, _⟩ := hr2.at (i := k + 1) (by omega)
  rw [he0] at y0
  have ew : IntKind.i64.wrap ((k : Int) + 1) = (k : Int) + 1 := IntWalk.i64_in _ (by omega)
  have en : ((k : Int) + 1).toNat = k + 1 := by omega
  have e1 : 0 ≤ (k : Int) + 1 := by omega
  have e2 : (k : Int) + 1 < (n : Int) := by omega
  have k0 : (k : Int) < (n : Int) := by omega
  have kn : n ≤ 16 := hn
  obtain ⟨x0, x1⟩ := hX1.cells
  obtain ⟨c0, c1⟩ := hX2.cells
  have HB := Lib.hid hb1
  have d1 : decide ((k : Int) + 1 < (n : Int)) = true := decide_eq_true (by omega)
  clear hb1 hX1 hr1 hb2 hX2 hr2 hr hs0 hs1 he0 hk
  go_enter Tryd.func28, Tryd.ntmps28
  go_wp2_with fail
  go_region
  all_goals
    go_wp2_with fail
    exact bodyPost_ret (v := .agg #[.int .i64 s0, .int .i64 s1, .int .i64 e0]) (by simp [results, Tryd.results28, go_sem]) rfl ⟨rfl, (HB.out.alloc HB.out.size _).drew⟩
set_option maxRecDepth 100000 in
theorem span_last (ph : Int) (b off n c : Nat) (f : Nat → Int × Int) (k : Nat) (s0 s1 : Int) (w : World) (hr : Rd2 w w.heap.size (some ⟨b, off, none⟩) n f) (hk : k + 1 = n) (hn : n ≤ 16) (hs0 : (f k).1 = s0) (hs1 : (f k).2 = s1)  :
    Calls Tryd.prog 28 #[.agg #[.int .i64 ph, .slice (some ⟨b, off, none⟩) n c], .int .i64 k] w fun e w' => e = .returned (.agg #[.int .i64 s0, .int .i64 s1, .int .i64 1125899906842624]) ∧ Below w.heap.size w w' := by
  have hb1 : Below w.heap.size w (w.alloc (.cells #[.int .i64 ph, .slice (some ⟨b, off, none⟩) n c] 24)) := (Below.refl _ _).alloc (Nat.le_refl _) _
  have hX1 := ox_new w ph (some ⟨b, off, none⟩) n c
  have hr1 := hr.below hb1
  have hlt := hX1.lt
  obtain ⟨v, hvw⟩ : ∃ v, w.alloc (.cells #[.int .i64 ph, .slice (some ⟨b, off, none⟩) n c] 24) = v := ⟨_, rfl⟩
  rw [hvw] at hb1 hX1 hr1 hlt
  have hb2 := hb1.alloc hb1.size (.cells #[.int .i64 0, .int .i64 0, .int .i64 0] 42)
  have hr2 := hr1.below ((Below.refl _ _).alloc hb1.size (.cells #[.int .i64 0, .int .i64 0, .int .i64 0] 42))
  have hX2 := hX1.alloc (.cells #[.int .i64 0, .int .i64 0, .int .i64 0] 42)
  obtain ⟨q0, q1⟩ := hr2.at (i := k) (by omega)
  rw [hs0] at q0
  rw [hs1] at q1
  have k0 : (k : Int) < (n : Int) := by omega
  have kn : n ≤ 16 := hn
  obtain ⟨x0, x1⟩ := hX1.cells
  obtain ⟨c0, c1⟩ := hX2.cells
  have HB := Lib.hid hb1
  have d1 : decide ((k : Int) + 1 < (n : Int)) = false := decide_eq_false (by omega)
  clear hb1 hX1 hr1 hb2 hX2 hr2 hr hs0 hs1 hk
  go_enter Tryd.func28, Tryd.ntmps28
  go_wp2_with fail
  skip
  all_goals
    skip
    exact bodyPost_ret (v := .agg #[.int .i64 s0, .int .i64 s1, .int .i64 1125899906842624]) (by simp [results, Tryd.results28, go_sem]) rfl ⟨rfl, HB.out.alloc HB.out.size _⟩
/-- The span of segment k. -/
theorem span_any (ph : Int) (b off n c : Nat) (f : Nat → Int × Int) (k : Nat) (w : World) (hr : Rd2 w w.heap.size (some ⟨b, off, none⟩) n f) (hk : k < n) (hn : n ≤ 16) :
    Calls Tryd.prog 28 #[.agg #[.int .i64 ph, .slice (some ⟨b, off, none⟩) n c], .int .i64 k] w fun e w' => e = .returned (.agg #[.int .i64 (f k).1, .int .i64 (f k).2, .int .i64 (endI f n k)]) ∧ Below w.heap.size w w' := by
  by_cases h : k + 1 < n
  · rw [show endI f n k = (f (k + 1)).1 from if_pos h]
    exact span_mid ph b off n c f k _ _ _ w hr h hn rfl rfl rfl
  · rw [show endI f n k = 1125899906842624 from if_neg h]
    exact span_last ph b off n c f k _ _ w hr (by omega) hn rfl rfl
theorem before_any (s0 s1 e0 t : Int) (w : World) (h0 : 0 ≤ s0) (h1 : s0 ≤ 1125899906842624) (h2 : 0 ≤ e0) (h3 : e0 ≤ 1125899906842624) (t0 : 0 ≤ t) (t1 : t ≤ 1125899906842624) :
    Calls Tryd.prog 29 #[.agg #[.int .i64 s0, .int .i64 s1, .int .i64 e0], .int .i64 t] w fun e w' => e = .returned (.int .i64 (max 0 (min t e0 - s0))) ∧ Below w.heap.size w w' := by
  obtain ⟨m, hm⟩ : ∃ m, min t e0 = m := ⟨_, rfl⟩
  have m0 : 0 ≤ m := by omega
  have m1 : m ≤ 1125899906842624 := by omega
  rw [hm]
  go_enter Tryd.func29, Tryd.ntmps29
  go_wp2_with fail
  all_goals
    go_ret
    exact ⟨ret1 (by omega), (Below.refl _ _).alloc (Nat.le_refl _) _⟩
set_option maxRecDepth 100000 in
set_option maxHeartbeats 1000000 in
theorem reading_any (ph : Int) (a : Option Addr) (n c : Nat) (f : Nat → Int × Int) (t : Int) (w : World) (hr : Rd2 w w.heap.size a n f) (h : Vd ph n f) (t0 : 0 ≤ t) (t1 : t ≤ 1125899906842624) :
    Calls Tryd.prog 22 #[.agg #[.int .i64 ph, .slice a n c], .int .i64 t] w fun e w' => e = .returned (.int .i64 (rd ph n f t)) ∧ Below w.heap.size w w' := by
  have HVd := Lib.hid h
  have n0 := h.n0
  have n16 := h.n16
  have ph0 := h.p0
  have ph1 := h.p1
  obtain ⟨b, off, rfl, hbD⟩ := hr.ptr n0
  clear h
  have hb1 : Below w.heap.size w (w.alloc (.cells #[.int .i64 ph, .slice (some ⟨b, off, none⟩) n c] 24)) := (Below.refl _ _).alloc (Nat.le_refl _) _
  have hX1 := ox_new w ph (some ⟨b, off, none⟩) n c
  obtain ⟨v, hvw⟩ : ∃ v, w.alloc (.cells #[.int .i64 ph, .slice (some ⟨b, off, none⟩) n c] 24) = v := ⟨_, rfl⟩
  rw [hvw] at hb1 hX1
  have hr1 := hr.below hb1
  obtain ⟨c0, c1⟩ := hX1.cells
  have HO2 : Hid (Ow w w.heap.size w.heap.size ph (some ⟨b, off, none⟩) n c f v) := Lib.hid ⟨hX1, hr1, hb1⟩
  clear hb1 hX1 hr1 hr
  go_enter Tryd.func22, Tryd.ntmps22
  go_wp2_with fail
  clear hvw c0 c1
  go_loopw [5, 6, 7, 8, 9, 15] (fun wh re _ _ _ i wr => ∃ k : Nat, k ≤ n ∧ i = .int .i64 k ∧ wh = .int .i64 (whole f n t k) ∧ re = .int .i64 (rest f n t k) ∧ Hid (Ow w w.heap.size w.heap.size ph (some ⟨b, off, none⟩) n c f wr)) (fun _ _ _ _ _ i _ => n - (intOf i).toNat)
  case atStart => exact ⟨0, by omega, rfl, rfl, rfl, HO2⟩
  case round =>
    clear HO2
    obtain ⟨k, hk, rfl, rfl, rfl, HO⟩ := hrel
    obtain ⟨c0, c1⟩ := HO.out.1.cells
    have hsz := HO.out.2.2.size
    have hgl := HO.out.1.lt
    have sb := sums_small HVd.out t hk
    obtain ⟨⟨b0, b1⟩, b2, b3⟩ := sb
    by_cases hlt : k < n
    · have hok := HVd.out.ok k hlt
      have heb := endI_bound HVd.out (i := k)
      have hlb := lenI_bound HVd.out t hlt
      have hpb := parts_bound HVd.out t hlt
      have HSp := Lib.hid (span_any ph b off n c f k wr (HO.out.2.1.mono hsz) hlt n16)
      obtain ⟨L, hL⟩ : ∃ L, lenI f n t k = L := ⟨_, rfl⟩
      have hL2 : max 0 (min t (endI f n k) - (f k).1) = L := hL
      obtain ⟨s0, hs0⟩ : ∃ s0, (f k).1 = s0 := ⟨_, rfl⟩
      obtain ⟨s1, hs1⟩ : ∃ s1, (f k).2 = s1 := ⟨_, rfl⟩
      obtain ⟨e0, he0⟩ : ∃ e0, endI f n k = e0 := ⟨_, rfl⟩
      unfold okS at hok
      have HW := Lib.hid (show whole f n t (k + 1) = whole f n t k + L / 1000000000 * s1 by rw [← hL, ← hs1]; rfl)
      have HR := Lib.hid (show rest f n t (k + 1) = rest f n t k + L % 1000000000 * s1 by rw [← hL, ← hs1]; rfl)
      rw [hs0, hs1, he0] at HSp
      rw [hs0, hs1] at hok
      rw [he0] at heb hL2
      rw [hs0] at hL2
      rw [hL] at hlb hpb
      rw [hs1] at hpb
      obtain ⟨U, hU⟩ : ∃ U, L / 1000000000 * s1 = U := ⟨_, rfl⟩
      obtain ⟨V, hV⟩ : ∃ V, L % 1000000000 * s1 = V := ⟨_, rfl⟩
      obtain ⟨A, hA⟩ : ∃ A, whole f n t k = A := ⟨_, rfl⟩
      obtain ⟨B, hB⟩ : ∃ B, rest f n t k = B := ⟨_, rfl⟩
      rw [hU, hV] at hpb
      rw [hA, hU] at HW
      rw [hB, hV] at HR
      rw [hA] at b0 b1 ⊢
      rw [hB] at b2 b3 ⊢
      obtain ⟨⟨k0, k1⟩, k2, k3⟩ := hok
      obtain ⟨k4, k5⟩ := heb
      obtain ⟨k6, k7⟩ := hlb
      obtain ⟨⟨u0, u1⟩, v0, v1⟩ := hpb
      have HL := Lib.hid hL2
      clear hL hL2 hs0 hs1 he0 hA hB
      go_wp2_with fail
      refine HSp.out.mono ?_
      rintro e x1 ⟨rfl, hb⟩
      have HO3 := Lib.hid (HO.out.below hsz hb)
      clear hb HO c0 c1 HSp
      go_wp2_with fail
      refine (before_any s0 s1 e0 t _ k0 k1 k4 k5 t0 t1).mono ?_
      rintro e x2 ⟨rfl, hb⟩
      rw [HL.out]
      have hz3 := HO3.out.2.2.size
      have hc1 : x2.cell? ⟨x1.heap.size, 1, none⟩ = some (.int .i64 s1) := (hb.cell (p := ⟨x1.heap.size, 1, none⟩) (by simp)).trans (by simp)
      have hb' : Below x1.heap.size x1 x2 := ((Below.refl x1.heap.size x1).alloc (Nat.le_refl _) (.cells #[.int .i64 s0, .int .i64 s1, .int .i64 e0] 42)).trans (hb.mono (by simp))
      have HO4 := Lib.hid (HO3.out.below hz3 hb')
      clear hb hb' HO3
      go_wp2_with fail
      go_roundw
      case rel => exact ⟨k + 1, by omega, by go_num, by rw [HW.out], by rw [HR.out], HO4⟩
      case measure => simp [intOf]; omega
    · obtain rfl : n = k := by omega
      have HRD := Lib.hid (rd_eq ph n f t)
      obtain ⟨A, hA⟩ : ∃ A, whole f n t n = A := ⟨_, rfl⟩
      obtain ⟨B, hB⟩ : ∃ B, rest f n t n = B := ⟨_, rfl⟩
      rw [hA, hB] at HRD
      rw [hA] at b0 b1 ⊢
      rw [hB] at b2 b3 ⊢
      obtain ⟨Q, hQ⟩ : ∃ Q, B / 1000000000 = Q := ⟨_, rfl⟩
      rw [hQ] at HRD
      have q0 : -10000001 ≤ Q := by omega
      have q1 : Q ≤ 10000001 := by omega
      have hf : flo B 1000000000 = Q := hQ
      have hq : qok B 1000000000 = true := qok_iff.2 ⟨by decide, by rw [hf]; omega⟩
      have HQ1 := Lib.hid (show sel (qok B 1000000000) (flo B 1000000000) = Q by rw [hq, hf, sel_true])
      clear hA hB hf hq hQ
      go_wp2_with fail
      refine (floor_any B 1000000000 wr (by omega) (by omega) (by decide) (by decide)).mono ?_
      rintro e x2 ⟨rfl, rfl⟩
      rw [HQ1.out]
      go_wp2_with fail
      go_ret
      exact ⟨ret1 HRD.out.symm, HO.out.2.2⟩
end Go.Proofs.YtfhphgeanpmgaaaDoor
