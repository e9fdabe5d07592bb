/- Contracts of layer 9: rates. -/
import Derived.Test.YtfhphgeanpmgaaaDoorOscC
namespace Go.Proofs.YtfhphgeanpmgaaaDoor
open Go.RowKit Fx Oc

theorem Oc.mx3 (B p q : Int) : max (max B p) q = if (if B < p then p else B) < q then q else if B < p then p else B := by
  split <;> (try split at *) <;> omega
set_option maxRecDepth 100000 in
theorem obound_no (ph : Int) (a : Option Addr) (n c : Nat) (f : Nat → Int × Int) (w : World) (hv : VN w) (hr : Rd2 w w.heap.size a n f) (hm : n ≤ 9223372036854775807) (h : ¬ chk ph n f = 0) :
    Calls Tryd.prog 18 #[.agg #[.int .i64 ph, .slice a n c]] w fun e w' => e = .returned (.int .i64 0) ∧ Below w.heap.size w w' := by
  obtain ⟨E, hE⟩ : ∃ E, chk ph n f = E := ⟨_, rfl⟩
  rw [hE] at h
  have k0 : (E == 0) = false := by simpa using h
  have k1 : (E != 0) = true := by simpa using h
  have HE := Lib.hid hE
  clear h hE
  have HV := Lib.hid (hv.below ((Below.refl w.heap.size w).alloc (Nat.le_refl _) (.cells #[.int .i64 ph, .slice a n c] 24)))
  have hb1 : Below w.heap.size w (w.alloc (.cells #[.int .i64 ph, .slice a n c] 24)) := (Below.refl _ _).alloc (Nat.le_refl _) _
  have hX1 := ox_new w ph a n c
  obtain ⟨v, hvw⟩ : ∃ v, w.alloc (.cells #[.int .i64 ph, .slice a n c] 24) = v := ⟨_, rfl⟩
  rw [hvw] at hb1 hX1
  have hr1 := hr.below hb1
  obtain ⟨c0, c1⟩ := hX1.cells
  have HO1 : Hid (Ow w w.heap.size w.heap.size ph a n c f v) := Lib.hid ⟨hX1, hr1, hb1⟩
  have hs1 := hb1.size
  rw [hvw] at HV
  clear hb1 hX1 hr1 hr hv
  go_enter Tryd.func18, Tryd.ntmps18
  go_wp2_with fail
  clear hvw c0 c1
  refine (ochk_any ph a n c f v HV.out (HO1.out.2.1.mono hs1) hm).mono ?_
  rintro e v1 ⟨rfl, hb⟩
  have HO2 := Lib.hid (HO1.out.below hs1 hb)
  have hs2 := HO2.out.2.2.size
  clear hb HO1 HV
  rw [HE.out]
  go_wp2_with fail
  go_ret
  exact ⟨rfl, HO2.out.2.2⟩
set_option maxRecDepth 100000 in
set_option maxHeartbeats 1000000 in
theorem obound_yes (ph : Int) (a : Option Addr) (n c : Nat) (f : Nat → Int × Int) (w : World) (hv : VN w) (hr : Rd2 w w.heap.size a n f) (hm : n ≤ 9223372036854775807) (h : Vd ph n f) :
    Calls Tryd.prog 18 #[.agg #[.int .i64 ph, .slice a n c]] w fun e w' => e = .returned (.int .i64 (bnd f n)) ∧ Below w.heap.size w w' := by
  have HE := Lib.hid (chk_iff.2 h)
  have HVd := Lib.hid h
  have n0 := h.n0
  have n16 := h.n16
  obtain ⟨b, off, rfl, hbD⟩ := hr.ptr n0
  clear h
  have HV := Lib.hid (hv.below ((Below.refl w.heap.size w).alloc (Nat.le_refl _) (.cells #[.int .i64 ph, .slice (some ⟨b, off, none⟩) n c] 24)))
  have hb1 : Below w.heap.size w (w.alloc (.cells #[.int .i64 ph, .slice (some ⟨b, off, none⟩) n c] 24)) := (Below.refl _ _).alloc (Nat.le_refl _) _
  have hX1 := ox_new w ph (some ⟨b, off, none⟩) n c
  obtain ⟨v, hvw⟩ : ∃ v, w.alloc (.cells #[.int .i64 ph, .slice (some ⟨b, off, none⟩) n c] 24) = v := ⟨_, rfl⟩
  rw [hvw] at hb1 hX1
  have hr1 := hr.below hb1
  obtain ⟨c0, c1⟩ := hX1.cells
  have HO1 : Hid (Ow w w.heap.size w.heap.size ph (some ⟨b, off, none⟩) n c f v) := Lib.hid ⟨hX1, hr1, hb1⟩
  have hs1 := hb1.size
  rw [hvw] at HV
  clear hb1 hX1 hr1 hr hv
  go_enter Tryd.func18, Tryd.ntmps18
  go_wp2_with fail
  clear hvw c0 c1
  refine (ochk_any ph (some ⟨b, off, none⟩) n c f v HV.out (HO1.out.2.1.mono hs1) hm).mono ?_
  rintro e v1 ⟨rfl, hb⟩
  have HO2 := Lib.hid (HO1.out.below hs1 hb)
  have hs2 := HO2.out.2.2.size
  clear hb HO1 HV
  rw [HE.out]
  obtain ⟨c0, c1⟩ := HO2.out.1.cells
  go_wp2_with fail
  clear c0 c1
  go_loopw [3, 5, 12] (fun bd _ i wr => ∃ k : Nat, k ≤ n ∧ i = .int .i64 k ∧ bd = .int .i64 (bnd f k) ∧ Hid (Ow w w.heap.size w.heap.size ph (some ⟨b, off, none⟩) n c f wr)) (fun _ _ i _ => n - (intOf i).toNat)
  case atStart => exact ⟨0, by omega, rfl, rfl, HO2⟩
  case round =>
    clear HO2
    obtain ⟨k, hk, rfl, rfl, HO⟩ := hrel
    obtain ⟨c0, c1⟩ := HO.out.1.cells
    have hsz := HO.out.2.2.size
    have hgl := HO.out.1.lt
    by_cases hlt : k < n
    · obtain ⟨q0, q1⟩ := HO.out.2.1.at (i := k) hlt
      have hok := (HVd.out.ok k hlt)
      obtain ⟨s0, hs0⟩ : ∃ s0, (f k).1 = s0 := ⟨_, rfl⟩
      obtain ⟨s1, hs1'⟩ : ∃ s1, (f k).2 = s1 := ⟨_, rfl⟩
      rw [hs0] at q0
      rw [hs1'] at q1
      unfold okS at hok
      rw [hs0, hs1'] at hok
      obtain ⟨_, o2, o3⟩ := hok
      have hn : bnd f (k + 1) = max (max (bnd f k) s1) (-s1) := by rw [← hs1']; rfl
      have bb := bnd_nonneg f k
      have bm := bnd_max (f := f) (k := k) fun i hi => (HVd.out.ok i (by omega)).2
      obtain ⟨B, hB⟩ : ∃ B, bnd f k = B := ⟨_, rfl⟩
      rw [hB] at hn bb bm ⊢
      rw [mx3] at hn
      have HN := Lib.hid hn
      clear hs0 hs1' hn hB
      have HO3 := Lib.hid (HO.out.below hsz ((Below.refl wr.heap.size wr).alloc (Nat.le_refl _) (.cells #[.int .i64 s0, .int .i64 s1] 36)))
      go_wp2_with fail
      go_roundw
      case rel => exact ⟨k + 1, by omega, by go_num, by rw [HN.out], HO3⟩
      case measure => simp [intOf]; omega
    · obtain rfl : n = k := by omega
      go_wp2_with fail
      go_ret
      exact ⟨rfl, HO.out.2.2⟩
set_option maxRecDepth 100000 in
theorem orate_no (ph : Int) (a : Option Addr) (n c : Nat) (f : Nat → Int × Int) (t : Int) (w : World) (hv : VN w) (hr : Rd2 w w.heap.size a n f) (hm : n ≤ 9223372036854775807) (h : ¬ chk ph n f = 0) :
    Calls Tryd.prog 16 #[.agg #[.int .i64 ph, .slice a n c], .int .i64 t] w fun e w' => e = .returned (.int .i64 0) ∧ Below w.heap.size w w' := by
  obtain ⟨E, hE⟩ : ∃ E, chk ph n f = E := ⟨_, rfl⟩
  rw [hE] at h
  have k0 : (E == 0) = false := by simpa using h
  have k1 : (E != 0) = true := by simpa using h
  have HE := Lib.hid hE
  clear h hE
  have HV := Lib.hid (hv.below ((Below.refl w.heap.size w).alloc (Nat.le_refl _) (.cells #[.int .i64 ph, .slice a n c] 24)))
  have hb1 : Below w.heap.size w (w.alloc (.cells #[.int .i64 ph, .slice a n c] 24)) := (Below.refl _ _).alloc (Nat.le_refl _) _
  have hX1 := ox_new w ph a n c
  obtain ⟨v, hvw⟩ : ∃ v, w.alloc (.cells #[.int .i64 ph, .slice a n c] 24) = v := ⟨_, rfl⟩
  rw [hvw] at hb1 hX1
  have hr1 := hr.below hb1
  obtain ⟨c0, c1⟩ := hX1.cells
  have HO1 : Hid (Ow w w.heap.size w.heap.size ph a n c f v) := Lib.hid ⟨hX1, hr1, hb1⟩
  have hs1 := hb1.size
  rw [hvw] at HV
  clear hb1 hX1 hr1 hr hv
  go_enter Tryd.func16, Tryd.ntmps16
  go_wp2_with fail
  clear hvw c0 c1
  refine (ochk_any ph a n c f v HV.out (HO1.out.2.1.mono hs1) hm).mono ?_
  rintro e v1 ⟨rfl, hb⟩
  have HO2 := Lib.hid (HO1.out.below hs1 hb)
  have hs2 := HO2.out.2.2.size
  clear hb HO1 HV
  rw [HE.out]
  go_wp2_with fail
  go_ret
  exact ⟨rfl, HO2.out.2.2⟩
set_option maxRecDepth 100000 in
set_option maxHeartbeats 1000000 in
theorem orate_yes (ph : Int) (a : Option Addr) (n c : Nat) (f : Nat → Int × Int) (t : Int) (w : World) (hv : VN w) (hr : Rd2 w w.heap.size a n f) (hm : n ≤ 9223372036854775807) (h : Vd ph n f) :
    Calls Tryd.prog 16 #[.agg #[.int .i64 ph, .slice a n c], .int .i64 t] w fun e w' => e = .returned (.int .i64 (rt f t n)) ∧ Below w.heap.size w w' := by
  have HE := Lib.hid (chk_iff.2 h)
  have HVd := Lib.hid h
  have n0 := h.n0
  have n16 := h.n16
  obtain ⟨b, off, rfl, hbD⟩ := hr.ptr n0
  clear h
  have HV := Lib.hid (hv.below ((Below.refl w.heap.size w).alloc (Nat.le_refl _) (.cells #[.int .i64 ph, .slice (some ⟨b, off, none⟩) n c] 24)))
  have hb1 : Below w.heap.size w (w.alloc (.cells #[.int .i64 ph, .slice (some ⟨b, off, none⟩) n c] 24)) := (Below.refl _ _).alloc (Nat.le_refl _) _
  have hX1 := ox_new w ph (some ⟨b, off, none⟩) n c
  obtain ⟨v, hvw⟩ : ∃ v, w.alloc (.cells #[.int .i64 ph, .slice (some ⟨b, off, none⟩) n c] 24) = v := ⟨_, rfl⟩
  rw [hvw] at hb1 hX1
  have hr1 := hr.below hb1
  obtain ⟨c0, c1⟩ := hX1.cells
  have HO1 : Hid (Ow w w.heap.size w.heap.size ph (some ⟨b, off, none⟩) n c f v) := Lib.hid ⟨hX1, hr1, hb1⟩
  have hs1 := hb1.size
  rw [hvw] at HV
  clear hb1 hX1 hr1 hr hv
  go_enter Tryd.func16, Tryd.ntmps16
  go_wp2_with fail
  clear hvw c0 c1
  refine (ochk_any ph (some ⟨b, off, none⟩) n c f v HV.out (HO1.out.2.1.mono hs1) hm).mono ?_
  rintro e v1 ⟨rfl, hb⟩
  have HO2 := Lib.hid (HO1.out.below hs1 hb)
  have hs2 := HO2.out.2.2.size
  clear hb HO1 HV
  rw [HE.out]
  obtain ⟨c0, c1⟩ := HO2.out.1.cells
  obtain ⟨q0, q1⟩ := HO2.out.2.1.at (i := 0) n0
  simp only [Nat.zero_mul, Nat.add_zero] at q0 q1
  go_wp2_with fail
  clear c0 c1 q0 q1
  go_loopw [5, 7, 19] (fun bd _ i wr => ∃ k : Nat, k ≤ n ∧ i = .int .i64 k ∧ bd = .int .i64 (rt f t k) ∧ Hid (Ow w w.heap.size w.heap.size ph (some ⟨b, off, none⟩) n c f wr)) (fun _ _ i _ => n - (intOf i).toNat)
  case atStart => exact ⟨0, by omega, rfl, rfl, HO2⟩
  case round =>
    clear HO2
    obtain ⟨k, hk, rfl, rfl, HO⟩ := hrel
    obtain ⟨c0, c1⟩ := HO.out.1.cells
    have hsz := HO.out.2.2.size
    have hgl := HO.out.1.lt
    by_cases hlt : k < n
    · obtain ⟨q0, q1⟩ := HO.out.2.1.at (i := k) hlt
      have hok := (HVd.out.ok k hlt)
      obtain ⟨s0, hs0⟩ : ∃ s0, (f k).1 = s0 := ⟨_, rfl⟩
      obtain ⟨s1, hs1'⟩ : ∃ s1, (f k).2 = s1 := ⟨_, rfl⟩
      rw [hs0] at q0
      rw [hs1'] at q1
      unfold okS at hok
      rw [hs0, hs1'] at hok
      obtain ⟨_, o2, o3⟩ := hok
      have hn : rt f t (k + 1) = if s0 ≤ t then s1 else rt f t k := by rw [← hs0, ← hs1']; rfl
      obtain ⟨B, hB⟩ : ∃ B, rt f t k = B := ⟨_, rfl⟩
      rw [hB] at hn ⊢
      have HN := Lib.hid hn
      clear hs0 hs1' hn hB
      have HO3 := Lib.hid (HO.out.below hsz ((Below.refl wr.heap.size wr).alloc (Nat.le_refl _) (.cells #[.int .i64 s0, .int .i64 s1] 36)))
      by_cases hst : s0 ≤ t
      · have e1 : decide (s0 ≤ t) = true := decide_eq_true hst
        have HN2 := Lib.hid (HN.out.trans (if_pos hst))
        clear hst HN
        go_wp2_with fail
        go_roundw
        case rel => exact ⟨k + 1, by omega, by go_num, by rw [HN2.out], HO3⟩
        case measure => simp [intOf]; omega
      · have e1 : decide (s0 ≤ t) = false := decide_eq_false hst
        have HN2 := Lib.hid (HN.out.trans (if_neg hst))
        clear hst HN
        go_wp2_with fail
        go_roundw
        case rel => exact ⟨k + 1, by omega, by go_num, by rw [HN2.out], HO3⟩
        case measure => simp [intOf]; omega
    · obtain rfl : n = k := by omega
      go_wp2_with fail
      go_ret
      exact ⟨rfl, HO.out.2.2⟩
set_option maxRecDepth 100000 in
theorem rbound_no (ph : Int) (a : Option Addr) (n c : Nat) (f : Nat → Int × Int) (w : World) (hr : Rd2 w w.heap.size a n f) (hm : n ≤ 9223372036854775807) (h : ¬ chk ph n f = 0) :
    Calls Tryd.prog 19 #[.agg #[.int .i64 ph, .slice a n c]] w fun e w' => e = .returned (.int .i64 0) ∧ Below w.heap.size w w' := by
  obtain ⟨E, hE⟩ : ∃ E, chk ph n f = E := ⟨_, rfl⟩
  rw [hE] at h
  have k0 : (E == 0) = false := by simpa using h
  have k1 : (E != 0) = true := by simpa using h
  have HE := Lib.hid hE
  clear h hE
  have hb1 : Below w.heap.size w (w.alloc (.cells #[.int .i64 ph, .slice a n c] 24)) := (Below.refl _ _).alloc (Nat.le_refl _) _
  have hX1 := ox_new w ph a n c
  obtain ⟨v, hvw⟩ : ∃ v, w.alloc (.cells #[.int .i64 ph, .slice a n c] 24) = v := ⟨_, rfl⟩
  rw [hvw] at hb1 hX1
  have hr1 := hr.below hb1
  obtain ⟨c0, c1⟩ := hX1.cells
  have HO1 : Hid (Ow w w.heap.size w.heap.size ph a n c f v) := Lib.hid ⟨hX1, hr1, hb1⟩
  have hs1 := hb1.size
  clear hb1 hX1 hr1 hr
  go_enter Tryd.func19, Tryd.ntmps19
  go_wp2_with fail
  clear hvw c0 c1
  refine (rochk_any ph a n c f v (HO1.out.2.1.mono hs1) hm).mono ?_
  rintro e v1 ⟨rfl, hb⟩
  have HO2 := Lib.hid (HO1.out.below hs1 hb)
  have hs2 := HO2.out.2.2.size
  clear hb HO1
  rw [HE.out]
  go_wp2_with fail
  go_ret
  exact ⟨rfl, HO2.out.2.2⟩
set_option maxRecDepth 100000 in
set_option maxHeartbeats 1000000 in
theorem rbound_yes (ph : Int) (a : Option Addr) (n c : Nat) (f : Nat → Int × Int) (w : World) (hr : Rd2 w w.heap.size a n f) (hm : n ≤ 9223372036854775807) (h : Vd ph n f) :
    Calls Tryd.prog 19 #[.agg #[.int .i64 ph, .slice a n c]] w fun e w' => e = .returned (.int .i64 (bnd f n)) ∧ Below w.heap.size w w' := by
  have HE := Lib.hid (chk_iff.2 h)
  have HVd := Lib.hid h
  have n0 := h.n0
  have n16 := h.n16
  obtain ⟨b, off, rfl, hbD⟩ := hr.ptr n0
  clear h
  have hb1 : Below w.heap.size w (w.alloc (.cells #[.int .i64 ph, .slice (some ⟨b, off, none⟩) n c] 24)) := (Below.refl _ _).alloc (Nat.le_refl _) _
  have hX1 := ox_new w ph (some ⟨b, off, none⟩) n c
  obtain ⟨v, hvw⟩ : ∃ v, w.alloc (.cells #[.int .i64 ph, .slice (some ⟨b, off, none⟩) n c] 24) = v := ⟨_, rfl⟩
  rw [hvw] at hb1 hX1
  have hr1 := hr.below hb1
  obtain ⟨c0, c1⟩ := hX1.cells
  have HO1 : Hid (Ow w w.heap.size w.heap.size ph (some ⟨b, off, none⟩) n c f v) := Lib.hid ⟨hX1, hr1, hb1⟩
  have hs1 := hb1.size
  clear hb1 hX1 hr1 hr
  go_enter Tryd.func19, Tryd.ntmps19
  go_wp2_with fail
  clear hvw c0 c1
  refine (rochk_any ph (some ⟨b, off, none⟩) n c f v (HO1.out.2.1.mono hs1) hm).mono ?_
  rintro e v1 ⟨rfl, hb⟩
  have HO2 := Lib.hid (HO1.out.below hs1 hb)
  have hs2 := HO2.out.2.2.size
  clear hb HO1
  rw [HE.out]
  obtain ⟨c0, c1⟩ := HO2.out.1.cells
  go_wp2_with fail
  clear c0 c1
  go_loopw [3, 4] (fun bd i wr => ∃ k : Nat, k ≤ n ∧ i = .int .i64 k ∧ bd = .int .i64 (bnd f k) ∧ Hid (Ow w w.heap.size w.heap.size ph (some ⟨b, off, none⟩) n c f wr)) (fun _ i _ => n - (intOf i).toNat)
  case atStart => exact ⟨0, by omega, rfl, rfl, HO2⟩
  case round =>
    clear HO2
    obtain ⟨k, hk, rfl, rfl, HO⟩ := hrel
    obtain ⟨c0, c1⟩ := HO.out.1.cells
    have hsz := HO.out.2.2.size
    have hgl := HO.out.1.lt
    by_cases hlt : k < n
    · obtain ⟨q0, q1⟩ := HO.out.2.1.at (i := k) hlt
      have hok := (HVd.out.ok k hlt)
      obtain ⟨s0, hs0⟩ : ∃ s0, (f k).1 = s0 := ⟨_, rfl⟩
      obtain ⟨s1, hs1'⟩ : ∃ s1, (f k).2 = s1 := ⟨_, rfl⟩
      rw [hs0] at q0
      rw [hs1'] at q1
      unfold okS at hok
      rw [hs0, hs1'] at hok
      obtain ⟨_, o2, o3⟩ := hok
      have hn : bnd f (k + 1) = max (max (bnd f k) s1) (-s1) := by rw [← hs1']; rfl
      have bb := bnd_nonneg f k
      have bm := bnd_max (f := f) (k := k) fun i hi => (HVd.out.ok i (by omega)).2
      obtain ⟨B, hB⟩ : ∃ B, bnd f k = B := ⟨_, rfl⟩
      rw [hB] at hn bb bm ⊢
      rw [mx3] at hn
      have HN := Lib.hid hn
      clear hs0 hs1' hn hB
      go_wp2_with fail
      go_quiet (fail)
      go_wp2_with fail
      go_roundw
      case rel => exact ⟨k + 1, by omega, by go_num, by rw [HN.out], Lib.hid ⟨HO.out.1, HO.out.2.1, blwn HO.out.2.2 _⟩⟩
      case measure => simp [intOf]; omega
    · obtain rfl : n = k := by omega
      go_wp2_with fail
      go_ret
      exact ⟨rfl, HO.out.2.2⟩
set_option maxRecDepth 100000 in
theorem rrate_no (ph : Int) (a : Option Addr) (n c : Nat) (f : Nat → Int × Int) (t : Int) (w : World) (hr : Rd2 w w.heap.size a n f) (hm : n ≤ 9223372036854775807) (h : ¬ chk ph n f = 0) :
    Calls Tryd.prog 17 #[.agg #[.int .i64 ph, .slice a n c], .int .i64 t] w fun e w' => e = .returned (.int .i64 0) ∧ Below w.heap.size w w' := by
  obtain ⟨E, hE⟩ : ∃ E, chk ph n f = E := ⟨_, rfl⟩
  rw [hE] at h
  have k0 : (E == 0) = false := by simpa using h
  have k1 : (E != 0) = true := by simpa using h
  have HE := Lib.hid hE
  clear h hE
  have hb1 : Below w.heap.size w (w.alloc (.cells #[.int .i64 ph, .slice a n c] 24)) := (Below.refl _ _).alloc (Nat.le_refl _) _
  have hX1 := ox_new w ph a n c
  obtain ⟨v, hvw⟩ : ∃ v, w.alloc (.cells #[.int .i64 ph, .slice a n c] 24) = v := ⟨_, rfl⟩
  rw [hvw] at hb1 hX1
  have hr1 := hr.below hb1
  obtain ⟨c0, c1⟩ := hX1.cells
  have HO1 : Hid (Ow w w.heap.size w.heap.size ph a n c f v) := Lib.hid ⟨hX1, hr1, hb1⟩
  have hs1 := hb1.size
  clear hb1 hX1 hr1 hr
  go_enter Tryd.func17, Tryd.ntmps17
  go_wp2_with fail
  clear hvw c0 c1
  refine (rochk_any ph a n c f v (HO1.out.2.1.mono hs1) hm).mono ?_
  rintro e v1 ⟨rfl, hb⟩
  have HO2 := Lib.hid (HO1.out.below hs1 hb)
  have hs2 := HO2.out.2.2.size
  clear hb HO1
  rw [HE.out]
  go_wp2_with fail
  go_ret
  exact ⟨rfl, HO2.out.2.2⟩
set_option maxRecDepth 100000 in
set_option maxHeartbeats 1000000 in
theorem rrate_yes (ph : Int) (a : Option Addr) (n c : Nat) (f : Nat → Int × Int) (t : Int) (w : World) (hr : Rd2 w w.heap.size a n f) (hm : n ≤ 9223372036854775807) (h : Vd ph n f) :
    Calls Tryd.prog 17 #[.agg #[.int .i64 ph, .slice a n c], .int .i64 t] w fun e w' => e = .returned (.int .i64 (rt f t n)) ∧ Below w.heap.size w w' := by
  have HE := Lib.hid (chk_iff.2 h)
  have HVd := Lib.hid h
  have n0 := h.n0
  have n16 := h.n16
  obtain ⟨b, off, rfl, hbD⟩ := hr.ptr n0
  clear h
  have hb1 : Below w.heap.size w (w.alloc (.cells #[.int .i64 ph, .slice (some ⟨b, off, none⟩) n c] 24)) := (Below.refl _ _).alloc (Nat.le_refl _) _
  have hX1 := ox_new w ph (some ⟨b, off, none⟩) n c
  obtain ⟨v, hvw⟩ : ∃ v, w.alloc (.cells #[.int .i64 ph, .slice (some ⟨b, off, none⟩) n c] 24) = v := ⟨_, rfl⟩
  rw [hvw] at hb1 hX1
  have hr1 := hr.below hb1
  obtain ⟨c0, c1⟩ := hX1.cells
  have HO1 : Hid (Ow w w.heap.size w.heap.size ph (some ⟨b, off, none⟩) n c f v) := Lib.hid ⟨hX1, hr1, hb1⟩
  have hs1 := hb1.size
  clear hb1 hX1 hr1 hr
  go_enter Tryd.func17, Tryd.ntmps17
  go_wp2_with fail
  clear hvw c0 c1
  refine (rochk_any ph (some ⟨b, off, none⟩) n c f v (HO1.out.2.1.mono hs1) hm).mono ?_
  rintro e v1 ⟨rfl, hb⟩
  have HO2 := Lib.hid (HO1.out.below hs1 hb)
  have hs2 := HO2.out.2.2.size
  clear hb HO1
  rw [HE.out]
  obtain ⟨c0, c1⟩ := HO2.out.1.cells
  obtain ⟨q0, q1⟩ := HO2.out.2.1.at (i := 0) n0
  simp only [Nat.zero_mul, Nat.add_zero] at q0 q1
  go_wp2_with fail
  clear c0 c1 q0 q1
  go_loopw [5, 6] (fun bd i wr => ∃ k : Nat, 1 ≤ k ∧ k ≤ n ∧ i = .int .i64 k ∧ bd = .int .i64 (rt f t k) ∧ Hid (Ow w w.heap.size w.heap.size ph (some ⟨b, off, none⟩) n c f wr)) (fun _ i _ => n - (intOf i).toNat)
  case atStart => exact ⟨1, by omega, by omega, rfl, by rw [rt_one], HO2⟩
  case round =>
    clear HO2
    obtain ⟨k, hk1, hk, rfl, rfl, HO⟩ := hrel
    obtain ⟨c0, c1⟩ := HO.out.1.cells
    have hsz := HO.out.2.2.size
    have hgl := HO.out.1.lt
    by_cases hlt : k < n
    · obtain ⟨q0, q1⟩ := HO.out.2.1.at (i := k) hlt
      have hok := (HVd.out.ok k hlt)
      obtain ⟨s0, hs0⟩ : ∃ s0, (f k).1 = s0 := ⟨_, rfl⟩
      obtain ⟨s1, hs1'⟩ : ∃ s1, (f k).2 = s1 := ⟨_, rfl⟩
      rw [hs0] at q0
      rw [hs1'] at q1
      unfold okS at hok
      rw [hs0, hs1'] at hok
      obtain ⟨_, o2, o3⟩ := hok
      have hn : rt f t (k + 1) = if s0 ≤ t then s1 else rt f t k := by rw [← hs0, ← hs1']; rfl
      obtain ⟨B, hB⟩ : ∃ B, rt f t k = B := ⟨_, rfl⟩
      rw [hB] at hn ⊢
      have HN := Lib.hid hn
      clear hs0 hs1' hn hB
      by_cases hst : s0 ≤ t
      · have e1 : decide (s0 ≤ t) = true := decide_eq_true hst
        have HN2 := Lib.hid (HN.out.trans (if_pos hst))
        clear hst HN
        go_wp2_with fail
        go_roundw
        case rel => exact ⟨k + 1, by omega, by omega, by go_num, by rw [HN2.out], HO⟩
        case measure => simp [intOf]; omega
      · have e1 : decide (s0 ≤ t) = false := decide_eq_false hst
        have HN2 := Lib.hid (HN.out.trans (if_neg hst))
        clear hst HN
        go_wp2_with fail
        go_roundw
        case rel => exact ⟨k + 1, by omega, by omega, by go_num, by rw [HN2.out], HO⟩
        case measure => simp [intOf]; omega
    · obtain rfl : n = k := by omega
      go_wp2_with fail
      go_ret
      exact ⟨rfl, HO.out.2.2⟩
end Go.Proofs.YtfhphgeanpmgaaaDoor
