/- The walk of WireStops. -/
import Derived.Test.YtkcllhcinbcgiabWirJ
namespace Go.Proofs.Ytkcllhcinbcgiab
open Go.RowKit Wi

/-- The slice of n calls at A reads as f and lies below block B. -/
def CReads (w : World) (B : Nat) (A : Option Addr) (n : Nat) (f : Nat → Int × Int) : Prop :=
  0 < n → ∃ b off, A = some ⟨b, off, none⟩ ∧ b < B ∧ ∀ i, i < n → w.cell? ⟨b, off + i * 2, none⟩ = some (.int .i64 (f i).1) ∧ w.cell? ⟨b, off + i * 2 + 1, none⟩ = some (.int .i64 (f i).2)
theorem CReads.keep {w w' : World} {B : Nat} {A : Option Addr} {n : Nat} {f : Nat → Int × Int} (h : CReads w B A n f) (hk : ∀ p : Addr, p.block < B → w'.cell? p = w.cell? p) : CReads w' B A n f := fun hn => by
  obtain ⟨b, off, e, hb, hc⟩ := h hn
  exact ⟨b, off, e, hb, fun i hi => ⟨(hk _ hb).trans (hc i hi).1, (hk _ hb).trans (hc i hi).2⟩⟩
theorem CReads.below {w w' : World} {B : Nat} {A : Option Addr} {n : Nat} {f : Nat → Int × Int} (h : CReads w B A n f) (hb : Below B w w') : CReads w' B A n f := h.keep fun _ hp => hb.cell hp

theorem first_any (A : Option Addr) (n c : Nat) (w : World) (hm : n ≤ 9223372036854775807) (hc : n ≤ c) :
    Calls Try.prog 12 #[.slice A n c] w fun e w' => e = .returned (.slice A (min n 200) c) ∧ w = w' := by
  by_cases h : n ≤ 200
  · rw [Nat.min_eq_left h]
    go_enter Try.func12, Try.ntmps12
    go_wp2_with fail
    go_ret
    exact ⟨rfl, rfl⟩
  · rw [Nat.min_eq_right (by omega)]
    have h2 : 200 ≤ c := by omega
    go_enter Try.func12, Try.ntmps12
    go_wp2_with fail
    go_ret
    exact ⟨rfl, rfl⟩

theorem stopped {l : List Int} {err n : Int} (he : err ≠ 0) : numV l err n = 0 ∧ numL l err n = l ∧ numE l err n = err ∧ intV l err n = 0 ∧ takeV l err n = [] ∧ takeL l err n = l ∧ takeE l err n = err :=
  ⟨if_neg he, if_neg (fun h => he h.1), if_neg he, by unfold intV; rw [if_neg (by rw [show numE l err n = err from if_neg he]; exact he)], if_neg (fun h => he h.1), if_neg (fun h => he h.1), if_neg he⟩

/-- Block B is the box of one call. -/
def Box (w : World) (B : Nat) (k x : Int) : Prop := w.heap[B]? = some (.cells #[.int .i64 k, .int .i64 x] 35 (0, 0))
theorem Box.grown {w w' : World} {B g : Nat} {k x : Int} (h : Box w B k x) (hg : w.grownBy w' (some g)) (hne : B ≠ g) : Box w' B k x :=
  (hg.block B (two_cells h).2.2.2.2 (fun e => by injection e with e; omega)).trans h

theorem skip_tmod (x : Int) (n : Nat) (hn : n ≤ 5000) : ∃ t : Nat, t ≤ n ∧ (IntKind.u64.wrap x).tmod ((n : Int) + 1) = (t : Int) := by
  have h : 0 ≤ IntKind.u64.wrap x := by rw [IntKind.wrap_u64]; omega
  rw [Int.tmod_eq_emod_of_nonneg h]
  have h0 := Int.emod_nonneg (IntKind.u64.wrap x) (b := (n : Int) + 1) (by omega)
  have h1 := Int.emod_lt_of_pos (IntKind.u64.wrap x) (b := (n : Int) + 1) (by omega)
  exact ⟨(IntKind.u64.wrap x % ((n : Int) + 1)).toNat, by omega, by omega⟩

/-- What the law does in the loop and behind it, in words of the reader's state. -/
def StopInv (w wr : World) (g : Nat) (l : List Int) (want : Int) : Prop := Hid (PRd wr g l want) ∧ Below w.heap.size w wr

set_option maxRecDepth 100000 in
theorem wireStops_walk (A : Option Addr) (n c : Nat) (l : List Int) (sk N : Int) (LA : Option Addr) (ln lc : Nat) (f : Nat → Int × Int) (w : World) (hr : BReads w w.heap.size A n l) (hN0 : -9223372036854775808 ≤ N) (hN1 : N ≤ 9223372036854775807) (hlm : ln ≤ lc) (hlc : lc ≤ 9223372036854775807) (hf : CReads w w.heap.size LA ln f) :
    Calls Try.prog 3 #[.slice A n c, .int .i64 sk, .int .i64 N, .slice LA ln lc] w fun e w' => e = .returned (.bool true) ∧ Below w.heap.size w w' := by
  by_cases hbig : 5000 < n
  · go_enter Try.func3, Try.ntmps3
    go_wp2_with fail
    refine (awake2_any _).mono ?_
    rintro e w1 ⟨rfl, hw1⟩
    go_wp2_with fail
    go_ret
    exact ⟨rfl, hw1⟩
  · have HR := Lib.hid hr
    have HF := Lib.hid hf
    clear hr hf
    obtain ⟨t, ht, et⟩ := skip_tmod sk n (by omega)
    go_enter Try.func3, Try.ntmps3
    go_wp2_with fail
    refine (pnew_any A n c l _ HR.out (by omega)).mono ?_
    rintro e w1 ⟨g, rfl, hgB, hP, hw1⟩
    have HP1 := Lib.hid hP
    clear hP
    go_wp2_with fail
    have hls := HR.out.1
    have hsk : takeL l 0 t = l.drop t := by unfold takeL; rw [if_pos (by unfold takeOk; omega)]; rfl
    have hse : takeE l 0 t = 0 := by unfold takeE; rw [if_pos rfl, if_neg (by omega), if_neg (by omega)]
    refine (pskip_any g l 0 t _ HP1.out).mono ?_
    rintro e w2 ⟨rfl, hP, hg⟩
    rw [hsk, hse] at hP
    obtain ⟨L, hL⟩ : ∃ L, l.drop t = L := ⟨_, rfl⟩
    rw [hL] at hP
    obtain ⟨m, hmn⟩ : ∃ m : Nat, (n : Int) - t = (m : Int) := ⟨n - t, by omega⟩
    have HLen := Lib.hid (show L.length = m by rw [← hL, List.length_drop, hls]; omega)
    have HP2 := Lib.hid hP
    have hgw : w.heap.size ≤ g := hgB
    have hW2 : Below w.heap.size w w2 := hw1.grown hg hw1.size (fun k hk => by injection hk with hk; omega)
    clear hP hg hw1 HP1 hsk hse hL hls
    go_wp2_with fail
    refine (pleft_any g L 0 _ HP2.out).mono ?_
    rintro e w' ⟨rfl, rfl⟩
    rw [HLen.out]
    go_wp2_with fail
    refine (perr_any g L 0 _ HP2.out).mono ?_
    rintro e w' ⟨rfl, rfl⟩
    by_cases hN : N < 0
    · have HtV := Lib.hid (show takeV L 0 N = [] from if_neg (by unfold takeOk; omega))
      have HtL := Lib.hid (show takeL L 0 N = L from if_neg (by unfold takeOk; omega))
      have HtE := Lib.hid (show takeE L 0 N = 2 by unfold takeE; rw [if_pos rfl, if_pos hN])
      go_wp2_with fail
      refine (pbytes_any g L 0 N _ HP2.out (by rw [HLen.out]; omega)).mono ?_
      rintro e w3 ⟨B3, rfl, _, _, hP, hg⟩
      rw [HtV.out]
      rw [HtL.out, HtE.out] at hP
      have HP3 := Lib.hid hP
      have hW3 : Below w.heap.size w w3 := hW2.grown hg hW2.size (fun k hk => by injection hk with hk; omega)
      clear hP hg hW2 HP2
      go_wp2_with fail
      refine (perr_any g L 2 _ HP3.out).mono ?_
      rintro e w' ⟨rfl, rfl⟩
      go_wp2_with fail
      refine (pleft_any g L 2 _ HP3.out).mono ?_
      rintro e w' ⟨rfl, rfl⟩
      rw [HLen.out]
      go_wp2_with fail
      refine (first_any LA ln lc _ (by omega) hlm).mono ?_
      rintro e w' ⟨rfl, rfl⟩
      obtain ⟨z, hz⟩ : ∃ z, min ln 200 = z := ⟨_, rfl⟩
      have hzl : z ≤ ln := by omega
      have hz200 : z ≤ 200 := by omega
      rw [hz]
      clear hz
      go_wp2_with fail
      go_loopw [73] (fun i wr => ∃ k : Nat, k ≤ z ∧ i = .int .i64 k ∧ Hid (PRd wr g L 2) ∧ Below w.heap.size w wr) (fun i _ => z - (intOf i).toNat)
      case atStart => exact ⟨0, by omega, rfl, HP3, hW3⟩
      case round =>
        clear hW3 HP3
        obtain ⟨k, hk, rfl, HP4, hW4⟩ := hrel
        by_cases hlt : k < z
        · obtain ⟨b, off, rfl, hbB, hcc⟩ := (HF.out.below hW4) (by omega)
          obtain ⟨q1, q2⟩ := hcc k (by omega)
          obtain ⟨y, hy⟩ : ∃ y, (f k).1 = y := ⟨_, rfl⟩
          obtain ⟨x, hx⟩ : ∃ x, (f k).2 = x := ⟨_, rfl⟩
          rw [hy] at q1
          rw [hx] at q2
          clear hx hy hcc
          obtain ⟨s1, s2, s3, s4, s5, s6, s7⟩ := stopped (l := L) (err := 2) (n := x) (by decide)
          have S1 := Lib.hid s1
          have S2 := Lib.hid s2
          have S3 := Lib.hid s3
          have S4 := Lib.hid s4
          have S5 := Lib.hid s5
          have S6 := Lib.hid s6
          have S7 := Lib.hid s7
          clear s1 s2 s3 s4 s5 s6 s7
          have hgs : g < wr.heap.size := by obtain ⟨_, _, _, hh, _⟩ := HP4.out; exact (two_cells hh).2.2.2.2
          have HP5 := Lib.hid (HP4.out.below ((Below.refl wr.heap.size wr).alloc (Nat.le_refl _) (.cells #[.int .i64 y, .int .i64 x] 35)))
          have HX5 : Hid (Box (wr.alloc (.cells #[.int .i64 y, .int .i64 x] 35)) wr.heap.size y x) := Lib.hid (heap_alloc_new wr _)
          have hW5 : Below w.heap.size w (wr.alloc (.cells #[.int .i64 y, .int .i64 x] 35)) := hW4.alloc hW4.size _
          go_wp2_with fail
          refine (pskip_any g L 2 x _ HP5.out).mono ?_
          rintro e va ⟨rfl, hP, hg⟩
          rw [S6.out, S7.out] at hP
          have HPa := Lib.hid hP
          have HXa := Lib.hid (HX5.out.grown hg (by omega))
          have hWa : Below w.heap.size w va := hW5.grown hg hW5.size (fun k hk => by injection hk with hk; omega)
          clear hP hg HP5 HX5 hW5
          obtain ⟨xa0, xa1, _, _, _⟩ := two_cells HXa.out
          go_wp2_with fail
          refine (puint_any g L 2 x _ HPa.out).mono ?_
          rintro e vb ⟨rfl, hP, hg⟩
          rw [S1.out]
          rw [S2.out, S3.out] at hP
          have HPb := Lib.hid hP
          have HXb := Lib.hid (HXa.out.grown hg (by omega))
          have hWb : Below w.heap.size w vb := hWa.grown hg hWa.size (fun k hk => by injection hk with hk; omega)
          clear hP hg HPa HXa hWa
          clear xa0 xa1
          obtain ⟨xb0, xb1, _, _, _⟩ := two_cells HXb.out
          go_wp2_with fail
          refine (pint_any g L 2 x _ HPb.out).mono ?_
          rintro e vc ⟨rfl, hP, hg⟩
          rw [S4.out]
          rw [S2.out, S3.out] at hP
          have HPc := Lib.hid hP
          have HXc := Lib.hid (HXb.out.grown hg (by omega))
          have hWc : Below w.heap.size w vc := hWb.grown hg hWb.size (fun k hk => by injection hk with hk; omega)
          clear hP hg HPb HXb hWb
          clear xb0 xb1
          obtain ⟨xc0, xc1, _, _, _⟩ := two_cells HXc.out
          go_wp2_with fail
          refine (pbytes_any g L 2 x _ HPc.out (by rw [HLen.out]; omega)).mono ?_
          rintro e vd ⟨B4, rfl, _, _, hP, hg⟩
          rw [S5.out]
          rw [S6.out, S7.out] at hP
          have HPd := Lib.hid hP
          have HXd := Lib.hid (HXc.out.grown hg (by omega))
          have hWd : Below w.heap.size w vd := hWc.grown hg hWc.size (fun k hk => by injection hk with hk; omega)
          clear hP hg HPc HXc hWc
          clear xc0 xc1
          obtain ⟨xd0, xd1, _, _, _⟩ := two_cells HXd.out
          go_wp2_with fail
          refine (perr_any g L 2 _ HPd.out).mono ?_
          rintro e w' ⟨rfl, rfl⟩
          go_wp2_with fail
          refine (pleft_any g L 2 _ HPd.out).mono ?_
          rintro e w' ⟨rfl, rfl⟩
          rw [HLen.out]
          go_wp2_with fail
          go_roundw
          case rel => exact ⟨k + 1, by omega, by go_num, HPd, hWd⟩
          case measure => simp [intOf]; omega
        · obtain rfl : k = z := by omega
          go_wp2_with fail
          refine (awake2_any _).mono ?_
          rintro e w8 ⟨rfl, hw8⟩
          go_wp2_with fail
          go_ret
          exact ⟨rfl, hW4.trans (hw8.mono hW4.size)⟩
    · obtain ⟨M, hM⟩ : ∃ M, (m : Int) + 1 + N % 1000 = M := ⟨_, rfl⟩
      have hM0 : (m : Int) < M := by omega
      have hM1 : M ≤ 9223372036854775807 := by omega
      have hlen := HLen.out
      have HtV := Lib.hid (show takeV L 0 M = [] from if_neg (by unfold takeOk; omega))
      have HtL := Lib.hid (show takeL L 0 M = L from if_neg (by unfold takeOk; omega))
      have HtE := Lib.hid (show takeE L 0 M = 5 by unfold takeE; rw [if_pos rfl, if_neg (by omega), if_pos (by omega)])
      clear hlen
      go_wp2_with fail
      refine (pbytes_any g L 0 M _ HP2.out (by rw [HLen.out]; omega)).mono ?_
      rintro e w3 ⟨B3, rfl, _, _, hP, hg⟩
      rw [HtV.out]
      rw [HtL.out, HtE.out] at hP
      have HP3 := Lib.hid hP
      have hW3 : Below w.heap.size w w3 := hW2.grown hg hW2.size (fun k hk => by injection hk with hk; omega)
      clear hP hg hW2 HP2
      go_wp2_with fail
      refine (perr_any g L 5 _ HP3.out).mono ?_
      rintro e w' ⟨rfl, rfl⟩
      go_wp2_with fail
      refine (pleft_any g L 5 _ HP3.out).mono ?_
      rintro e w' ⟨rfl, rfl⟩
      rw [HLen.out]
      go_wp2_with fail
      refine (first_any LA ln lc _ (by omega) hlm).mono ?_
      rintro e w' ⟨rfl, rfl⟩
      obtain ⟨z, hz⟩ : ∃ z, min ln 200 = z := ⟨_, rfl⟩
      have hzl : z ≤ ln := by omega
      have hz200 : z ≤ 200 := by omega
      rw [hz]
      clear hz
      go_wp2_with fail
      go_loopw [73] (fun i wr => ∃ k : Nat, k ≤ z ∧ i = .int .i64 k ∧ Hid (PRd wr g L 5) ∧ Below w.heap.size w wr) (fun i _ => z - (intOf i).toNat)
      case atStart => exact ⟨0, by omega, rfl, HP3, hW3⟩
      case round =>
        clear hW3 HP3
        obtain ⟨k, hk, rfl, HP4, hW4⟩ := hrel
        by_cases hlt : k < z
        · obtain ⟨b, off, rfl, hbB, hcc⟩ := (HF.out.below hW4) (by omega)
          obtain ⟨q1, q2⟩ := hcc k (by omega)
          obtain ⟨y, hy⟩ : ∃ y, (f k).1 = y := ⟨_, rfl⟩
          obtain ⟨x, hx⟩ : ∃ x, (f k).2 = x := ⟨_, rfl⟩
          rw [hy] at q1
          rw [hx] at q2
          clear hx hy hcc
          obtain ⟨s1, s2, s3, s4, s5, s6, s7⟩ := stopped (l := L) (err := 5) (n := x) (by decide)
          have S1 := Lib.hid s1
          have S2 := Lib.hid s2
          have S3 := Lib.hid s3
          have S4 := Lib.hid s4
          have S5 := Lib.hid s5
          have S6 := Lib.hid s6
          have S7 := Lib.hid s7
          clear s1 s2 s3 s4 s5 s6 s7
          have hgs : g < wr.heap.size := by obtain ⟨_, _, _, hh, _⟩ := HP4.out; exact (two_cells hh).2.2.2.2
          have HP5 := Lib.hid (HP4.out.below ((Below.refl wr.heap.size wr).alloc (Nat.le_refl _) (.cells #[.int .i64 y, .int .i64 x] 35)))
          have HX5 : Hid (Box (wr.alloc (.cells #[.int .i64 y, .int .i64 x] 35)) wr.heap.size y x) := Lib.hid (heap_alloc_new wr _)
          have hW5 : Below w.heap.size w (wr.alloc (.cells #[.int .i64 y, .int .i64 x] 35)) := hW4.alloc hW4.size _
          go_wp2_with fail
          refine (pskip_any g L 5 x _ HP5.out).mono ?_
          rintro e va ⟨rfl, hP, hg⟩
          rw [S6.out, S7.out] at hP
          have HPa := Lib.hid hP
          have HXa := Lib.hid (HX5.out.grown hg (by omega))
          have hWa : Below w.heap.size w va := hW5.grown hg hW5.size (fun k hk => by injection hk with hk; omega)
          clear hP hg HP5 HX5 hW5
          obtain ⟨xa0, xa1, _, _, _⟩ := two_cells HXa.out
          go_wp2_with fail
          refine (puint_any g L 5 x _ HPa.out).mono ?_
          rintro e vb ⟨rfl, hP, hg⟩
          rw [S1.out]
          rw [S2.out, S3.out] at hP
          have HPb := Lib.hid hP
          have HXb := Lib.hid (HXa.out.grown hg (by omega))
          have hWb : Below w.heap.size w vb := hWa.grown hg hWa.size (fun k hk => by injection hk with hk; omega)
          clear hP hg HPa HXa hWa
          clear xa0 xa1
          obtain ⟨xb0, xb1, _, _, _⟩ := two_cells HXb.out
          go_wp2_with fail
          refine (pint_any g L 5 x _ HPb.out).mono ?_
          rintro e vc ⟨rfl, hP, hg⟩
          rw [S4.out]
          rw [S2.out, S3.out] at hP
          have HPc := Lib.hid hP
          have HXc := Lib.hid (HXb.out.grown hg (by omega))
          have hWc : Below w.heap.size w vc := hWb.grown hg hWb.size (fun k hk => by injection hk with hk; omega)
          clear hP hg HPb HXb hWb
          clear xb0 xb1
          obtain ⟨xc0, xc1, _, _, _⟩ := two_cells HXc.out
          go_wp2_with fail
          refine (pbytes_any g L 5 x _ HPc.out (by rw [HLen.out]; omega)).mono ?_
          rintro e vd ⟨B4, rfl, _, _, hP, hg⟩
          rw [S5.out]
          rw [S6.out, S7.out] at hP
          have HPd := Lib.hid hP
          have HXd := Lib.hid (HXc.out.grown hg (by omega))
          have hWd : Below w.heap.size w vd := hWc.grown hg hWc.size (fun k hk => by injection hk with hk; omega)
          clear hP hg HPc HXc hWc
          clear xc0 xc1
          obtain ⟨xd0, xd1, _, _, _⟩ := two_cells HXd.out
          go_wp2_with fail
          refine (perr_any g L 5 _ HPd.out).mono ?_
          rintro e w' ⟨rfl, rfl⟩
          go_wp2_with fail
          refine (pleft_any g L 5 _ HPd.out).mono ?_
          rintro e w' ⟨rfl, rfl⟩
          rw [HLen.out]
          go_wp2_with fail
          go_roundw
          case rel => exact ⟨k + 1, by omega, by go_num, HPd, hWd⟩
          case measure => simp [intOf]; omega
        · obtain rfl : k = z := by omega
          go_wp2_with fail
          refine (awake2_any _).mono ?_
          rintro e w8 ⟨rfl, hw8⟩
          go_wp2_with fail
          go_ret
          exact ⟨rfl, hW4.trans (hw8.mono hW4.size)⟩
end Go.Proofs.Ytkcllhcinbcgiab
