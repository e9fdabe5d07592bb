/- The specification's Check, in one text. -/
import Derived.Test.YtegpajdahanhfaaGreatDoorLeaD
namespace Go.Proofs.YtegpajdahanhfaaGreatDoor
open Go.RowKit Fx Cv Lp

theorem rin_1000 (x : Int) (w : World) (v : Bool) (h : decide (-1000 ≤ x ∧ x ≤ 1000) = v) : Calls Tryz.prog 29 #[.int .i64 x, .int .i64 1000] w fun e w' => e = .returned (.bool v) ∧ w' = w := by
  subst h; exact rin_any x 1000 w (by decide) (by decide)
theorem rin_sec (x : Int) (w : World) (v : Bool) (h : decide (-8000000000 ≤ x ∧ x ≤ 8000000000) = v) : Calls Tryz.prog 29 #[.int .i64 x, .int .i64 8000000000] w fun e w' => e = .returned (.bool v) ∧ w' = w := by
  subst h; exact rin_any x 8000000000 w (by decide) (by decide)

theorem rchk_long (B E : Int) (a : Option Addr) (n c : Nat) (f : Nat → Int × Int) (w : World) (h : 64 < n) :
    Calls Tryz.prog 13 #[.agg #[.int .i64 B, .int .i64 E, .slice a n c]] w fun e w' => e = .returned (.int .i64 (chkL B E f n)) ∧ Below w.heap.size w w' := by
  have HC : Hid (chkL B E f n = 6) := Lib.hid (if_pos h)
  have hi : (64 : Int) < n := by omega
  rw [HC.out]
  clear h
  have BB0 := Lib.hid ((Below.refl w.heap.size w).alloc (Nat.le_refl _) (.cells #[.int .i64 B, .int .i64 E, .slice a n c] 24))
  have X0 := Lib.hid (tbx_new w B E a n c)
  obtain ⟨W0, hW0⟩ : ∃ W, w.alloc (.cells #[.int .i64 B, .int .i64 E, .slice a n c] 24) = W := ⟨_, rfl⟩
  rw [hW0] at BB0 X0
  obtain ⟨t0, t1, t2⟩ := X0.out.cells
  go_enter Tryz.func13, Tryz.ntmps13
  go_wp2_with fail
  go_ret
  exact ⟨rfl, BB0.out⟩

set_option maxRecDepth 100000 in
theorem rchk_head (B E : Int) (a : Option Addr) (n c : Nat) (f : Nat → Int × Int) (w : World) (hn : n ≤ 64) (h : ¬ ((-1000 ≤ B ∧ B ≤ 1000) ∧ (-8000000000 ≤ E ∧ E ≤ 8000000000))) :
    Calls Tryz.prog 13 #[.agg #[.int .i64 B, .int .i64 E, .slice a n c]] w fun e w' => e = .returned (.int .i64 (chkL B E f n)) ∧ Below w.heap.size w w' := by
  have HC : Hid (chkL B E f n = 3) := Lib.hid (by unfold chkL; rw [if_neg (by omega), if_neg (fun k => h ⟨k.1, k.2.1⟩)])
  have hi : ¬ (64 : Int) < n := by omega
  have hib : decide ((64 : Int) < n) = false := decide_eq_false hi
  rw [HC.out]
  have BB0 := Lib.hid ((Below.refl w.heap.size w).alloc (Nat.le_refl _) (.cells #[.int .i64 B, .int .i64 E, .slice a n c] 24))
  have X0 := Lib.hid (tbx_new w B E a n c)
  obtain ⟨W0, hW0⟩ : ∃ W, w.alloc (.cells #[.int .i64 B, .int .i64 E, .slice a n c] 24) = W := ⟨_, rfl⟩
  rw [hW0] at BB0 X0
  obtain ⟨t0, t1, t2⟩ := X0.out.cells
  by_cases h1 : -1000 ≤ B ∧ B ≤ 1000
  · have h2 := decide_eq_false (fun k => h ⟨h1, k⟩)
    have h1 := decide_eq_true h1
    have H1 := Lib.hid h1
    have H2 := Lib.hid h2
    clear h h1 h2
    go_enter Tryz.func13, Tryz.ntmps13
    go_wp2_with fail
    refine (rin_1000 B _ true H1.out).mono ?_
    rintro e w' ⟨rfl, hw'⟩; subst w'
    go_wp2_with fail
    refine (rin_sec E _ false H2.out).mono ?_
    rintro e w' ⟨rfl, hw'⟩; subst w'
    go_wp2_with fail
    go_ret
    exact ⟨rfl, BB0.out⟩
  · have H1 := Lib.hid (decide_eq_false h1)
    clear h h1
    go_enter Tryz.func13, Tryz.ntmps13
    go_wp2_with fail
    refine (rin_1000 B _ false H1.out).mono ?_
    rintro e w' ⟨rfl, hw'⟩; subst w'
    go_wp2_with fail
    go_ret
    exact ⟨rfl, BB0.out⟩

set_option maxRecDepth 100000 in
set_option maxHeartbeats 2000000 in
theorem rchk_loop (B E : Int) (a : Option Addr) (n c : Nat) (f : Nat → Int × Int) (w : World) (hr : LRd w w.heap.size a n f) (hn : n ≤ 64) (hB : -1000 ≤ B ∧ B ≤ 1000) (hE : -8000000000 ≤ E ∧ E ≤ 8000000000) :
    Calls Tryz.prog 13 #[.agg #[.int .i64 B, .int .i64 E, .slice a n c]] w fun e w' => e = .returned (.int .i64 (chkL B E f n)) ∧ Below w.heap.size w w' := by
  have hi : ¬ (64 : Int) < n := by omega
  have hib : decide ((64 : Int) < n) = false := decide_eq_false hi
  have BB0 := Lib.hid ((Below.refl w.heap.size w).alloc (Nat.le_refl _) (.cells #[.int .i64 B, .int .i64 E, .slice a n c] 24))
  have X0 := Lib.hid (tbx_new w B E a n c)
  obtain ⟨W0, hW0⟩ : ∃ W, w.alloc (.cells #[.int .i64 B, .int .i64 E, .slice a n c] 24) = W := ⟨_, rfl⟩
  rw [hW0] at BB0 X0
  obtain ⟨t0, t1, t2⟩ := X0.out.cells
  have HR := Lib.hid (hr.below BB0.out)
  have HRW := Lib.hid hr
  have H1 := Lib.hid (decide_eq_true hB)
  have H2 := Lib.hid (decide_eq_true hE)
  have HBE := Lib.hid (And.intro hB hE)
  have HN := Lib.hid hn
  clear hr hB hE
  go_enter Tryz.func13, Tryz.ntmps13
  go_wp2_with fail
  refine (rin_1000 B _ true H1.out).mono ?_
  rintro e w' ⟨rfl, hw'⟩; subst w'
  go_wp2_with fail
  refine (rin_sec E _ true H2.out).mono ?_
  rintro e w' ⟨rfl, hw'⟩; subst w'
  go_wp2_with fail
  clear hW0
  go_loopw [3] (fun iv wr => ∃ k : Nat, k ≤ n ∧ iv = .int .i64 k ∧ wr = W0 ∧ Hid (∀ i, i < k → (-1000 ≤ (f i).2 ∧ (f i).2 ≤ 1000) ∧ (-8000000000 ≤ (f i).1 ∧ (f i).1 ≤ 8000000000))) (fun iv _ => n - (intOf iv).toNat)
  case atStart => exact ⟨0, by omega, rfl, rfl, Lib.hid (fun i hi => by omega)⟩
  case round =>
    obtain ⟨k, hk, rfl, hwr, HK⟩ := hrel
    subst hwr
    by_cases hlt : k < n
    · have hki : (k : Int) < n := by omega
      have hk0 : (0 : Int) ≤ k := by omega
      obtain ⟨b, off, rfl, hbl, hcell⟩ := HR.out (by omega)
      obtain ⟨e0, e1⟩ := hcell k hlt
      obtain ⟨x, hx⟩ : ∃ x, (f k).1 = x := ⟨_, rfl⟩
      obtain ⟨y, hy⟩ : ∃ y, (f k).2 = y := ⟨_, rfl⟩
      rw [hx] at e0
      rw [hy] at e1
      have HX := Lib.hid hx
      have HY := Lib.hid hy
      have hw : IntKind.i64.wrap ((k : Int) + 1) = ((k + 1 : Nat) : Int) := by rw [IntKind.wrap_i64]; omega
      obtain ⟨g, hg⟩ : ∃ g, decide (-8000000000 ≤ x ∧ x ≤ 8000000000) = g := ⟨_, rfl⟩
      obtain ⟨g', hg'⟩ : ∃ g, decide (-1000 ≤ y ∧ y ≤ 1000) = g := ⟨_, rfl⟩
      have HG := Lib.hid hg
      have HG' := Lib.hid hg'
      clear hg hg' hcell hx hy
      cases g
      · have HC : Hid (chkL B E f n = 3) := Lib.hid (by
          unfold chkL; rw [if_neg (by omega), if_neg (fun h => ?_)]
          have := (h.2.2 k hlt).2
          rw [HX.out] at this
          exact absurd this (of_decide_eq_false HG.out))
        go_wp2_with fail
        refine (rin_sec x _ false HG.out).mono ?_
        rintro e w1 ⟨rfl, hw1⟩; subst w1
        go_wp2_with fail
        go_ret
        exact ⟨ret1 HC.out.symm, BB0.out⟩
      · cases g'
        · have HC : Hid (chkL B E f n = 3) := Lib.hid (by
            unfold chkL; rw [if_neg (by omega), if_neg (fun h => ?_)]
            have := (h.2.2 k hlt).1
            rw [HY.out] at this
            exact absurd this (of_decide_eq_false HG'.out))
          go_wp2_with fail
          refine (rin_sec x _ true HG.out).mono ?_
          rintro e w1 ⟨rfl, hw1⟩; subst w1
          go_wp2_with fail
          refine (rin_1000 y _ false HG'.out).mono ?_
          rintro e w1 ⟨rfl, hw1⟩; subst w1
          go_wp2_with fail
          go_ret
          exact ⟨ret1 HC.out.symm, BB0.out⟩
        · have HKN : Hid (∀ i, i < k + 1 → (-1000 ≤ (f i).2 ∧ (f i).2 ≤ 1000) ∧ (-8000000000 ≤ (f i).1 ∧ (f i).1 ≤ 8000000000)) := Lib.hid (fun i hi => by
            rcases (show i < k ∨ i = k by omega) with h | rfl
            · exact HK.out i h
            · rw [HX.out, HY.out]
              exact ⟨of_decide_eq_true HG'.out, of_decide_eq_true HG.out⟩)
          go_wp2_with fail
          refine (rin_sec x _ true HG.out).mono ?_
          rintro e w1 ⟨rfl, hw1⟩; subst w1
          go_wp2_with fail
          refine (rin_1000 y _ true HG'.out).mono ?_
          rintro e w1 ⟨rfl, hw1⟩; subst w1
          go_wp2_with fail
          go_roundw
          case rel => exact ⟨k + 1, by omega, by go_num, trivial, HKN⟩
          case measure => simp [intOf]; omega
    · obtain rfl : n = k := by omega
      have HI : Hid (inR B E f n) := Lib.hid ⟨HBE.out.1, HBE.out.2, HK.out⟩
      have HC : Hid (chkL B E f n = fE B f n) := Lib.hid (by unfold chkL; rw [if_neg (by omega), if_pos HI.out])
      have hki : ¬ (n : Int) < n := by omega
      go_wp2_with fail
      go_loopw [4] (fun iv wr2 => ∃ j : Nat, j ≤ n ∧ iv = .int .i64 j ∧ Hid (fE B f j = 0) ∧ Hid (TBx wr2 w.heap.size B E a n c) ∧ Hid (Below w.heap.size w wr2)) (fun iv _ => n - (intOf iv).toNat)
      case atStart => exact ⟨0, by omega, rfl, Lib.hid rfl, X0, BB0⟩
      case round =>
        obtain ⟨j, hj, rfl, HJ, XR, HB⟩ := hrel
        by_cases hlt : j < n
        · have hji : (j : Int) < n := by omega
          have hj0 : (0 : Int) ≤ j := by omega
          obtain ⟨b, off, rfl, hbl, hcell⟩ := (HRW.out.below HB.out) (by omega)
          obtain ⟨e0, e1⟩ := hcell j hlt
          obtain ⟨x, hx⟩ : ∃ x, (f j).1 = x := ⟨_, rfl⟩
          obtain ⟨y, hy⟩ : ∃ y, (f j).2 = y := ⟨_, rfl⟩
          rw [hx] at e0
          rw [hy] at e1
          have HX := Lib.hid hx
          have HY := Lib.hid hy
          have HCL := Lib.hid hcell
          have hws : w.heap.size ≤ wr.heap.size := HB.out.size
          obtain ⟨D, hD⟩ : ∃ D, wr.heap.size = D := ⟨_, rfl⟩
          obtain ⟨V, hV⟩ : ∃ V, wr.alloc (.cells #[.int .i64 x, .int .i64 y] 44) = V := ⟨_, rfl⟩
          have HP := Lib.hid (show PBx V D x y by rw [← hV, ← hD]; exact pbx_new wr x y)
          have HXV := Lib.hid (show TBx V w.heap.size B E (some ⟨b, off, none⟩) n c by rw [← hV]; exact XR.out.alloc _)
          have HBV := Lib.hid (show Below w.heap.size w V by rw [← hV]; exact HB.out.alloc hws _)
          obtain ⟨t0, t1, t2⟩ := XR.out.cells
          obtain ⟨p0, p1, _, _⟩ := HP.out.cells
          obtain ⟨g, hg⟩ : ∃ g, beg x = g := ⟨_, rfl⟩
          have HG := Lib.hid hg
          clear hx hy hcell hg
          go_wp2_with fail
          clear hV hD t0 t1 t2 p0 p1 e0 e1
          refine (rbegins_any x V).mono ?_
          rintro e v1 ⟨rfl, hb1⟩
          rw [HG.out]
          have HP1 := Lib.hid (HP.out.below hb1 HP.out.lt)
          have HX1 := Lib.hid (HXV.out.below hb1 HXV.out.lt)
          have HB1 := Lib.hid (HBV.out.trans (hb1.mono HBV.out.size))
          clear hb1 HP HXV HBV
          cases g
          · have HE : Hid (fE B f n = 7) := Lib.hid (by
              have h : entE B f j = 7 := by unfold entE; rw [HX.out, HG.out]; rfl
              rw [fE_end HJ.out hlt (by rw [h]; decide), h])
            go_wp2_with fail
            go_ret
            exact ⟨ret1 (HC.out.trans HE.out).symm, HB1.out⟩
          · have hcell1 := (HRW.out.below HB1.out) (by omega)
            obtain ⟨t0, t1, t2⟩ := HX1.out.cells
            obtain ⟨p0, p1, _, _⟩ := HP1.out.cells
            go_wp2_with fail
            obtain ⟨o, ho⟩ : ∃ o, decide (0 < j ∧ (f j).1 ≤ (f (j - 1)).1) = o := ⟨_, rfl⟩
            have HOR := Lib.hid ho
            go_cut [62] from 63 to 76 (fun t62 wx => t62 = .bool o ∧ Hid (∃ q, wx = v1.drewN q))
            case first =>
              rcases Nat.eq_zero_or_pos j with hz | hz
              · have ho2 : o = false := by rw [← ho]; exact decide_eq_false (fun h => by omega)
                have hjz : ¬ (0 : Int) < j := by omega
                have hjb : decide ((0 : Int) < j) = false := decide_eq_false hjz
                have hjn : ¬ 0 < j := by omega
                have hjm : decide (0 < j) = false := decide_eq_false hjn
                have HO2 := Lib.hid ho2
                clear ho hz ho2 hcell1
                go_quiet (fail)
                go_wp2_with fail
                go_meet
                exact ⟨by rw [HO2.out], Lib.hid ⟨_, rfl⟩⟩
              · obtain ⟨i, hi1⟩ : ∃ i, j = i + 1 := ⟨j - 1, by omega⟩
                obtain ⟨z, hzz⟩ : ∃ z, (f i).1 = z := ⟨_, rfl⟩
                have e2 : v1.cell? ⟨b, off + i * 2, none⟩ = some (.int .i64 z) := by
                  obtain ⟨b', off', h1, h2, h3⟩ := hcell1
                  cases h1
                  rw [← hzz]; exact (h3 i (by omega)).1
                have hwj : IntKind.i64.wrap ((j : Int) - 1) = (i : Int) := by rw [IntKind.wrap_i64]; omega
                have hii : (i : Int) < n := by omega
                have hi0 : (0 : Int) ≤ i := by omega
                have hjz : (0 : Int) < j := by omega
                have hjb : decide ((0 : Int) < j) = true := decide_eq_true hjz
                have hjn : 0 < j := hz
                have hjm : decide (0 < j) = true := decide_eq_true hjn
                have ho2 : o = decide (x ≤ z) := by
                  rw [← ho, HX.out, ← hzz, hi1]; simp
                have HO2 := Lib.hid ho2
                clear ho hz ho2 hcell1 hzz hi1
                go_quiet (fail)
                go_wp2_with fail
                go_meet
                exact ⟨by rw [HO2.out], Lib.hid ⟨_, rfl⟩⟩
            case rest =>
              obtain ⟨rfl, HQ⟩ := hcut
              clear t0 t1 t2 p0 p1 ho hcell1
              have HPX : Hid (PBx wc D x y) := Lib.hid (by obtain ⟨q, hq⟩ := HQ.out; rw [hq]; exact HP1.out)
              have HXX : Hid (TBx wc w.heap.size B E (some ⟨b, off, none⟩) n c) := Lib.hid (by obtain ⟨q, hq⟩ := HQ.out; rw [hq]; exact HX1.out)
              have HBX : Hid (Below w.heap.size w wc) := Lib.hid (by obtain ⟨q, hq⟩ := HQ.out; rw [hq]; exact below_drewN HB1.out q)
              have HLX : Hid (LRd wc wc.heap.size (some ⟨b, off, none⟩) n f) := Lib.hid ((HRW.out.below HBX.out).mono HBX.out.size)
              clear HQ HP1 HX1 HB1
              cases o
              · obtain ⟨d, hd⟩ : ∃ d, offA B f j = d := ⟨_, rfl⟩
                have hdr := offA_in (k := j) HI.out (by omega)
                rw [hd] at hdr
                have HO := Lib.hid hd
                have hw1 : IntKind.i64.wrap (d + 1) = d + 1 := by rw [IntKind.wrap_i64]; omega
                have hw2 : IntKind.i64.wrap (d - 1) = d - 1 := by rw [IntKind.wrap_i64]; omega
                have HEE : Hid (entE B f j = if y - d = 1 ∨ y - d = -1 then 0 else 3) := Lib.hid (by
                  unfold entE
                  rw [HX.out, HG.out, if_neg (by decide), if_neg (fun h => of_decide_eq_false HOR.out (by rw [HX.out]; exact h)), HY.out, hd])
                have hwj : IntKind.i64.wrap ((j : Int) + 1) = ((j + 1 : Nat) : Int) := by rw [IntKind.wrap_i64]; omega
                obtain ⟨t0, t1, t2⟩ := HXX.out.cells
                obtain ⟨p0, p1, _, _⟩ := HPX.out.cells
                clear hd
                by_cases y1 : y = d + 1
                · have HNX : Hid (fE B f (j + 1) = 0) := Lib.hid (by rw [fE_next HJ.out, HEE.out, if_pos (.inl (by omega))])
                  subst y1
                  go_wp2_with fail
                  refine wp_region_held_drew (S := (fun v => v.cell? ⟨D, 1, none⟩ = some (.int .i64 (d + 1)) ∧ v.cell? ⟨w.heap.size, 0, none⟩ = some (.int .i64 B) ∧ v.cell? ⟨w.heap.size, 1, none⟩ = some (.int .i64 E) ∧ v.cell? ⟨w.heap.size, 2, none⟩ = some (.slice (some ⟨b, off, none⟩) n c))) (by kernel_rfl) ⟨p1, t0, t1, t2⟩ (fun hHeld => ?_)
                  refine wpAnyH_take (i := 0) (oi := ⟨some 78, _, _, _, _, _⟩) (v := ?v0) rfl (by kernel_rfl) (by kernel_rfl) (by kernel_rfl) (fun _ _ _ h => h) (Or.inl ⟨by kernel_rfl, ?h0⟩) (by assumption) ?r0
                  case h0 => (intro w' hSw; (try dsimp only at hSw); go_simp; (try with_reducible rfl))
                  try simp only [Act.put, List.setIfInBounds_toArray, List.set_cons_zero, List.set_cons_succ]
                  refine wpAnyH_take (i := 1) (oi := ⟨some 79, _, _, _, _, _⟩) (v := ?v1) rfl (by kernel_rfl) (by kernel_rfl) (by kernel_rfl) (fun _ _ _ h => h) (Or.inl ⟨by kernel_rfl, ?h1⟩) (by assumption) ?r1
                  case h1 => (intro w' hSw; (try dsimp only at hSw); go_simp; (try with_reducible rfl))
                  try simp only [Act.put, List.setIfInBounds_toArray, List.set_cons_zero, List.set_cons_succ]
                  refine wpAnyH_take (i := 2) (oi := ⟨some 80, _, _, _, _, _⟩) (v := ?v2) rfl (by kernel_rfl) (by kernel_rfl) (by kernel_rfl) (fun _ _ _ h => h) (Or.inl ⟨by kernel_rfl, ?h2⟩) (by assumption) ?r2
                  case h2 => (intro w' hSw; (try dsimp only at hSw); go_simp; (try with_reducible rfl))
                  try simp only [Act.put, List.setIfInBounds_toArray, List.set_cons_zero, List.set_cons_succ]
                  refine wpAnyH_take (i := 3) (oi := ⟨some 81, _, _, _, _, _⟩) (v := ?v3) rfl (by kernel_rfl) (by kernel_rfl) (by kernel_rfl) (fun _ _ _ h => h) (Or.inl ⟨by kernel_rfl, ?h3⟩) (by assumption) ?r3
                  case h3 => (intro w' hSw; (try dsimp only at hSw); go_simp; (try with_reducible rfl))
                  try simp only [Act.put, List.setIfInBounds_toArray, List.set_cons_zero, List.set_cons_succ]
                  refine wpAnyH_ready (rs := [4]) (by kernel_rfl) (by simp) ?_
                  refine AllReadyH.cons (o := ⟨some 82, _, _, _, _, _⟩) rfl (fun K hK => ?_) AllReadyH.nil
                  rw [if_pos (by kernel_rfl)]
                  go_simp
                  refine (rold_any B E (some ⟨b, off, none⟩) n c f j _ ?_ (by omega) HN.out).mono ?_
                  · exact HLX.out
                  rintro e v3 ⟨rfl, hbl⟩
                  rw [HO.out]
                  have hb3 : Below wc.heap.size wc v3 := ⟨hbl.os, hbl.tape, hbl.output, hbl.size, hbl.block⟩
                  have HP3 := Lib.hid (HPX.out.below hb3 HPX.out.lt)
                  have HX3 := Lib.hid (HXX.out.below hb3 HXX.out.lt)
                  have HB3 := Lib.hid (HBX.out.trans (hb3.mono HBX.out.size))
                  obtain ⟨tt0, tt1, tt2⟩ := HX3.out.cells
                  obtain ⟨pp0, pp1, _, _⟩ := HP3.out.cells
                  clear hbl hb3 t0 t1 t2 p0 p1 HPX HXX HBX HLX
                  go_wp2_with fail
                  refine hK.out _ _ ⟨pp1, tt0, tt1, tt2⟩ (fun hHeld4 => ?_)
                  clear hK K
                  try simp only [Act.put, List.setIfInBounds_toArray, List.set_cons_zero, List.set_cons_succ]
                  refine wpAnyH_take (i := 5) (oi := ⟨some 83, _, _, _, _, _⟩) (v := ?v5) rfl (by kernel_rfl) (by kernel_rfl) (by kernel_rfl) (fun _ _ _ h => h) (Or.inl ⟨by kernel_rfl, ?h5⟩) (by assumption) ?r5
                  case h5 => (intro w' hSw; (try dsimp only at hSw); go_simp; (try with_reducible rfl))
                  try simp only [Act.put, List.setIfInBounds_toArray, List.set_cons_zero, List.set_cons_succ]
                  refine wpAnyH_take (i := 6) (oi := ⟨some 84, _, _, _, _, _⟩) (v := ?v6) rfl (by kernel_rfl) (by kernel_rfl) (by kernel_rfl) (fun _ _ _ h => h) (Or.inl ⟨by kernel_rfl, ?h6⟩) (by assumption) ?r6
                  case h6 => (intro w' hSw; (try dsimp only at hSw); go_simp; (try with_reducible rfl))
                  try simp only [Act.put, List.setIfInBounds_toArray, List.set_cons_zero, List.set_cons_succ]
                  refine wpAnyH_take (i := 7) (oi := ⟨some 85, _, _, _, _, _⟩) (v := ?v7) rfl (by kernel_rfl) (by kernel_rfl) (by kernel_rfl) (fun _ _ _ h => h) (Or.inl ⟨by kernel_rfl, ?h7⟩) (by assumption) ?r7
                  case h7 => (intro w' hSw; (try dsimp only at hSw); go_simp; (try with_reducible rfl))
                  try simp only [Act.put, List.setIfInBounds_toArray, List.set_cons_zero, List.set_cons_succ]
                  refine wpAnyH_take (i := 8) (oi := ⟨some 86, _, _, _, _, _⟩) (v := undef) rfl (by kernel_rfl) (by kernel_rfl) (by kernel_rfl) (fun _ _ _ h => h) (Or.inr ⟨by kernel_rfl, rfl⟩) (by assumption) ?_
                  try simp only [Act.put, List.setIfInBounds_toArray, List.set_cons_zero, List.set_cons_succ]
                  refine wpAnyH_take (i := 9) (oi := ⟨some 87, _, _, _, _, _⟩) (v := undef) rfl (by kernel_rfl) (by kernel_rfl) (by kernel_rfl) (fun _ _ _ h => h) (Or.inr ⟨by kernel_rfl, rfl⟩) (by assumption) ?_
                  try simp only [Act.put, List.setIfInBounds_toArray, List.set_cons_zero, List.set_cons_succ]
                  refine wpAnyH_take (i := 10) (oi := ⟨some 88, _, _, _, _, _⟩) (v := undef) rfl (by kernel_rfl) (by kernel_rfl) (by kernel_rfl) (fun _ _ _ h => h) (Or.inr ⟨by kernel_rfl, rfl⟩) (by assumption) ?_
                  try simp only [Act.put, List.setIfInBounds_toArray, List.set_cons_zero, List.set_cons_succ]
                  refine wpAnyH_take (i := 11) (oi := ⟨some 89, _, _, _, _, _⟩) (v := undef) rfl (by kernel_rfl) (by kernel_rfl) (by kernel_rfl) (fun _ _ _ h => h) (Or.inr ⟨by kernel_rfl, rfl⟩) (by assumption) ?_
                  try simp only [Act.put, List.setIfInBounds_toArray, List.set_cons_zero, List.set_cons_succ]
                  refine wpAnyH_take (i := 12) (oi := ⟨some 90, _, _, _, _, _⟩) (v := undef) rfl (by kernel_rfl) (by kernel_rfl) (by kernel_rfl) (fun _ _ _ h => h) (Or.inr ⟨by kernel_rfl, rfl⟩) (by assumption) ?_
                  try simp only [Act.put, List.setIfInBounds_toArray, List.set_cons_zero, List.set_cons_succ]
                  refine wpAnyH_take (i := 13) (oi := ⟨some 91, _, _, _, _, _⟩) (v := undef) rfl (by kernel_rfl) (by kernel_rfl) (by kernel_rfl) (fun _ _ _ h => h) (Or.inr ⟨by kernel_rfl, rfl⟩) (by assumption) ?_
                  try simp only [Act.put, List.setIfInBounds_toArray, List.set_cons_zero, List.set_cons_succ]
                  refine wpAnyH_take (i := 14) (oi := ⟨some 92, _, _, _, _, _⟩) (v := undef) rfl (by kernel_rfl) (by kernel_rfl) (by kernel_rfl) (fun _ _ _ h => h) (Or.inr ⟨by kernel_rfl, rfl⟩) (by assumption) ?_
                  try simp only [Act.put, List.setIfInBounds_toArray, List.set_cons_zero, List.set_cons_succ]
                  refine wpAnyH_take (i := 15) (oi := ⟨some 93, _, _, _, _, _⟩) (v := ?v15) rfl (by kernel_rfl) (by kernel_rfl) (by kernel_rfl) (fun _ _ _ h => h) (Or.inl ⟨by kernel_rfl, ?h15⟩) (by assumption) ?r15
                  case h15 => (intro w' hSw; (try dsimp only at hSw); go_simp; (try with_reducible rfl))
                  try simp only [Act.put, List.setIfInBounds_toArray, List.set_cons_zero, List.set_cons_succ]
                  refine wpAnyH_take (i := 16) (oi := ⟨some 77, _, _, _, _, _⟩) (v := ?v16) rfl (by kernel_rfl) (by kernel_rfl) (by kernel_rfl) (fun _ _ _ h => h) (Or.inl ⟨by kernel_rfl, ?h16⟩) (by assumption) ?r16
                  case h16 => (intro w' hSw; (try dsimp only at hSw); go_simp; (try with_reducible rfl))
                  try simp only [Act.put, List.setIfInBounds_toArray, List.set_cons_zero, List.set_cons_succ]
                  refine wpAnyH_done (by kernel_rfl) ?_ _
                  go_wp2_with fail
                  go_roundw
                  case rel => exact ⟨j + 1, by omega, by go_num, HNX, HX3, HB3⟩
                  case measure => simp [intOf]; omega
                · have yb : (y == d + 1) = false := by simpa using y1
                  have yn : (y != d + 1) = true := by simp [y1]
                  by_cases y2 : y = d - 1
                  · have HNX : Hid (fE B f (j + 1) = 0) := Lib.hid (by rw [fE_next HJ.out, HEE.out, if_pos (.inr (by omega))])
                    subst y2
                    have yy : ((d - 1 == d + 1) = false) := by simpa using (show ¬ d - 1 = d + 1 by omega)
                    have yy2 : ¬ d - 1 = d + 1 := by omega
                    go_wp2_with fail
                    go_region_held3 (fun v => v.cell? ⟨D, 1, none⟩ = some (.int .i64 (d - 1)) ∧ v.cell? ⟨w.heap.size, 0, none⟩ = some (.int .i64 B) ∧ v.cell? ⟨w.heap.size, 1, none⟩ = some (.int .i64 E) ∧ v.cell? ⟨w.heap.size, 2, none⟩ = some (.slice (some ⟨b, off, none⟩) n c)) (go_keep)
                      (first
                      | (go_at_call 31; refine (rold_any B E (some ⟨b, off, none⟩) n c f j _ ?_ (by omega) HN.out).mono ?_; exact HLX.out; rintro e v3 ⟨rfl, hbl⟩; rw [HO.out]; have hb3 : Below wc.heap.size wc v3 := ⟨hbl.os, hbl.tape, hbl.output, hbl.size, hbl.block⟩; have HP3 := Lib.hid (HPX.out.below hb3 HPX.out.lt); have HX3 := Lib.hid (HXX.out.below hb3 HXX.out.lt); have HB3 := Lib.hid (HBX.out.trans (hb3.mono HBX.out.size)); have HL3 : Hid (LRd v3 v3.heap.size (some ⟨b, off, none⟩) n f) := Lib.hid ((HRW.out.below HB3.out).mono HB3.out.size); obtain ⟨tt0, tt1, tt2⟩ := HX3.out.cells; obtain ⟨pp0, pp1, _, _⟩ := HP3.out.cells; clear hbl hb3 t0 t1 t2 p0 p1 HPX HXX HBX HLX)
                      | (go_at_call 31; refine (rold_any B E (some ⟨b, off, none⟩) n c f j _ ?_ (by omega) HN.out).mono ?_; exact HL3.out; rintro e v4 ⟨rfl, hbl⟩; rw [HO.out]; have hb4 : Below v3.heap.size v3 v4 := ⟨hbl.os, hbl.tape, hbl.output, hbl.size, hbl.block⟩; have HP4 := Lib.hid (HP3.out.below hb4 HP3.out.lt); have HX4 := Lib.hid (HX3.out.below hb4 HX3.out.lt); have HB4 := Lib.hid (HB3.out.trans (hb4.mono HB3.out.size)); obtain ⟨t0, t1, t2⟩ := HX4.out.cells; obtain ⟨p0, p1, _, _⟩ := HP4.out.cells; clear hbl hb4 tt0 tt1 tt2 pp0 pp1))
                    go_wp2_with fail
                    go_roundw
                    case rel => exact ⟨j + 1, by omega, by go_num, HNX, HX4, HB4⟩
                    case measure => simp [intOf]; omega
                  · have HEN : Hid (fE B f n = 3) := Lib.hid (by
                      have h : entE B f j = 3 := by rw [HEE.out, if_neg (by omega)]
                      rw [fE_end HJ.out hlt (by rw [h]; decide), h])
                    have yb2 : (y == d - 1) = false := by simpa using y2
                    have yn2 : (y != d - 1) = true := by simp [y2]
                    go_wp2_with fail
                    go_region_held3 (fun v => v.cell? ⟨D, 1, none⟩ = some (.int .i64 y) ∧ v.cell? ⟨w.heap.size, 0, none⟩ = some (.int .i64 B) ∧ v.cell? ⟨w.heap.size, 1, none⟩ = some (.int .i64 E) ∧ v.cell? ⟨w.heap.size, 2, none⟩ = some (.slice (some ⟨b, off, none⟩) n c)) (go_keep)
                      (first
                      | (go_at_call 31; refine (rold_any B E (some ⟨b, off, none⟩) n c f j _ ?_ (by omega) HN.out).mono ?_; exact HLX.out; rintro e v3 ⟨rfl, hbl⟩; rw [HO.out]; have hb3 : Below wc.heap.size wc v3 := ⟨hbl.os, hbl.tape, hbl.output, hbl.size, hbl.block⟩; have HP3 := Lib.hid (HPX.out.below hb3 HPX.out.lt); have HX3 := Lib.hid (HXX.out.below hb3 HXX.out.lt); have HB3 := Lib.hid (HBX.out.trans (hb3.mono HBX.out.size)); have HL3 : Hid (LRd v3 v3.heap.size (some ⟨b, off, none⟩) n f) := Lib.hid ((HRW.out.below HB3.out).mono HB3.out.size); obtain ⟨tt0, tt1, tt2⟩ := HX3.out.cells; obtain ⟨pp0, pp1, _, _⟩ := HP3.out.cells; clear hbl hb3 t0 t1 t2 p0 p1 HPX HXX HBX HLX)
                      | (go_at_call 31; refine (rold_any B E (some ⟨b, off, none⟩) n c f j _ ?_ (by omega) HN.out).mono ?_; exact HL3.out; rintro e v4 ⟨rfl, hbl⟩; rw [HO.out]; have hb4 : Below v3.heap.size v3 v4 := ⟨hbl.os, hbl.tape, hbl.output, hbl.size, hbl.block⟩; have HP4 := Lib.hid (HP3.out.below hb4 HP3.out.lt); have HX4 := Lib.hid (HX3.out.below hb4 HX3.out.lt); have HB4 := Lib.hid (HB3.out.trans (hb4.mono HB3.out.size)); obtain ⟨t0, t1, t2⟩ := HX4.out.cells; obtain ⟨p0, p1, _, _⟩ := HP4.out.cells; clear hbl hb4 tt0 tt1 tt2 pp0 pp1))
                    go_wp2_with fail
                    go_ret
                    exact ⟨ret1 (HC.out.trans HEN.out).symm, HB4.out⟩
              · have HEN : Hid (fE B f n = 12) := Lib.hid (by
                  have h : entE B f j = 12 := by
                    unfold entE; rw [HX.out, HG.out, if_neg (by decide), if_pos (by have := of_decide_eq_true HOR.out; rw [HX.out] at this; exact this)]
                  rw [fE_end HJ.out hlt (by rw [h]; decide), h])
                go_wp2_with fail
                go_ret
                exact ⟨ret1 (HC.out.trans HEN.out).symm, HBX.out⟩
        · obtain rfl : j = n := by omega
          have hji : ¬ (j : Int) < j := by omega
          obtain ⟨t0, t1, t2⟩ := XR.out.cells
          go_wp2_with fail
          go_ret
          exact ⟨ret1 (HC.out.trans HJ.out).symm, HB.out⟩

theorem rchk_any (B E : Int) (a : Option Addr) (n c : Nat) (f : Nat → Int × Int) (w : World) (hr : LRd w w.heap.size a n f) :
    Calls Tryz.prog 13 #[.agg #[.int .i64 B, .int .i64 E, .slice a n c]] w fun e w' => e = .returned (.int .i64 (chkL B E f n)) ∧ Below w.heap.size w w' := by
  by_cases h : 64 < n
  · refine (rchk_long B E a n c f w h).mono ?_
    exact fun e w' h => h
  · by_cases hb : (-1000 ≤ B ∧ B ≤ 1000) ∧ (-8000000000 ≤ E ∧ E ≤ 8000000000)
    · exact rchk_loop B E a n c f w hr (by omega) hb.1 hb.2
    · refine (rchk_head B E a n c f w (by omega) hb).mono ?_
      exact fun e w' h => h
end Go.Proofs.YtegpajdahanhfaaGreatDoor
