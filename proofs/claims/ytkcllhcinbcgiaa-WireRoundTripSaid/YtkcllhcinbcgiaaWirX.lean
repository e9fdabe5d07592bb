/- The walk of WireReads. -/
import Derived.Test.YtkcllhcinbcgiaaWirW
import Derived.Test.YtkcllhcinbcgiaaWirT
import Derived.Deep.RegionHeld3
namespace Go.Proofs.Ytkcllhcinbcgiaa
open Go.RowKit Wi Go.ChangeShapes Go.WideShapes

theorem Wi.numL_len (l : List Int) (err n : Int) : (numL l err n).length ≤ l.length := by
  unfold numL; split
  · rw [List.length_drop]; omega
  · exact Nat.le_refl _
theorem Wi.takeL_len (l : List Int) (err n : Int) : (takeL l err n).length ≤ l.length := by
  unfold takeL; split
  · rw [List.length_drop]; omega
  · exact Nat.le_refl _
theorem Wi.takeV_len (l : List Int) (err n : Int) : (takeV l err n).length ≤ l.length := by
  unfold takeV; split
  · rw [List.length_take]; omega
  · simp

theorem Wi.takeV_bytes {l : List Int} (h : Bytes l) (err n : Int) : Bytes (takeV l err n) := by
  unfold takeV; split
  · exact h.take _
  · exact fun x hx => by cases hx

set_option maxRecDepth 100000 in
theorem wireReads_walk (A : Option Addr) (n c : Nat) (l : List Int) (LA : Option Addr) (ln lc : Nat) (f : Nat → Int × Int) (w : World) (hr : BReads w w.heap.size A n l) (hA : A = none → n = 0 ∧ c = 0) (hlm : ln ≤ lc) (hlc : lc ≤ 9223372036854775807) (hf : CReads w w.heap.size LA ln f) :
    Calls Try.prog 12 #[.slice A n c, .slice LA ln lc] w fun e w' => e = .returned (.bool true) ∧ Below w.heap.size w w' := by
  by_cases hbig : 5000 < n
  · go_enter Try.func12, Try.ntmps12
    go_wp2_with fail
    refine (awake2_any _).mono ?_
    rintro e w1 ⟨rfl, hw1⟩
    go_wp2_with fail
    go_ret
    exact ⟨rfl, hw1⟩
  · have HR := Lib.hid hr
    have HF := Lib.hid hf
    have HLen := Lib.hid hr.1
    clear hr hf
    go_enter Try.func12, Try.ntmps12
    go_wp2_with fail
    refine (pnew_any A n c l _ HR.out (by omega)).mono ?_
    rintro e w1 ⟨g, rfl, hgB, hP, hw1⟩
    have HP1 := Lib.hid hP
    have hgl := hP.lt
    clear hP
    go_wp2_with fail
    refine (rnew_any A n c l _ ((HR.out.keep fun p hp => hw1.cell hp).more hw1.size) hA (by omega)).mono ?_
    rintro e w2 ⟨g2, rfl, hgB2, hQ, hw2⟩
    have HQ2 := Lib.hid (hQ g hgl)
    have HP2 := Lib.hid (HP1.out.below hw2)
    have hg2 : g < g2 := by omega
    have hW2 : Below w.heap.size w w2 := hw1.trans (hw2.mono hw1.size)
    clear hQ HP1 hw1 hw2
    go_wp2_with fail
    refine (pleft_any g l 0 _ HP2.out).mono ?_
    rintro e w' ⟨rfl, rfl⟩
    rw [HLen.out]
    go_wp2_with fail
    refine (perr_any g l 0 _ HP2.out).mono ?_
    rintro e w' ⟨rfl, rfl⟩
    go_wp2_with fail
    refine (first_any LA ln lc _ (by omega) hlm).mono ?_
    rintro e w' ⟨rfl, rfl⟩
    obtain ⟨z, hz⟩ : ∃ z, min ln 200 = z := ⟨_, rfl⟩
    have hzl : z ≤ ln := by omega
    have hz200 : z ≤ 200 := by omega
    rw [hz]
    clear hz
    go_wp2_with fail
    go_loopw [35] (fun i wr => ∃ (k : Nat) (L : List Int) (E : Int), k ≤ z ∧ i = .int .i64 k ∧ Hid (PRd wr g L E) ∧ Hid (RRd wr g2 g L E) ∧ L.length ≤ 5000 ∧ Below w.heap.size w wr) (fun i _ => z - (intOf i).toNat)
    case atStart => exact ⟨0, l, 0, by omega, rfl, HP2, HQ2, by rw [HLen.out]; omega, hW2⟩
    case round =>
      clear hW2 HP2 HQ2
      obtain ⟨k, L, E, hk, rfl, HP4, HQ4, hlen, hW4⟩ := hrel
      by_cases hlt : k < z
      · obtain ⟨b, off, rfl, hbB, hcc⟩ := (HF.out.below hW4) (by omega)
        obtain ⟨q1, q2⟩ := hcc k (by omega)
        obtain ⟨y, hy⟩ : ∃ y, (f k).1 = y := ⟨_, rfl⟩
        obtain ⟨x, hx⟩ : ∃ x, (f k).2 = x := ⟨_, rfl⟩
        rw [hy] at q1
        rw [hx] at q2
        clear hx hy hcc
        have hgs : g2 < wr.heap.size := HQ4.out.lt
        have hby : Bytes L := by obtain ⟨_, _, _, _, hr, _⟩ := HP4.out; exact hr.2.1
        have HP5 := Lib.hid (HP4.out.below ((Below.refl wr.heap.size wr).alloc (Nat.le_refl _) (.cells #[.int .i64 y, .int .i64 x] 51)))
        have HQ5 := Lib.hid (HQ4.out.below ((Below.refl wr.heap.size wr).alloc (Nat.le_refl _) (.cells #[.int .i64 y, .int .i64 x] 51)))
        have HX5 : Hid (Box (wr.alloc (.cells #[.int .i64 y, .int .i64 x] 51)) wr.heap.size y x) := Lib.hid (heap_alloc_new wr _)
        have hW5 : Below w.heap.size w (wr.alloc (.cells #[.int .i64 y, .int .i64 x] 51)) := hW4.alloc hW4.size _
        have x51 := (two_cells HX5.out).2.1
        have x50 := (two_cells HX5.out).1
        clear HP4 HQ4 hW4
        by_cases hy0 : y = 0
        · subst hy0
          have hlen1 : (numL L E x).length ≤ 5000 := Nat.le_trans (numL_len L E x) hlen
          go_wp2_with fail
          go_region_held3 (fun w' => w'.cell? ⟨wr.heap.size, 1, none⟩ = some (.int .i64 x)) (go_keep)
            (first
              | (go_at_call 51; refine (puint_any g L E x _ ?_).mono ?_; exact HP5.out; rintro e va ⟨rfl, hP, hg0⟩; have hg : (wr.alloc (.cells #[.int .i64 0, .int .i64 x] 51)).grownBy va (some g) := ⟨hg0.os, hg0.tape, hg0.output, hg0.size, hg0.block⟩; clear hg0; have HPa := Lib.hid hP; have HQa := Lib.hid (HQ5.out.other hg (by omega)); have HXa := Lib.hid (HX5.out.grown hg (by omega)); have hWa : Below w.heap.size w va := hW5.grown hg hW5.size (fun k hk => by injection hk with hk; omega); clear hP hg HP5 HQ5 hW5; obtain ⟨_, xa1, _, _, _⟩ := two_cells HXa.out; clear x51)
              | (go_at_call 52; refine (ruint_any g2 g L E x _ ?_ (by omega)).mono ?_; exact HQa.out; rintro e vb ⟨rfl, hP, hg0⟩; have hg : va.grownBy vb (some g2) := ⟨hg0.os, hg0.tape, hg0.output, hg0.size, hg0.block⟩; clear hg0; have HXb := Lib.hid (HXa.out.grown hg (by omega)); have HQb := Lib.hid hP; have HPb := Lib.hid (HPa.out.other hg (by omega)); have hWb : Below w.heap.size w vb := hWa.grown hg hWa.size (fun k hk => by injection hk with hk; omega); clear hP hg HPa HQa hWa; obtain ⟨_, xb1, _, _, _⟩ := two_cells HXb.out; clear xa1))
          go_wp2_with fail
          refine (pleft_any g (numL L E x) (numE L E x) _ HPb.out).mono ?_
          rintro e w' ⟨rfl, rfl⟩
          go_wp2_with fail
          refine (rleft_any g2 g (numL L E x) (numE L E x) _ HQb.out).mono ?_
          rintro e w' ⟨rfl, rfl⟩
          go_wp2_with fail
          refine (perr_any g (numL L E x) (numE L E x) _ HPb.out).mono ?_
          rintro e w' ⟨rfl, rfl⟩
          go_wp2_with fail
          refine (rerr_any g2 g (numL L E x) (numE L E x) _ HQb.out).mono ?_
          rintro e w' ⟨rfl, rfl⟩
          go_wp2_with fail
          go_roundw
          case rel => exact ⟨k + 1, (numL L E x), (numE L E x), by omega, by go_num, HPb, HQb, hlen1, hWb⟩
          case measure => simp [intOf]; omega
        · have by0 : (y == 0) = false := by simpa using hy0
          by_cases hy1 : y = 1
          · subst hy1
            have hlen1 : (numL L E x).length ≤ 5000 := Nat.le_trans (numL_len L E x) hlen
            go_wp2_with fail
            go_region_held3 (fun w' => w'.cell? ⟨wr.heap.size, 1, none⟩ = some (.int .i64 x)) (go_keep)
              (first
                | (go_at_call 53; refine (pint_any g L E x _ ?_).mono ?_; exact HP5.out; rintro e va ⟨rfl, hP, hg0⟩; have hg : (wr.alloc (.cells #[.int .i64 1, .int .i64 x] 51)).grownBy va (some g) := ⟨hg0.os, hg0.tape, hg0.output, hg0.size, hg0.block⟩; clear hg0; have HPa := Lib.hid hP; have HQa := Lib.hid (HQ5.out.other hg (by omega)); have HXa := Lib.hid (HX5.out.grown hg (by omega)); have hWa : Below w.heap.size w va := hW5.grown hg hW5.size (fun k hk => by injection hk with hk; omega); clear hP hg HP5 HQ5 hW5; obtain ⟨_, xa1, _, _, _⟩ := two_cells HXa.out; clear x51)
                | (go_at_call 54; refine (rint_any g2 g L E x _ ?_ (by omega)).mono ?_; exact HQa.out; rintro e vb ⟨rfl, hP, hg0⟩; have hg : va.grownBy vb (some g2) := ⟨hg0.os, hg0.tape, hg0.output, hg0.size, hg0.block⟩; clear hg0; have HXb := Lib.hid (HXa.out.grown hg (by omega)); have HQb := Lib.hid hP; have HPb := Lib.hid (HPa.out.other hg (by omega)); have hWb : Below w.heap.size w vb := hWa.grown hg hWa.size (fun k hk => by injection hk with hk; omega); clear hP hg HPa HQa hWa; obtain ⟨_, xb1, _, _, _⟩ := two_cells HXb.out; clear xa1))
            go_wp2_with fail
            refine (pleft_any g (numL L E x) (numE L E x) _ HPb.out).mono ?_
            rintro e w' ⟨rfl, rfl⟩
            go_wp2_with fail
            refine (rleft_any g2 g (numL L E x) (numE L E x) _ HQb.out).mono ?_
            rintro e w' ⟨rfl, rfl⟩
            go_wp2_with fail
            refine (perr_any g (numL L E x) (numE L E x) _ HPb.out).mono ?_
            rintro e w' ⟨rfl, rfl⟩
            go_wp2_with fail
            refine (rerr_any g2 g (numL L E x) (numE L E x) _ HQb.out).mono ?_
            rintro e w' ⟨rfl, rfl⟩
            go_wp2_with fail
            go_roundw
            case rel => exact ⟨k + 1, (numL L E x), (numE L E x), by omega, by go_num, HPb, HQb, hlen1, hWb⟩
            case measure => simp [intOf]; omega
          · have by1 : (y == 1) = false := by simpa using hy1
            by_cases hy2 : y = 2
            · subst hy2
              have hlen1 : (takeL L E x).length ≤ 5000 := Nat.le_trans (takeL_len L E x) hlen
              go_wp2_with fail
              go_region_held3 (fun w' => w'.cell? ⟨wr.heap.size, 1, none⟩ = some (.int .i64 x)) (go_keep)
                (first
                  | (go_at_call 55; refine (pbytes_any g L E x _ ?_ (by omega)).mono ?_; exact HP5.out; rintro e va ⟨D, rfl, hD, hDB0, hP, hg0⟩; have hDB : wr.heap.size + 1 ≤ D := (by have h : (wr.alloc (.cells #[.int .i64 2, .int .i64 x] 51)).heap.size ≤ D := hDB0; simp at h; omega); have hg : (wr.alloc (.cells #[.int .i64 2, .int .i64 x] 51)).grownBy va (some g) := ⟨hg0.os, hg0.tape, hg0.output, hg0.size, hg0.block⟩; clear hg0 hDB0; have HPa := Lib.hid hP; have HQa := Lib.hid (HQ5.out.other hg (by omega)); have HXa := Lib.hid (HX5.out.grown hg (by omega)); have hWa : Below w.heap.size w va := hW5.grown hg hW5.size (fun k hk => by injection hk with hk; omega); clear hP hg HP5 HQ5 hW5; have HD := Lib.hid hD; clear hD; obtain ⟨_, xa1, _, _, _⟩ := two_cells HXa.out; clear x51)
                  | (go_at_call 56; refine (rbytes_any g2 g L E x _ ?_ (by omega)).mono ?_; exact HQa.out; rintro e vb ⟨A2, c2, rfl, hr2, hc2, hcm2, hP, hg0⟩; have hg : va.grownBy vb (some g2) := ⟨hg0.os, hg0.tape, hg0.output, hg0.size, hg0.block⟩; clear hg0; have hDb : BBlk vb D (takeV L E x) := (hg.block D HD.out.lt (fun e => by injection e with e; omega)).trans HD.out; have hDv := hDb.reads (takeV_bytes hby E x) (Nat.lt_of_lt_of_le HD.out.lt hg.size); have HDv := Lib.hid hDv; have HR2 := Lib.hid hr2; have HXb := Lib.hid (HXa.out.grown hg (by omega)); have HQb := Lib.hid hP; have HPb := Lib.hid (HPa.out.other hg (by omega)); have hWb : Below w.heap.size w vb := hWa.grown hg hWa.size (fun k hk => by injection hk with hk; omega); clear hP hg HPa HQa hWa; obtain ⟨_, xb1, _, _, _⟩ := two_cells HXb.out; clear xa1 hDv hr2 hDb)
                  | (go_at_call 43; refine (equal_any _ _ _ _ _ _ (takeV L E x) (takeV L E x) _ _ HDv.out HR2.out (by omega) (by omega)).mono ?_; rintro e vc ⟨rfl, nd, hnd⟩; have HPc := Lib.hid (show PRd vc g (takeL L E x) (takeE L E x) by rw [hnd]; exact HPb.out); have HQc := Lib.hid (show RRd vc g2 g (takeL L E x) (takeE L E x) by rw [hnd]; exact HQb.out); have hWc : Below w.heap.size w vc := (by rw [hnd]; exact ⟨hWb.os, hWb.tape, hWb.output, hWb.size, hWb.block⟩); have xc1 : vc.cell? ⟨wr.heap.size, 1, none⟩ = some (.int .i64 x) := (by rw [hnd]; exact xb1); clear hnd HPb HQb hWb xb1; have HPb := HPc; have HQb := HQc; have hWb := hWc; clear HPc HQc hWc))
              go_wp2_with fail
              refine (pleft_any g (takeL L E x) (takeE L E x) _ HPb.out).mono ?_
              rintro e w' ⟨rfl, rfl⟩
              go_wp2_with fail
              refine (rleft_any g2 g (takeL L E x) (takeE L E x) _ HQb.out).mono ?_
              rintro e w' ⟨rfl, rfl⟩
              go_wp2_with fail
              refine (perr_any g (takeL L E x) (takeE L E x) _ HPb.out).mono ?_
              rintro e w' ⟨rfl, rfl⟩
              go_wp2_with fail
              refine (rerr_any g2 g (takeL L E x) (takeE L E x) _ HQb.out).mono ?_
              rintro e w' ⟨rfl, rfl⟩
              go_wp2_with fail
              go_roundw
              case rel => exact ⟨k + 1, (takeL L E x), (takeE L E x), by omega, by go_num, HPb, HQb, hlen1, hWb⟩
              case measure => simp [intOf]; omega
            · have by2 : (y == 2) = false := by simpa using hy2
              by_cases hy3 : y = 3
              · subst hy3
                have hlen1 : (takeL L E x).length ≤ 5000 := Nat.le_trans (takeL_len L E x) hlen
                go_wp2_with fail
                refine (pskip_any g L E x _ HP5.out).mono ?_
                rintro e va ⟨rfl, hP, hg⟩
                have HPa := Lib.hid hP
                have HQa := Lib.hid (HQ5.out.other hg (by omega))
                have HXa := Lib.hid (HX5.out.grown hg (by omega))
                have hWa : Below w.heap.size w va := hW5.grown hg hW5.size (fun k hk => by injection hk with hk; omega)
                clear hP hg HP5 HQ5 hW5
                obtain ⟨xa0, xa1, _, _, _⟩ := two_cells HXa.out
                clear x51
                go_wp2_with fail
                refine (rskip_any g2 g L E x _ HQa.out (by omega)).mono ?_
                rintro e vb ⟨rfl, hP, hg⟩
                have HQb := Lib.hid hP
                have HPb := Lib.hid (HPa.out.other hg (by omega))
                have hWb : Below w.heap.size w vb := hWa.grown hg hWa.size (fun k hk => by injection hk with hk; omega)
                clear hP hg HPa HQa hWa
                go_wp2_with fail
                refine (pleft_any g (takeL L E x) (takeE L E x) _ HPb.out).mono ?_
                rintro e w' ⟨rfl, rfl⟩
                go_wp2_with fail
                refine (rleft_any g2 g (takeL L E x) (takeE L E x) _ HQb.out).mono ?_
                rintro e w' ⟨rfl, rfl⟩
                go_wp2_with fail
                refine (perr_any g (takeL L E x) (takeE L E x) _ HPb.out).mono ?_
                rintro e w' ⟨rfl, rfl⟩
                go_wp2_with fail
                refine (rerr_any g2 g (takeL L E x) (takeE L E x) _ HQb.out).mono ?_
                rintro e w' ⟨rfl, rfl⟩
                go_wp2_with fail
                go_roundw
                case rel => exact ⟨k + 1, (takeL L E x), (takeE L E x), by omega, by go_num, HPb, HQb, hlen1, hWb⟩
                case measure => simp [intOf]; omega
              · have by3 : (y == 3) = false := by simpa using hy3
                have hlen1 : L.length ≤ 5000 := hlen
                go_wp2_with fail
                have HPb := HP5
                have HQb := HQ5
                have hWb := hW5
                refine (pleft_any g L E _ HPb.out).mono ?_
                rintro e w' ⟨rfl, rfl⟩
                go_wp2_with fail
                refine (rleft_any g2 g L E _ HQb.out).mono ?_
                rintro e w' ⟨rfl, rfl⟩
                go_wp2_with fail
                refine (perr_any g L E _ HPb.out).mono ?_
                rintro e w' ⟨rfl, rfl⟩
                go_wp2_with fail
                refine (rerr_any g2 g L E _ HQb.out).mono ?_
                rintro e w' ⟨rfl, rfl⟩
                go_wp2_with fail
                go_roundw
                case rel => exact ⟨k + 1, L, E, by omega, by go_num, HPb, HQb, hlen1, hWb⟩
                case measure => simp [intOf]; omega
      · obtain rfl : k = z := by omega
        go_wp2_with fail
        refine (awake2_any _).mono ?_
        rintro e w8 ⟨rfl, hw8⟩
        go_wp2_with fail
        go_ret
        exact ⟨rfl, hW4.trans (hw8.mono hW4.size)⟩
end Go.Proofs.Ytkcllhcinbcgiaa
