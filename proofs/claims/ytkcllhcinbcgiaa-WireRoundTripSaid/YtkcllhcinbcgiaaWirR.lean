/- The walk of WireRoundTrip. -/
import Derived.Test.YtkcllhcinbcgiaaWirZ
import Derived.IntWalk
import Derived.Deep.RegionHeld3
namespace Go.Proofs.Ytkcllhcinbcgiaa
open Go.RowKit Wi Go.ChangeShapes Go.WideShapes

theorem BReads.off {w w' : World} {B g n : Nat} {A : Option Addr} {l : List Int} (h : BReads w B A n l) (ho : Off A g) (hg : w.grownBy w' (some g)) (hB : B ≤ w.heap.size := by exact Nat.le_refl _) : BReads w' B A n l := ⟨h.1, h.2.1, fun hn => by
  obtain ⟨b, off, e, hb, hc⟩ := h.2.2 hn
  have hbg : b ≠ g := ho _ e
  exact ⟨b, off, e, hb, fun i hi => (World.cell?_of_block (hg.block b (by omega) (fun e => by injection e with e; omega))).trans (hc i hi)⟩⟩
theorem BReads.off2 {w w' : World} {B g n : Nat} {A : Option Addr} {l : List Int} (h : BReads w B A n l) (hg : w.grownBy w' (some g)) (hBg : B ≤ g) (hB : B ≤ w.heap.size) : BReads w' B A n l := h.keep fun p hp => World.cell?_of_block (hg.block p.block (by omega) (fun e => by injection e with e; omega))
/-- What the first loop holds after k rounds. -/
def Trip1 (w wr : World) (g z k : Nat) (f : Nat → Int × Int) (A : Option Addr) (L : List Int) : Prop :=
  Hid (L = cat (fun j => fin (f j)) k) ∧ Hid (BReads wr wr.heap.size A L.length L) ∧ Hid (Off A g) ∧ Hid (0 < z → FBlk wr g z (fun j => if j < k then fin (f j) else f j)) ∧ Below w.heap.size w wr

set_option maxHeartbeats 1000000 in
set_option maxRecDepth 100000 in
theorem wireRoundTrip_small (A : Option Addr) (n c : Nat) (f : Nat → Int × Int) (w : World) (hr : FReads w w.heap.size A n f) (hA : A = none → n = 0 ∧ c = 0) (hnc : n ≤ c) (h200 : n ≤ 200) :
    Calls Try.prog 13 #[.slice A n c] w fun e w' => e = .returned (.bool true) ∧ Below w.heap.size w w' := by
  obtain ⟨z, hz⟩ : ∃ z, min n 200 = z := ⟨_, rfl⟩
  have hzl : z ≤ n := by omega
  have hz200 : z ≤ 200 := by omega
  have HZ := Lib.hid (show n = z by omega)
  have hzn : (n : Int) ≤ 200 := by omega
  have HR := Lib.hid (show FReads w w.heap.size A z f from ⟨hr.1, fun h => by
    obtain ⟨b, off, e, hb, hc⟩ := hr.2 (by omega)
    exact ⟨b, off, e, hb, fun i hi => hc i (by omega)⟩⟩)
  have HB := Lib.hid hr.1
  clear hr
  go_enter Try.func13, Try.ntmps13
  go_wp2_with fail
  refine (show Calls Try.prog 61 #[.slice A n c] _ (FClone z f w) from by rw [HZ.out]; exact fclone_any A z c f _ HR.out (fun e => by have := hA e; omega) hz200).mono ?_
  rintro e w1 ⟨A1, c1, rfl, hg, hzc, hcm, hw1⟩
  obtain ⟨g, hg⟩ : ∃ g, 0 < z → A1 = some ⟨g, 0, none⟩ ∧ w.heap.size ≤ g ∧ FBlk w1 g z f := by
    by_cases h : 0 < z
    · obtain ⟨g, h⟩ := hg h
      exact ⟨g, fun _ => h⟩
    · exact ⟨0, fun h' => absurd h' h⟩
  have HG1 := Lib.hid (show 0 < z → A1 = some ⟨g, 0, none⟩ ∧ w.heap.size ≤ g from fun h => ⟨(hg h).1, (hg h).2.1⟩)
  have HF1 := Lib.hid (show 0 < z → FBlk w1 g z f from fun h => (hg h).2.2)
  clear hg
  go_wp2_with fail
  go_loopw [3, 21] (fun bv i wr => ∃ (k : Nat) (A : Option Addr) (L : List Int), k ≤ z ∧ i = .int .i64 k ∧ bv = .slice A L.length L.length ∧ Trip1 w wr g z k f A L) (fun _ i _ => z - (intOf i).toNat)
  case atStart => exact ⟨0, none, [], by omega, rfl, rfl, Lib.hid rfl, Lib.hid BReads.nil, Lib.hid (fun a e => by cases e), HF1, hw1⟩
  case round =>
    clear HF1 hw1
    obtain ⟨k, A2, L, hk, rfl, rfl, HL, HR2, HO2, HF2, hW2⟩ := hrel
    by_cases hlt : k < z
    · obtain ⟨hA1, hgB⟩ := HG1.out (by omega)
      subst hA1
      have hF := HF2.out (by omega)
      have hgl := hF.lt
      obtain ⟨b0, b1, b2, b3⟩ := HB.out k
      obtain ⟨N, hN⟩ : ∃ N, (f k).1 = N := ⟨_, rfl⟩
      obtain ⟨S, hS⟩ : ∃ S, (f k).2 = S := ⟨_, rfl⟩
      have hcell := hF.cells hlt
      simp only [if_neg (Nat.lt_irrefl k)] at hcell
      rw [hN, hS] at hcell
      rw [hN] at b0 b1
      obtain ⟨s1, s8, et⟩ := finS_facts S
      obtain ⟨s, hs⟩ : ∃ s, finS S = s := ⟨_, rfl⟩
      rw [hs] at s1 s8 et
      obtain ⟨t, ht⟩ : ∃ t, s - 1 = t := ⟨_, rfl⟩
      rw [ht] at et
      have hst : (t : Int) + 1 = (s : Int) := by omega
      have hfk : fin (f k) = (N / 2 ^ (64 - 8 * s), (s : Int)) := by unfold fin; rw [hN, hS, hs]
      obtain ⟨q0, q1, q2, q3⟩ := shr_facts N s1 s8 b0 b1
      obtain ⟨M, hM⟩ : ∃ M, N / 2 ^ (64 - 8 * s) = M := ⟨_, rfl⟩
      rw [hM] at q0 q1 q2 q3 hfk
      have hF1 := hF.set1 hlt (s : Int)
      have hcell1 := hF1.cells hlt
      simp only [if_true, if_neg (Nat.lt_irrefl k)] at hcell1
      rw [hN] at hcell1
      have HFK := Lib.hid hfk
      have HF1 := Lib.hid hF1
      obtain ⟨x0, x1, x2, x3⟩ := hcell
      obtain ⟨y0, y1, y2, y3⟩ := hcell1
      have HQ3 := Lib.hid q3
      have hshift : (64 - 8 * (s : Int)).toNat = 64 - 8 * s := by omega
      clear hF hF1 hfk hN hS hs ht q3 HF2
      go_wp2_with fail
      obtain ⟨w6, hw6⟩ : ∃ w6, wr.setCell ⟨g, k * 2 + 1, none⟩ (.int .i64 (s : Int)) = w6 := ⟨_, rfl⟩
      rw [hw6] at y0 y1 y2 y3 HF1 ⊢
      have HW6 := Lib.hid hw6
      have m1 : IntKind.i64.wrap (8 * (s : Int)) = 8 * (s : Int) := IntWalk.i64_in _ (by omega)
      have m2 : IntKind.i64.wrap (64 - 8 * (s : Int)) = 64 - 8 * (s : Int) := IntWalk.i64_in _ (by omega)
      have m4 : (0 : Int) ≤ 64 - 8 * (s : Int) := by omega
      have m5 : (0 : Int) ≤ (k : Int) := by omega
      have m6 : (k : Int) < (z : Int) := by omega
      have m7 : (k : Int).toNat = k := by omega
      clear hw6 x0 x1 x2 x3
      go_region
      obtain ⟨w7, hw7⟩ : ∃ w7, (w6.setCell ⟨g, k * 2, none⟩ (.int .u64 M)).drew = w7 := ⟨_, rfl⟩
      rw [hw7]
      have hF7 : FBlk w7 g z (fun j => if j < k + 1 then fin (f j) else f j) := by
        have h := HF1.out.set0 hlt M
        have h2 : FBlk w7 g z _ := h.of_block (by rw [← hw7]; rfl)
        refine cast (congrArg (FBlk w7 g z) (funext fun j => ?_)) h2
        by_cases e : j = k
        · subst e
          simp only [if_true, if_pos (Nat.lt_succ_self j)]
          rw [HFK.out]
        · simp only [if_neg e]
          by_cases e2 : j < k
          · rw [if_pos e2, if_pos (by omega)]
          · rw [if_neg e2, if_neg (by omega)]
      have hcell7 := hF7.cells hlt
      simp only [if_pos (Nat.lt_succ_self k)] at hcell7
      rw [HFK.out] at hcell7
      obtain ⟨z0, z1, _, _⟩ := hcell7
      have hgr : wr.grownBy w7 (some g) := by
        rw [← hw7, ← HW6.out]
        refine ⟨rfl, rfl, rfl, by simp [World.setCell, World.drew], fun q _ hne => ?_⟩
        exact (Below.heap_setCell _ ⟨g, k * 2, none⟩ _ q (fun e => hne (by rw [e]))).trans (Below.heap_setCell _ ⟨g, k * 2 + 1, none⟩ _ q (fun e => hne (by rw [e])))
      have hs7 := hgr.size
      have HR7 := Lib.hid ((HR2.out.off HO2.out hgr).more hs7)
      have hW7 : Below w.heap.size w w7 := hW2.grown hgr hW2.size (fun q hq => by injection hq with hq; omega)
      have HF7 := Lib.hid hF7
      have hLl : L.length ≤ 1600 := by
        have := cat_len (fun j => fin (f j)) (fun i => by have := finS_facts (f i).2; unfold fin; dsimp only; omega) k
        rw [HL.out]; omega
      have hg7 := hF7.lt
      obtain ⟨D, hD⟩ : ∃ D, w7.heap.size = D := ⟨_, rfl⟩
      have hgD : g < D := by omega
      obtain ⟨m, hm⟩ : ∃ m, L.length + s = m := ⟨_, rfl⟩
      have hmi : (L.length : Int) + (s : Int) = (m : Int) := by omega
      have hmw : IntKind.i64.wrap ((L.length : Int) + (s : Int)) = (m : Int) := by rw [hmi]; exact IntWalk.i64_in _ (by omega)
      clear hF7 hgr hw7 HF1 y0 y1 y2 y3 HW6 m1 m2 m4 hshift hW2 HR2 HO2
      go_wp2_with fail
      go_region_held3 (fun w' => w'.cell? ⟨g, k * 2, none⟩ = some (.int .u64 M) ∧ w'.cell? ⟨g, k * 2 + 1, none⟩ = some (.int .i64 (s : Int))) (go_keep)
        (first
          | (go_at_call 41; refine (append_ok A2 L.length L.length L M s _ ?_ (by omega) (by omega) (by omega) HQ3.out).mono ?_; exact HR7.out; rintro e w8 ⟨he, hb8, hw8⟩; replace he : e = .returned (.tuple #[.slice (some ⟨D, 0, none⟩) m m, .int .i64 0]) := (by rw [he, ← hD, ← hm]; rfl); subst he; have hB8 : BBlk w8 D (L ++ beB M s) := (by rw [← hD]; exact hb8); have hw8' : Below D w7 w8 := (by rw [← hD]; exact ⟨hw8.os, hw8.tape, hw8.output, hw8.size, hw8.block⟩); have HB8 := Lib.hid hB8; have v0 : w8.cell? ⟨g, k * 2, none⟩ = some (.int .u64 M) := (hw8'.cell hgD).trans z0; have v1 : w8.cell? ⟨g, k * 2 + 1, none⟩ = some (.int .i64 (s : Int)) := (hw8'.cell hgD).trans z1; clear z0 z1 hb8 hB8 hw8))
      have HF8 := Lib.hid (HF7.out.of_block (hw8'.block g (by omega)))
      have hW8 : Below w.heap.size w w8 := hW7.trans (hw8'.mono (by omega))
      go_wp2_with fail
      go_roundw
      case rel =>
        refine ⟨k + 1, some ⟨D, 0, none⟩, L ++ beB M s, by omega, by go_num, by rw [List.length_append, beB_length, hm], ?_, ?_, ?_, Lib.hid (fun _ => HF8.out), hW8⟩
        · refine Lib.hid ?_
          show _ = cat (fun j => fin (f j)) k ++ beB (fin (f k)).1 (fin (f k)).2.toNat
          rw [HFK.out, ← HL.out]; rfl
        · refine Lib.hid (HB8.out.reads ?_ HB8.out.lt)
          rw [HL.out]
          exact (cat_bytes _ _).append (beB_bytes _ _)
        · refine Lib.hid fun a e => ?_
          injection e with e
          subst e
          show D ≠ g
          omega
      case measure => simp [intOf]; omega
    · obtain rfl : k = z := by omega
      obtain ⟨F, hFd⟩ : ∃ F : Nat → Int × Int, (fun j => fin (f j)) = F := ⟨_, rfl⟩
      have hFj : ∀ j, F j = fin (f j) := fun j => by rw [← hFd]
      have hFs : ∀ j, 1 ≤ (F j).2 ∧ (F j).2 ≤ 8 ∧ 0 ≤ (F j).1 ∧ (F j).1 ≤ 18446744073709551615 ∧ (F j).1 < ((256 ^ (F j).2.toNat : Nat) : Int) := fun j => by
        obtain ⟨b0, b1, _, _⟩ := HB.out j
        obtain ⟨s1, s8, _⟩ := finS_facts (f j).2
        obtain ⟨q0, q1, q2, _⟩ := shr_facts (f j).1 s1 s8 b0 b1
        rw [hFj]
        unfold fin
        dsimp only
        rw [Int.toNat_natCast]
        exact ⟨by omega, by omega, q0, q1, q2⟩
      have hFB : 0 < k → FBlk wr g k F := fun h => by
        obtain ⟨cur, h1, h2⟩ := HF2.out h
        refine ⟨cur, h1, fun i hi => ?_⟩
        have := h2 i hi
        simp only [if_pos hi] at this
        rw [← hFj] at this
        exact this
      have hLF := HL.out
      rw [hFd] at hLF
      have HFB := Lib.hid hFB
      have HFS := Lib.hid hFs
      have HLF := Lib.hid hLF
      have hLl : L.length ≤ 1600 := by
        have := cat_len F (fun i => by have := hFs i; omega) k
        rw [hLF]; omega
      clear hFB hFs hFd hFj HF2 HL hLF HB
      go_wp2_with fail
      refine (pnew_any A2 L.length L.length L _ HR2.out (by omega)).mono ?_
      rintro e w9 ⟨g2, rfl, hg2, hP, hw9⟩
      have HP9 := Lib.hid (show PRd w9 g2 (L.drop (cat F 0).length) 0 from hP)
      have HR9 := Lib.hid (HR2.out.keep fun p hp => hw9.cell hp)
      have HF9 := Lib.hid (show 0 < k → FBlk w9 g k F from fun h => (HFB.out h).of_block (hw9.block g (HFB.out h).lt))
      have hgw : 0 < k → g < wr.heap.size := fun h => (HFB.out h).lt
      have HGW := Lib.hid hgw
      obtain ⟨W, hW⟩ : ∃ W, wr.heap.size = W := ⟨_, rfl⟩
      rw [hW] at HR9 hg2 HGW
      have hW9 : Below w.heap.size w w9 := hW2.trans (hw9.mono hW2.size)
      have hs9 := hw9.size
      rw [hW] at hs9
      clear hP HR2 HFB hgw hw9 hW2 HO2
      go_wp2_with fail
      go_loopw [8, 90] (fun a i wr => ∃ j : Nat, j ≤ k ∧ i = .int .i64 j ∧ a = .int .i64 ((cat F j).length : Nat) ∧ Hid (PRd wr g2 (L.drop (cat F j).length) 0) ∧ Hid (BReads wr W A2 L.length L) ∧ Hid (0 < k → FBlk wr g k F) ∧ W ≤ wr.heap.size ∧ Below w.heap.size w wr) (fun _ i _ => k - (intOf i).toNat)
      case atStart => exact ⟨0, by omega, rfl, rfl, HP9, HR9, HF9, hs9, hW9⟩
      case round =>
        clear HP9 HR9 HF9 hW9 hs9
        obtain ⟨j, hj, rfl, rfl, HPa, HRa, HFa, hsa, hWa⟩ := hrel
        by_cases hjk : j < k
        · obtain ⟨hA1, hgB⟩ := HG1.out (by omega)
          subst hA1
          obtain ⟨c0, c1', _, _⟩ := (HFa.out (by omega)).cells hjk
          obtain ⟨s1, s8, n0, n1, n2⟩ := HFS.out j
          obtain ⟨nx, ln⟩ := cat_next F hjk
          rw [← HLF.out] at nx
          obtain ⟨M, hM⟩ : ∃ M, (F j).1 = M := ⟨_, rfl⟩
          obtain ⟨S, hS⟩ : ∃ S, (F j).2 = S := ⟨_, rfl⟩
          rw [hM, hS] at nx
          rw [hM] at c0 n0 n1 n2
          rw [hS] at c1' s1 s8 n2 ln
          obtain ⟨s, rfl⟩ := Int.eq_ofNat_of_zero_le (by omega : 0 ≤ S)
          rw [Int.toNat_natCast] at nx n2 ln
          obtain ⟨a, ha⟩ : ∃ a, (cat F j).length = a := ⟨_, rfl⟩
          rw [ha] at nx ln HPa
          rw [ha]
          have haL : a ≤ L.length := by
            obtain ⟨R, hR⟩ := cat_split F k j hj
            have := congrArg List.length hR
            rw [← HLF.out, List.length_append] at this
            omega
          obtain ⟨f1, f2, f3, f4, f5⟩ := next_facts (by omega) (by omega) n0 n2 nx haL
          have F1 := Lib.hid f1
          have F2 := Lib.hid f2
          have F3 := Lib.hid f3
          have F4 := Lib.hid f4
          have F5 := Lib.hid f5
          have LN := Lib.hid ln
          have hgw := HGW.out (by omega)
          have hadd : IntKind.i64.wrap ((a : Int) + (s : Int)) = (a : Int) + (s : Int) := IntWalk.i64_in _ (by omega)
          have HPb := Lib.hid (HPa.out.below ((Below.refl wr.heap.size wr).alloc (Nat.le_refl _) (.cells #[.int .u64 M, .int .i64 (s : Int)] 60)))
          have HRb := Lib.hid (HRa.out.alloc hsa (.cells #[.int .u64 M, .int .i64 (s : Int)] 60))
          have hx := heap_alloc_new wr (.cells #[.int .u64 M, .int .i64 (s : Int)] 60)
          have hWb : Below w.heap.size w (wr.alloc (.cells #[.int .u64 M, .int .i64 (s : Int)] 60)) := hWa.alloc hWa.size _
          have HFb := Lib.hid ((HFa.out (by omega)).of_block (Below.heap_alloc wr (.cells #[.int .u64 M, .int .i64 (s : Int)] 60) g (by omega)))
          have HX := Lib.hid hx
          obtain ⟨x0, x1, _, _, _⟩ := two_cells hx
          have hP2 := HPa.out.lt
          clear f1 f2 f3 f4 f5 nx hM hS ha HPa HRa HFa hWa hx ln
          go_wp2_with fail
          refine (get_any A2 L.length L.length L a s _ W HRb.out (by omega) (by omega) (by omega)).mono ?_
          rintro e w' ⟨rfl, rfl⟩
          rw [F4.out, F5.out]
          go_wp2_with fail
          go_region_held3 (fun w' => w'.cell? ⟨wr.heap.size, 0, none⟩ = some (.int .u64 M) ∧ w'.cell? ⟨wr.heap.size, 1, none⟩ = some (.int .i64 (s : Int))) (go_keep)
            (first
              | (go_at_call 51; refine (puint_any g2 (L.drop a) 0 s _ ?_).mono ?_; exact HPb.out; rintro e vb ⟨he, hP, hg0⟩; rw [F1.out] at he; subst he; rw [F2.out, F3.out] at hP; have hg : (wr.alloc (.cells #[.int .u64 M, .int .i64 (s : Int)] 60)).grownBy vb (some g2) := ⟨hg0.os, hg0.tape, hg0.output, hg0.size, hg0.block⟩; have HPc := Lib.hid hP; have hxc : vb.heap[wr.heap.size]? = some (.cells #[.int .u64 M, .int .i64 (s : Int)] 60 (0, 0)) := (hg.block wr.heap.size (by simp) (fun e => by injection e with e; omega)).trans HX.out; obtain ⟨v0, v1, _, _, _⟩ := two_cells hxc; have hWc : Below w.heap.size w vb := hWb.grown hg hWb.size (fun q hq => by injection hq with hq; have := hWb.size; omega); have HRc := Lib.hid (HRb.out.off2 hg hg2 (by simp; omega)); have HFc := Lib.hid (HFb.out.of_block (hg.block g (by simp; omega) (fun e => by injection e with e; omega))); have hsc : W ≤ vb.heap.size := (by have := hg.size; simp at this; omega); clear hP hg0 x0 x1 hxc hg))
          go_wp2_with fail
          go_roundw
          case rel =>
            refine ⟨j + 1, by omega, by go_num, ?_, HPc, HRc, Lib.hid (fun _ => HFc.out), hsc, hWc⟩
            rw [LN.out]
            go_num
          case measure => simp [intOf]; omega
        · obtain rfl : j = k := by omega
          have hnil : L.drop (cat F j).length = [] := by rw [← HLF.out, List.drop_length]
          rw [hnil] at HPa
          go_wp2_with fail
          refine (pleft_any g2 [] 0 _ HPa.out).mono ?_
          rintro e w' ⟨rfl, rfl⟩
          go_wp2_with fail
          refine (perr_any g2 [] 0 _ HPa.out).mono ?_
          rintro e w' ⟨rfl, rfl⟩
          go_wp2_with fail
          refine (awake2_any _).mono ?_
          rintro e w10 ⟨rfl, hw10⟩
          go_wp2_with fail
          go_ret
          exact ⟨rfl, hWa.trans (hw10.mono hWa.size)⟩
set_option maxHeartbeats 1000000 in
set_option maxRecDepth 100000 in
theorem wireRoundTrip_big (A : Option Addr) (n c : Nat) (f : Nat → Int × Int) (w : World) (hr : FReads w w.heap.size A n f) (hA : A = none → n = 0 ∧ c = 0) (hnc : n ≤ c) (hc : c ≤ 9223372036854775807) (h200 : ¬ n ≤ 200) :
    Calls Try.prog 13 #[.slice A n c] w fun e w' => e = .returned (.bool true) ∧ Below w.heap.size w w' := by
  obtain ⟨z, hz⟩ : ∃ z, min n 200 = z := ⟨_, rfl⟩
  have hzl : z ≤ n := by omega
  have hz200 : z ≤ 200 := by omega
  have HZ := Lib.hid (show 200 = z by omega)
  have hc2 : 200 ≤ c := by omega
  have HR := Lib.hid (show FReads w w.heap.size A z f from ⟨hr.1, fun h => by
    obtain ⟨b, off, e, hb, hc⟩ := hr.2 (by omega)
    exact ⟨b, off, e, hb, fun i hi => hc i (by omega)⟩⟩)
  have HB := Lib.hid hr.1
  clear hr
  go_enter Try.func13, Try.ntmps13
  go_wp2_with fail
  refine (show Calls Try.prog 61 #[.slice A 200 c] _ (FClone z f w) from by rw [HZ.out]; exact fclone_any A z c f _ HR.out (fun e => by have := hA e; omega) hz200).mono ?_
  rintro e w1 ⟨A1, c1, rfl, hg, hzc, hcm, hw1⟩
  obtain ⟨g, hg⟩ : ∃ g, 0 < z → A1 = some ⟨g, 0, none⟩ ∧ w.heap.size ≤ g ∧ FBlk w1 g z f := by
    by_cases h : 0 < z
    · obtain ⟨g, h⟩ := hg h
      exact ⟨g, fun _ => h⟩
    · exact ⟨0, fun h' => absurd h' h⟩
  have HG1 := Lib.hid (show 0 < z → A1 = some ⟨g, 0, none⟩ ∧ w.heap.size ≤ g from fun h => ⟨(hg h).1, (hg h).2.1⟩)
  have HF1 := Lib.hid (show 0 < z → FBlk w1 g z f from fun h => (hg h).2.2)
  clear hg
  go_wp2_with fail
  go_loopw [3, 21] (fun bv i wr => ∃ (k : Nat) (A : Option Addr) (L : List Int), k ≤ z ∧ i = .int .i64 k ∧ bv = .slice A L.length L.length ∧ Trip1 w wr g z k f A L) (fun _ i _ => z - (intOf i).toNat)
  case atStart => exact ⟨0, none, [], by omega, rfl, rfl, Lib.hid rfl, Lib.hid BReads.nil, Lib.hid (fun a e => by cases e), HF1, hw1⟩
  case round =>
    clear HF1 hw1
    obtain ⟨k, A2, L, hk, rfl, rfl, HL, HR2, HO2, HF2, hW2⟩ := hrel
    by_cases hlt : k < z
    · obtain ⟨hA1, hgB⟩ := HG1.out (by omega)
      subst hA1
      have hF := HF2.out (by omega)
      have hgl := hF.lt
      obtain ⟨b0, b1, b2, b3⟩ := HB.out k
      obtain ⟨N, hN⟩ : ∃ N, (f k).1 = N := ⟨_, rfl⟩
      obtain ⟨S, hS⟩ : ∃ S, (f k).2 = S := ⟨_, rfl⟩
      have hcell := hF.cells hlt
      simp only [if_neg (Nat.lt_irrefl k)] at hcell
      rw [hN, hS] at hcell
      rw [hN] at b0 b1
      obtain ⟨s1, s8, et⟩ := finS_facts S
      obtain ⟨s, hs⟩ : ∃ s, finS S = s := ⟨_, rfl⟩
      rw [hs] at s1 s8 et
      obtain ⟨t, ht⟩ : ∃ t, s - 1 = t := ⟨_, rfl⟩
      rw [ht] at et
      have hst : (t : Int) + 1 = (s : Int) := by omega
      have hfk : fin (f k) = (N / 2 ^ (64 - 8 * s), (s : Int)) := by unfold fin; rw [hN, hS, hs]
      obtain ⟨q0, q1, q2, q3⟩ := shr_facts N s1 s8 b0 b1
      obtain ⟨M, hM⟩ : ∃ M, N / 2 ^ (64 - 8 * s) = M := ⟨_, rfl⟩
      rw [hM] at q0 q1 q2 q3 hfk
      have hF1 := hF.set1 hlt (s : Int)
      have hcell1 := hF1.cells hlt
      simp only [if_true, if_neg (Nat.lt_irrefl k)] at hcell1
      rw [hN] at hcell1
      have HFK := Lib.hid hfk
      have HF1 := Lib.hid hF1
      obtain ⟨x0, x1, x2, x3⟩ := hcell
      obtain ⟨y0, y1, y2, y3⟩ := hcell1
      have HQ3 := Lib.hid q3
      have hshift : (64 - 8 * (s : Int)).toNat = 64 - 8 * s := by omega
      clear hF hF1 hfk hN hS hs ht q3 HF2
      go_wp2_with fail
      obtain ⟨w6, hw6⟩ : ∃ w6, wr.setCell ⟨g, k * 2 + 1, none⟩ (.int .i64 (s : Int)) = w6 := ⟨_, rfl⟩
      rw [hw6] at y0 y1 y2 y3 HF1 ⊢
      have HW6 := Lib.hid hw6
      have m1 : IntKind.i64.wrap (8 * (s : Int)) = 8 * (s : Int) := IntWalk.i64_in _ (by omega)
      have m2 : IntKind.i64.wrap (64 - 8 * (s : Int)) = 64 - 8 * (s : Int) := IntWalk.i64_in _ (by omega)
      have m4 : (0 : Int) ≤ 64 - 8 * (s : Int) := by omega
      have m5 : (0 : Int) ≤ (k : Int) := by omega
      have m6 : (k : Int) < (z : Int) := by omega
      have m7 : (k : Int).toNat = k := by omega
      clear hw6 x0 x1 x2 x3
      go_region
      obtain ⟨w7, hw7⟩ : ∃ w7, (w6.setCell ⟨g, k * 2, none⟩ (.int .u64 M)).drew = w7 := ⟨_, rfl⟩
      rw [hw7]
      have hF7 : FBlk w7 g z (fun j => if j < k + 1 then fin (f j) else f j) := by
        have h := HF1.out.set0 hlt M
        have h2 : FBlk w7 g z _ := h.of_block (by rw [← hw7]; rfl)
        refine cast (congrArg (FBlk w7 g z) (funext fun j => ?_)) h2
        by_cases e : j = k
        · subst e
          simp only [if_true, if_pos (Nat.lt_succ_self j)]
          rw [HFK.out]
        · simp only [if_neg e]
          by_cases e2 : j < k
          · rw [if_pos e2, if_pos (by omega)]
          · rw [if_neg e2, if_neg (by omega)]
      have hcell7 := hF7.cells hlt
      simp only [if_pos (Nat.lt_succ_self k)] at hcell7
      rw [HFK.out] at hcell7
      obtain ⟨z0, z1, _, _⟩ := hcell7
      have hgr : wr.grownBy w7 (some g) := by
        rw [← hw7, ← HW6.out]
        refine ⟨rfl, rfl, rfl, by simp [World.setCell, World.drew], fun q _ hne => ?_⟩
        exact (Below.heap_setCell _ ⟨g, k * 2, none⟩ _ q (fun e => hne (by rw [e]))).trans (Below.heap_setCell _ ⟨g, k * 2 + 1, none⟩ _ q (fun e => hne (by rw [e])))
      have hs7 := hgr.size
      have HR7 := Lib.hid ((HR2.out.off HO2.out hgr).more hs7)
      have hW7 : Below w.heap.size w w7 := hW2.grown hgr hW2.size (fun q hq => by injection hq with hq; omega)
      have HF7 := Lib.hid hF7
      have hLl : L.length ≤ 1600 := by
        have := cat_len (fun j => fin (f j)) (fun i => by have := finS_facts (f i).2; unfold fin; dsimp only; omega) k
        rw [HL.out]; omega
      have hg7 := hF7.lt
      obtain ⟨D, hD⟩ : ∃ D, w7.heap.size = D := ⟨_, rfl⟩
      have hgD : g < D := by omega
      obtain ⟨m, hm⟩ : ∃ m, L.length + s = m := ⟨_, rfl⟩
      have hmi : (L.length : Int) + (s : Int) = (m : Int) := by omega
      have hmw : IntKind.i64.wrap ((L.length : Int) + (s : Int)) = (m : Int) := by rw [hmi]; exact IntWalk.i64_in _ (by omega)
      clear hF7 hgr hw7 HF1 y0 y1 y2 y3 HW6 m1 m2 m4 hshift hW2 HR2 HO2
      go_wp2_with fail
      go_region_held3 (fun w' => w'.cell? ⟨g, k * 2, none⟩ = some (.int .u64 M) ∧ w'.cell? ⟨g, k * 2 + 1, none⟩ = some (.int .i64 (s : Int))) (go_keep)
        (first
          | (go_at_call 41; refine (append_ok A2 L.length L.length L M s _ ?_ (by omega) (by omega) (by omega) HQ3.out).mono ?_; exact HR7.out; rintro e w8 ⟨he, hb8, hw8⟩; replace he : e = .returned (.tuple #[.slice (some ⟨D, 0, none⟩) m m, .int .i64 0]) := (by rw [he, ← hD, ← hm]; rfl); subst he; have hB8 : BBlk w8 D (L ++ beB M s) := (by rw [← hD]; exact hb8); have hw8' : Below D w7 w8 := (by rw [← hD]; exact ⟨hw8.os, hw8.tape, hw8.output, hw8.size, hw8.block⟩); have HB8 := Lib.hid hB8; have v0 : w8.cell? ⟨g, k * 2, none⟩ = some (.int .u64 M) := (hw8'.cell hgD).trans z0; have v1 : w8.cell? ⟨g, k * 2 + 1, none⟩ = some (.int .i64 (s : Int)) := (hw8'.cell hgD).trans z1; clear z0 z1 hb8 hB8 hw8))
      have HF8 := Lib.hid (HF7.out.of_block (hw8'.block g (by omega)))
      have hW8 : Below w.heap.size w w8 := hW7.trans (hw8'.mono (by omega))
      go_wp2_with fail
      go_roundw
      case rel =>
        refine ⟨k + 1, some ⟨D, 0, none⟩, L ++ beB M s, by omega, by go_num, by rw [List.length_append, beB_length, hm], ?_, ?_, ?_, Lib.hid (fun _ => HF8.out), hW8⟩
        · refine Lib.hid ?_
          show _ = cat (fun j => fin (f j)) k ++ beB (fin (f k)).1 (fin (f k)).2.toNat
          rw [HFK.out, ← HL.out]; rfl
        · refine Lib.hid (HB8.out.reads ?_ HB8.out.lt)
          rw [HL.out]
          exact (cat_bytes _ _).append (beB_bytes _ _)
        · refine Lib.hid fun a e => ?_
          injection e with e
          subst e
          show D ≠ g
          omega
      case measure => simp [intOf]; omega
    · obtain rfl : k = z := by omega
      obtain ⟨F, hFd⟩ : ∃ F : Nat → Int × Int, (fun j => fin (f j)) = F := ⟨_, rfl⟩
      have hFj : ∀ j, F j = fin (f j) := fun j => by rw [← hFd]
      have hFs : ∀ j, 1 ≤ (F j).2 ∧ (F j).2 ≤ 8 ∧ 0 ≤ (F j).1 ∧ (F j).1 ≤ 18446744073709551615 ∧ (F j).1 < ((256 ^ (F j).2.toNat : Nat) : Int) := fun j => by
        obtain ⟨b0, b1, _, _⟩ := HB.out j
        obtain ⟨s1, s8, _⟩ := finS_facts (f j).2
        obtain ⟨q0, q1, q2, _⟩ := shr_facts (f j).1 s1 s8 b0 b1
        rw [hFj]
        unfold fin
        dsimp only
        rw [Int.toNat_natCast]
        exact ⟨by omega, by omega, q0, q1, q2⟩
      have hFB : 0 < k → FBlk wr g k F := fun h => by
        obtain ⟨cur, h1, h2⟩ := HF2.out h
        refine ⟨cur, h1, fun i hi => ?_⟩
        have := h2 i hi
        simp only [if_pos hi] at this
        rw [← hFj] at this
        exact this
      have hLF := HL.out
      rw [hFd] at hLF
      have HFB := Lib.hid hFB
      have HFS := Lib.hid hFs
      have HLF := Lib.hid hLF
      have hLl : L.length ≤ 1600 := by
        have := cat_len F (fun i => by have := hFs i; omega) k
        rw [hLF]; omega
      clear hFB hFs hFd hFj HF2 HL hLF HB
      go_wp2_with fail
      refine (pnew_any A2 L.length L.length L _ HR2.out (by omega)).mono ?_
      rintro e w9 ⟨g2, rfl, hg2, hP, hw9⟩
      have HP9 := Lib.hid (show PRd w9 g2 (L.drop (cat F 0).length) 0 from hP)
      have HR9 := Lib.hid (HR2.out.keep fun p hp => hw9.cell hp)
      have HF9 := Lib.hid (show 0 < k → FBlk w9 g k F from fun h => (HFB.out h).of_block (hw9.block g (HFB.out h).lt))
      have hgw : 0 < k → g < wr.heap.size := fun h => (HFB.out h).lt
      have HGW := Lib.hid hgw
      obtain ⟨W, hW⟩ : ∃ W, wr.heap.size = W := ⟨_, rfl⟩
      rw [hW] at HR9 hg2 HGW
      have hW9 : Below w.heap.size w w9 := hW2.trans (hw9.mono hW2.size)
      have hs9 := hw9.size
      rw [hW] at hs9
      clear hP HR2 HFB hgw hw9 hW2 HO2
      go_wp2_with fail
      go_loopw [8, 90] (fun a i wr => ∃ j : Nat, j ≤ k ∧ i = .int .i64 j ∧ a = .int .i64 ((cat F j).length : Nat) ∧ Hid (PRd wr g2 (L.drop (cat F j).length) 0) ∧ Hid (BReads wr W A2 L.length L) ∧ Hid (0 < k → FBlk wr g k F) ∧ W ≤ wr.heap.size ∧ Below w.heap.size w wr) (fun _ i _ => k - (intOf i).toNat)
      case atStart => exact ⟨0, by omega, rfl, rfl, HP9, HR9, HF9, hs9, hW9⟩
      case round =>
        clear HP9 HR9 HF9 hW9 hs9
        obtain ⟨j, hj, rfl, rfl, HPa, HRa, HFa, hsa, hWa⟩ := hrel
        by_cases hjk : j < k
        · obtain ⟨hA1, hgB⟩ := HG1.out (by omega)
          subst hA1
          obtain ⟨c0, c1', _, _⟩ := (HFa.out (by omega)).cells hjk
          obtain ⟨s1, s8, n0, n1, n2⟩ := HFS.out j
          obtain ⟨nx, ln⟩ := cat_next F hjk
          rw [← HLF.out] at nx
          obtain ⟨M, hM⟩ : ∃ M, (F j).1 = M := ⟨_, rfl⟩
          obtain ⟨S, hS⟩ : ∃ S, (F j).2 = S := ⟨_, rfl⟩
          rw [hM, hS] at nx
          rw [hM] at c0 n0 n1 n2
          rw [hS] at c1' s1 s8 n2 ln
          obtain ⟨s, rfl⟩ := Int.eq_ofNat_of_zero_le (by omega : 0 ≤ S)
          rw [Int.toNat_natCast] at nx n2 ln
          obtain ⟨a, ha⟩ : ∃ a, (cat F j).length = a := ⟨_, rfl⟩
          rw [ha] at nx ln HPa
          rw [ha]
          have haL : a ≤ L.length := by
            obtain ⟨R, hR⟩ := cat_split F k j hj
            have := congrArg List.length hR
            rw [← HLF.out, List.length_append] at this
            omega
          obtain ⟨f1, f2, f3, f4, f5⟩ := next_facts (by omega) (by omega) n0 n2 nx haL
          have F1 := Lib.hid f1
          have F2 := Lib.hid f2
          have F3 := Lib.hid f3
          have F4 := Lib.hid f4
          have F5 := Lib.hid f5
          have LN := Lib.hid ln
          have hgw := HGW.out (by omega)
          have hadd : IntKind.i64.wrap ((a : Int) + (s : Int)) = (a : Int) + (s : Int) := IntWalk.i64_in _ (by omega)
          have HPb := Lib.hid (HPa.out.below ((Below.refl wr.heap.size wr).alloc (Nat.le_refl _) (.cells #[.int .u64 M, .int .i64 (s : Int)] 60)))
          have HRb := Lib.hid (HRa.out.alloc hsa (.cells #[.int .u64 M, .int .i64 (s : Int)] 60))
          have hx := heap_alloc_new wr (.cells #[.int .u64 M, .int .i64 (s : Int)] 60)
          have hWb : Below w.heap.size w (wr.alloc (.cells #[.int .u64 M, .int .i64 (s : Int)] 60)) := hWa.alloc hWa.size _
          have HFb := Lib.hid ((HFa.out (by omega)).of_block (Below.heap_alloc wr (.cells #[.int .u64 M, .int .i64 (s : Int)] 60) g (by omega)))
          have HX := Lib.hid hx
          obtain ⟨x0, x1, _, _, _⟩ := two_cells hx
          have hP2 := HPa.out.lt
          clear f1 f2 f3 f4 f5 nx hM hS ha HPa HRa HFa hWa hx ln
          go_wp2_with fail
          refine (get_any A2 L.length L.length L a s _ W HRb.out (by omega) (by omega) (by omega)).mono ?_
          rintro e w' ⟨rfl, rfl⟩
          rw [F4.out, F5.out]
          go_wp2_with fail
          go_region_held3 (fun w' => w'.cell? ⟨wr.heap.size, 0, none⟩ = some (.int .u64 M) ∧ w'.cell? ⟨wr.heap.size, 1, none⟩ = some (.int .i64 (s : Int))) (go_keep)
            (first
              | (go_at_call 51; refine (puint_any g2 (L.drop a) 0 s _ ?_).mono ?_; exact HPb.out; rintro e vb ⟨he, hP, hg0⟩; rw [F1.out] at he; subst he; rw [F2.out, F3.out] at hP; have hg : (wr.alloc (.cells #[.int .u64 M, .int .i64 (s : Int)] 60)).grownBy vb (some g2) := ⟨hg0.os, hg0.tape, hg0.output, hg0.size, hg0.block⟩; have HPc := Lib.hid hP; have hxc : vb.heap[wr.heap.size]? = some (.cells #[.int .u64 M, .int .i64 (s : Int)] 60 (0, 0)) := (hg.block wr.heap.size (by simp) (fun e => by injection e with e; omega)).trans HX.out; obtain ⟨v0, v1, _, _, _⟩ := two_cells hxc; have hWc : Below w.heap.size w vb := hWb.grown hg hWb.size (fun q hq => by injection hq with hq; have := hWb.size; omega); have HRc := Lib.hid (HRb.out.off2 hg hg2 (by simp; omega)); have HFc := Lib.hid (HFb.out.of_block (hg.block g (by simp; omega) (fun e => by injection e with e; omega))); have hsc : W ≤ vb.heap.size := (by have := hg.size; simp at this; omega); clear hP hg0 x0 x1 hxc hg))
          go_wp2_with fail
          go_roundw
          case rel =>
            refine ⟨j + 1, by omega, by go_num, ?_, HPc, HRc, Lib.hid (fun _ => HFc.out), hsc, hWc⟩
            rw [LN.out]
            go_num
          case measure => simp [intOf]; omega
        · obtain rfl : j = k := by omega
          have hnil : L.drop (cat F j).length = [] := by rw [← HLF.out, List.drop_length]
          rw [hnil] at HPa
          go_wp2_with fail
          refine (pleft_any g2 [] 0 _ HPa.out).mono ?_
          rintro e w' ⟨rfl, rfl⟩
          go_wp2_with fail
          refine (perr_any g2 [] 0 _ HPa.out).mono ?_
          rintro e w' ⟨rfl, rfl⟩
          go_wp2_with fail
          refine (awake2_any _).mono ?_
          rintro e w10 ⟨rfl, hw10⟩
          go_wp2_with fail
          go_ret
          exact ⟨rfl, hWa.trans (hw10.mono hWa.size)⟩

theorem wireRoundTrip_walk (A : Option Addr) (n c : Nat) (f : Nat → Int × Int) (w : World) (hr : FReads w w.heap.size A n f) (hA : A = none → n = 0 ∧ c = 0) (hnc : n ≤ c) (hc : c ≤ 9223372036854775807) :
    Calls Try.prog 13 #[.slice A n c] w fun e w' => e = .returned (.bool true) ∧ Below w.heap.size w w' := by
  by_cases h : n ≤ 200
  · exact wireRoundTrip_small A n c f w hr hA hnc h
  · exact wireRoundTrip_big A n c f w hr hA hnc hc h
end Go.Proofs.Ytkcllhcinbcgiaa
