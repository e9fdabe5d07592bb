/- The walk of WireApart. -/
import Derived.Test.YtkcllhcinbcgiabWirP
import Derived.Test.YtkcllhcinbcgiabWirS
import Derived.Test.YtkcllhcinbcgiabWirD
import Derived.Test.YtkcllhcinbcgiabWirE
import Derived.IntWalk
import Derived.Maps.AppendAt
import Derived.Deep.RegionHeld3
namespace Go.Proofs.Ytkcllhcinbcgiab
open Go.RowKit Wi

theorem clone2_any (A : Option Addr) (n c : Nat) (l : List Int) (w : World) (hr : BReads w w.heap.size A n l) (hA : A = none → n = 0 ∧ c = 0) (hm : n ≤ 140737488351232) :
    Calls Try.prog 15 #[.slice A n c] w fun e w' => ∃ v, e = .returned v ∧ w'.ownsRow w.heap.size 5 1 v n (l.map (Value.int .u8)) ∧ Below w.heap.size w w' := by
  rcases A with _ | ad
  · obtain ⟨rfl, rfl⟩ := hA rfl
    obtain rfl : l = [] := List.eq_nil_of_length_eq_zero hr.1
    refine (clone_none w).mono fun e w' h => ?_
    obtain ⟨rfl, rfl⟩ := h
    exact ⟨_, rfl, World.ownsRow_nil _ _ _ _, Below.refl _ _⟩
  · exact clone_some ad n c l w hr hm

/-- Block g holds n bytes, and can be written. -/
def UBlk (w : World) (g n : Nat) : Prop := ∃ cur, w.heap[g]? = some (.cells cur 5 (0, 0)) ∧ ∀ i, i < n → ∃ x, cur[i]? = some (.int .u8 x)
theorem UBlk.lt {w : World} {g n : Nat} (h : UBlk w g n) : g < w.heap.size := by
  obtain ⟨cur, h, _⟩ := h
  rcases Nat.lt_or_ge g w.heap.size with hlt | hge
  · exact hlt
  · rw [Array.getElem?_eq_none hge] at h; cases h
theorem UBlk.of_block {w w' : World} {g n : Nat} (h : UBlk w g n) (hb : w'.heap[g]? = w.heap[g]?) : UBlk w' g n := by
  obtain ⟨cur, h, hc⟩ := h
  exact ⟨cur, hb.trans h, hc⟩
theorem UBlk.cell {w : World} {g n : Nat} (h : UBlk w g n) {i : Nat} (hi : i < n) : ∃ x, w.cell? ⟨g, i, none⟩ = some (.int .u8 x) ∧ w.frozen? ⟨g, i, none⟩ = false := by
  obtain ⟨cur, h, hc⟩ := h
  obtain ⟨x, hx⟩ := hc i hi
  exact ⟨x, by simp [World.cell?, h, hx], by simp [World.frozen?, h]⟩
theorem UBlk.set {w : World} {g n : Nat} (h : UBlk w g n) (i : Nat) (u : Int) : UBlk (w.setCell ⟨g, i, none⟩ (.int .u8 u)) g n := by
  obtain ⟨cur, h, hc⟩ := h
  refine ⟨cur.setIfInBounds i (.int .u8 u), by simp [World.setCell, Array.getElem?_modify, h], fun j hj => ?_⟩
  obtain ⟨x, hx⟩ := hc j hj
  by_cases e : j = i
  · subst e
    have hsz : j < cur.size := by
      rcases Nat.lt_or_ge j cur.size with hlt | hge
      · exact hlt
      · rw [Array.getElem?_eq_none hge] at hx; cases hx
    exact ⟨u, by rw [Array.getElem?_setIfInBounds_self, if_pos hsz]⟩
  · exact ⟨x, by rw [Array.getElem?_setIfInBounds_ne (by omega)]; exact hx⟩
theorem grownBy_set {w wr : World} {g i : Nat} {u : Value} (h : w.grownBy wr (some g)) : w.grownBy (wr.setCell ⟨g, i, none⟩ u) (some g) :=
  ⟨h.os, h.tape, h.output, by have := h.size; simp [World.setCell] at this ⊢; omega, fun q hq hne => (Below.heap_setCell wr ⟨g, i, none⟩ u q (fun e => hne (by rw [e]))).trans (h.block q hq hne)⟩
theorem size_set (w : World) (p : Addr) (u : Value) : (w.setCell p u).heap.size = w.heap.size := by simp [World.setCell]
theorem own_ublk {w : World} {B n : Nat} {v : Value} {l : List Int} (h : w.ownsRow B 5 1 v n (l.map (Value.int .u8))) : ∃ A c g, v = .slice A n c ∧ n ≤ c ∧ c ≤ 9223372036854775807 ∧ (0 < n → A = some ⟨g, 0, none⟩ ∧ B ≤ g ∧ UBlk w g n) := by
  have hl : l.length = n := by have := h.1; rw [List.length_map, Nat.mul_one] at this; exact this
  rcases h.2 with ⟨rfl, rfl⟩ | ⟨g, cap, cur, rfl, hB, hh, hc, hm, hs, ht⟩
  · exact ⟨none, 0, 0, rfl, Nat.le_refl _, by omega, fun h => absurd h (by omega)⟩
  · unfold maxLen at hm
    refine ⟨_, cap, g, rfl, hc, by omega, fun _ => ⟨rfl, hB, cur, hh, fun i hi => ⟨l.getD i 0, ?_⟩⟩⟩
    have h1 : (l.map (Value.int .u8))[i]? = some (.int .u8 (l.getD i 0)) := by
      rw [List.getElem?_map, List.getD_eq_getElem?_getD, List.getElem?_eq_getElem (by omega)]; rfl
    rw [← ht, List.getElem?_take, if_pos (by omega), Array.getElem?_toList] at h1
    exact h1
theorem bblk_own {w : World} {B D : Nat} {l : List Int} (h : BBlk w D l) (hB : B ≤ D) (hm : l.length ≤ 140737488351232) : w.ownsRow B 5 1 (.slice (some ⟨D, 0, none⟩) l.length l.length) l.length (l.map (Value.int .u8)) :=
  ⟨by simp, .inr ⟨D, l.length, _, rfl, hB, h, Nat.le_refl _, by unfold maxLen; omega, by simp, by rw [Nat.mul_one, List.take_of_length_le (by simp)]⟩⟩
theorem below_set {w wr : World} {B g i : Nat} {u : Value} (h : Below B w wr) (hB : B ≤ g) : Below B w (wr.setCell ⟨g, i, none⟩ u) :=
  ⟨h.os, h.tape, h.output, by have := h.size; simp [World.setCell] at this ⊢; omega, fun q hq => (Below.heap_setCell wr ⟨g, i, none⟩ u q (by show q ≠ g; omega)).trans (h.block q hq)⟩

set_option maxHeartbeats 1000000 in
set_option maxRecDepth 100000 in
theorem wireApart_walk (A : Option Addr) (n c : Nat) (l : List Int) (N : Int) (w : World) (hr : BReads w w.heap.size A n l) (hA : A = none → n = 0 ∧ c = 0) (hnc : n ≤ c) (hcm : c ≤ 9223372036854775807) :
    Calls Try.prog 4 #[.slice A n c, .int .i64 N] w fun e w' => e = .returned (.bool true) ∧ Below w.heap.size w w' := by
  by_cases hbig : 5000 < n
  · go_enter Try.func4, Try.ntmps4
    go_wp2_with fail
    refine (awake2_any _).mono ?_
    rintro e w1 ⟨rfl, hw1⟩
    go_wp2_with fail
    go_ret
    exact ⟨rfl, hw1⟩
  · have HR := Lib.hid hr
    have hl := Lib.hid hr.1
    have hby := hr.2.1
    clear hr
    obtain ⟨t, ht, et⟩ := skip_tmod N n (by omega)
    go_enter Try.func4, Try.ntmps4
    go_wp2_with fail
    refine (clone2_any A n c l _ HR.out hA (by omega)).mono ?_
    rintro e w1 ⟨v, rfl, hown, hw1⟩
    obtain ⟨A1, c1, q1, _⟩ := own_reads hown hby
    obtain ⟨A1', c1', gc, e2, h2, h3, h4⟩ := own_ublk hown
    obtain ⟨q1', q2, q3⟩ := ‹BReads w1 w1.heap.size A1 n l ∧ _›
    rw [q1] at e2
    injection e2 with e2 e3 e4
    subst e2 e4 q1
    have HC := Lib.hid h4
    have HR1 := Lib.hid q1'
    clear hown h4 q1' q2 q3
    go_wp2_with fail
    refine (pnew2_any A1 n c1 l _ HR1.out (by omega)).mono ?_
    rintro e w2 ⟨g, rfl, hg1, hP, hw2, hg2, hkeep⟩
    have HU := Lib.hid (show 0 < n → A1 = some ⟨gc, 0, none⟩ ∧ w.heap.size ≤ gc ∧ gc < w1.heap.size ∧ UBlk w2 gc n from fun h => by
      obtain ⟨a, b, d⟩ := HC.out h
      exact ⟨a, b, d.lt, d.of_block (hw2.block gc d.lt)⟩)
    have hs1 := hw1.size
    have hs2 := hw2.size
    have hW2 : Below w.heap.size w w2 := hw1.trans (hw2.mono hw1.size)
    have HK := Lib.hid hkeep
    clear HC HR1 hP hw2 hw1 hkeep
    go_wp2_with fail
    go_loopw [31] (fun i wr => ∃ k : Nat, k ≤ n ∧ i = .int .i64 k ∧ Hid (∀ q, (0 < n → q ≠ gc) → wr.heap[q]? = w2.heap[q]?) ∧ Hid (0 < n → UBlk wr gc n) ∧ g < wr.heap.size ∧ Below w.heap.size w wr) (fun i _ => n - (intOf i).toNat)
    case atStart => exact ⟨0, by omega, rfl, Lib.hid fun _ _ => rfl, Lib.hid fun h => (HU.out h).2.2.2, hg2, hW2⟩
    case round =>
      obtain ⟨k, hk, rfl, HG, HUr, hgr, hWr⟩ := hrel
      by_cases hlt : k < n
      · obtain ⟨hA1, hgB, hgl, _⟩ := HU.out (by omega)
        subst hA1
        obtain ⟨x, x0, x1⟩ := (HUr.out (by omega)).cell hlt
        clear hW2
        go_wp2_with fail
        go_roundw
        case rel => exact ⟨k + 1, by omega, by go_num, Lib.hid fun q hq => (Below.heap_setCell wr ⟨gc, k, none⟩ _ q (hq (by omega))).trans (HG.out q hq), Lib.hid fun h => (HUr.out h).set _ _, by rw [size_set]; exact hgr, below_set hWr hgB⟩
        case measure => simp [intOf]; omega
      · obtain rfl : k = n := by omega
        have HP3 := Lib.hid (HK.out wr (fun q h1 h2 => HG.out q (fun h => by have := (HU.out h).2.2.1; omega)))
        have hb1 : w.heap.size ≤ g := by omega
        have hV : takeV l 0 t = l.take t := by unfold takeV; rw [if_pos (by unfold takeOk; have := hl.out; omega)]; rfl
        have hL : takeL l 0 t = l.drop t := by unfold takeL; rw [if_pos (by unfold takeOk; have := hl.out; omega)]; rfl
        have hE : takeE l 0 t = 0 := by unfold takeE; have := hl.out; rw [if_pos rfl, if_neg (by omega), if_neg (by omega)]
        have hXl : (l.take t).length = t := by have := hl.out; rw [List.length_take]; omega
        have hMl : (l.drop t).length = k - t := by have := hl.out; rw [List.length_drop]; omega
        have hXb := hby.take t
        have hMb : Bytes (l.drop t) := fun x hx => hby x (List.mem_of_mem_drop hx)
        have hV2 : takeV (l.drop t) 0 ((k - t : Nat) : Int) = l.drop t := by unfold takeV; rw [if_pos (by unfold takeOk; omega), Int.toNat_natCast, List.take_of_length_le (by omega)]
        have hL2 : takeL (l.drop t) 0 ((k - t : Nat) : Int) = [] := by unfold takeL; rw [if_pos (by unfold takeOk; omega), Int.toNat_natCast, List.drop_of_length_le (by omega)]
        have hE2 : takeE (l.drop t) 0 ((k - t : Nat) : Int) = 0 := by unfold takeE; rw [if_pos rfl, if_neg (by omega), if_neg (by omega)]
        have htail : ∀ ad, A = some ad → ∀ w', Below w.heap.size w w' → BReads w' w'.heap.size (if c = t then some ad else some (ad.add t)) (k - t) (l.drop t) := fun ad e w' h => by
          subst e
          exact ((HR.out.below h).tail' ht hnc).more h.size
        have HTL := Lib.hid htail
        obtain ⟨X, hX⟩ : ∃ X, l.take t = X := ⟨_, rfl⟩
        obtain ⟨M, hM⟩ : ∃ M, l.drop t = M := ⟨_, rfl⟩
        have HCUT := Lib.hid (show ∀ w', Below w.heap.size w w' → BReads w' w'.heap.size A t X from fun w' h => by
          have := ((HR.out.below h).cut ht).more h.size
          rwa [hX] at this)
        rw [hX] at hV hXl hXb
        rw [hM] at hL hMl hMb hV2 hL2 hE2 HTL
        have HV := Lib.hid hV
        have HL := Lib.hid hL
        have HE := Lib.hid hE
        have HXl := Lib.hid hXl
        have HMl := Lib.hid hMl
        have HV2 := Lib.hid hV2
        have HL2 := Lib.hid hL2
        have HE2 := Lib.hid hE2
        have htc : t ≤ c := by omega
        clear htail hX hM hV hL hE hXl hMl hV2 hL2 hE2 HG HU HUr HK hW2
        go_wp2_with fail
        refine (pbytes_any g l 0 t _ HP3.out (by have := hl.out; omega)).mono ?_
        rintro e w4 ⟨D, rfl, hD, hDB, hP, hg⟩
        rw [HV.out] at hD ⊢
        rw [HL.out, HE.out] at hP
        rw [HXl.out]
        have hW4 : Below w.heap.size w w4 := hWr.grown hg hWr.size (fun q hq => by injection hq with hq; omega)
        have hDr := hD.reads hXb hD.lt
        rw [HXl.out] at hDr
        have HDr := Lib.hid hDr
        have HD := Lib.hid hD
        have HP4 := Lib.hid hP
        clear hD hP hg hDr HP3
        go_wp2_with fail
        refine (equal_any _ _ _ _ _ _ X X _ _ HDr.out (HCUT.out w4 hW4) (by omega) (by omega)).mono ?_
        rintro e w5 ⟨he, nd, hnd⟩
        replace he : e = .returned (.bool true) := by rw [he]; simp
        subst he
        have HP5 := Lib.hid (show PRd w5 g M 0 by rw [hnd]; exact HP4.out)
        have hD5 : BBlk w5 D X := by rw [hnd]; exact HD.out
        have hW5 : Below w.heap.size w w5 := by rw [hnd]; exact ⟨hW4.os, hW4.tape, hW4.output, hW4.size, hW4.block⟩
        have hown5 := bblk_own hD5 (Nat.le_refl D) (by rw [HXl.out]; omega)
        rw [HXl.out] at hown5
        have HOW := Lib.hid hown5
        have hDl := hD5.lt
        clear hnd HP4 HD HDr hW4 hD5 hown5
        obtain ⟨i0, hi0, hz0, hz1, hz2⟩ := info_parts info_u8
        go_wp2_with (first
          | (at_builtin; refine wpList_append_own _ rfl (.tmp 50) (.tmp 51) _ rfl D 5 i0 (.int .u8 0) 1 1 Try.underlying22 hi0 hz0 hz1 hz2 rfl (by decide) _ t (X.map (Value.int .u8)) rfl (HOW.out.alloc _) ⟨w5.heap.size, 0, none⟩ 1 1 [.int .u8 77] rfl rfl (cell_one_new _ _ _) (by intro u hu; simp at hu; subst hu; rfl) (by unfold maxLen; omega) (by omega) (by simp; omega) ?_; intro v6 w6 hown6 hgr6 hii; clear hii; have hgr : (w5.alloc (.cells #[.int .u8 77] 5)).grownBy w6 (some D) := hgr6; have hown7 : w6.ownsRow D 5 1 v6 (t + 1) ((X ++ [77]).map (Value.int .u8)) := (by rw [List.map_append]; exact hown6); obtain ⟨Y, cy, gy, rfl, hy2, hy3, hy4⟩ := own_ublk hown7; obtain ⟨rfl, hgy, hUY⟩ := hy4 (by omega); have HP6 := Lib.hid ((HP5.out.below ((Below.refl w5.heap.size w5).alloc (Nat.le_refl _) (.cells #[.int .u8 77] 5))).other hgr (by omega)); have hW6 : Below w.heap.size w w6 := (hW5.alloc hW5.size (.cells #[.int .u8 77] 5)).grown hgr (by have := hW5.size; simp; omega) (fun q hq => by injection hq with hq; omega); have HUY := Lib.hid hUY; clear hown6 hown7 hgr6 hgr hUY hy4 HOW HP5 hW5))
        go_wp2_with fail
        go_loopw [55] (fun i wr => ∃ j : Nat, j ≤ t + 1 ∧ i = .int .i64 j ∧ Hid (PRd wr g M 0) ∧ Hid (UBlk wr gy (t + 1)) ∧ Below w.heap.size w wr) (fun i _ => t + 1 - (intOf i).toNat)
        case atStart => exact ⟨0, by omega, rfl, HP6, HUY, hW6⟩
        case round =>
          clear HP6 HUY hW6
          obtain ⟨j, hj, rfl, HP7, HU7, hW7⟩ := hrel
          by_cases hjt : j < t + 1
          · obtain ⟨x, x0, x1⟩ := HU7.out.cell hjt
            go_wp2_with fail
            go_roundw
            case rel => exact ⟨j + 1, by omega, by go_num, Lib.hid (HP7.out.other (grownBy_setCell _ gy j _) (by omega)), Lib.hid (HU7.out.set _ _), below_set hW7 (by omega)⟩
            case measure => simp [intOf]; omega
          · obtain rfl : j = t + 1 := by omega
            have hsub : IntKind.i64.wrap ((k : Int) - (t : Int)) = ((k - t : Nat) : Int) := by rw [IntWalk.i64_in _ (by omega)]; omega
            rcases A with _ | ad
            · obtain ⟨rfl, rfl⟩ := hA rfl
              obtain rfl : t = 0 := by omega
              have h1 := HMl.out
              obtain rfl : M = [] := List.eq_nil_of_length_eq_zero h1
              clear HV2 HL2 HE2 HMl h1
              have HMl := Lib.hid (show ([] : List Int).length = 0 from rfl)
              have HV2 := Lib.hid (show takeV ([] : List Int) 0 0 = [] by unfold takeV; split <;> rfl)
              have HL2 := Lib.hid (show takeL ([] : List Int) 0 0 = [] by unfold takeL; split <;> rfl)
              have HE2 := Lib.hid (show takeE ([] : List Int) 0 0 = 0 by unfold takeE; rw [if_pos rfl, if_neg (by decide), if_neg (by decide)])
              have hTL : ∀ w' : World, Below w.heap.size w w' → BReads w' w'.heap.size none 0 ([] : List Int) := fun w' h => BReads.nil
              go_wp2_with fail
              go_region_held3 (fun _ => True) (trivial)
                (first
                  | (go_at_call 11; refine (pbytes_any g ([] : List Int) 0 0 _ ?_ (by rw [HMl.out]; omega)).mono ?_; exact HP7.out; rintro e w8 ⟨D2, he, hD2, hD2B, hP, hg0⟩; rw [HV2.out, HMl.out] at he; subst he; rw [HV2.out] at hD2; rw [HL2.out, HE2.out] at hP; have hg : wr.grownBy w8 (some g) := ⟨hg0.os, hg0.tape, hg0.output, hg0.size, hg0.block⟩; have hW8 : Below w.heap.size w w8 := hW7.grown hg hW7.size (fun q hq => by injection hq with hq; omega); have HP8 := Lib.hid hP; have hR8 := hD2.reads hMb hD2.lt; rw [HMl.out] at hR8; have HR8 := Lib.hid hR8; have HT8 := Lib.hid (hTL w8 hW8); clear hP hg hg0 hD2 hD2B hR8 HP7 hW7)
                  | (go_at_call 16; refine (equal_any _ _ _ _ _ _ ([] : List Int) ([] : List Int) _ w8.heap.size ?_ ?_ (by omega) (by omega)).mono ?_; exact HR8.out; exact HT8.out; rintro e w9 ⟨he, nd2, hnd2⟩; replace he : e = .returned (.bool true) := (by rw [he]; simp); subst he; have HP9 := Lib.hid (show PRd w9 g [] 0 by rw [hnd2]; exact HP8.out); have hW9 : Below w.heap.size w w9 := (by rw [hnd2]; exact ⟨hW8.os, hW8.tape, hW8.output, hW8.size, hW8.block⟩); clear hnd2 HP8 HR8 HT8 hW8)
                  | (go_at_call 9; refine (pleft_any g [] 0 _ ?_).mono ?_; exact HP9.out; rintro e w' ⟨rfl, rfl⟩)
                  | (go_at_call 10; refine (perr_any g [] 0 _ ?_).mono ?_; exact HP9.out; rintro e w' ⟨rfl, rfl⟩)
                  | (go_at_call 6; refine (awake2_any _).mono ?_; rintro e w10 ⟨rfl, hw10⟩; have hW10 : Below w.heap.size w w10 := hW9.trans ((⟨hw10.os, hw10.tape, hw10.output, hw10.size, hw10.block⟩ : Below w9.heap.size w9 w10).mono hW9.size)))
              go_wp2_with fail
              go_ret
              exact ⟨rfl, hW10⟩
            · have HTL2 := HTL.out ad rfl
              by_cases hct : c = t
              · simp only [if_pos hct] at HTL2
                have hTL := Lib.hid HTL2
                clear HTL2 HTL
                go_wp2_with fail
                go_region_held3 (fun _ => True) (trivial)
                  (first
                    | (go_at_call 11; refine (pbytes_any g M 0 ((k - t : Nat) : Int) _ ?_ (by rw [HMl.out]; omega)).mono ?_; exact HP7.out; rintro e w8 ⟨D2, he, hD2, hD2B, hP, hg0⟩; rw [HV2.out, HMl.out] at he; subst he; rw [HV2.out] at hD2; rw [HL2.out, HE2.out] at hP; have hg : wr.grownBy w8 (some g) := ⟨hg0.os, hg0.tape, hg0.output, hg0.size, hg0.block⟩; have hW8 : Below w.heap.size w w8 := hW7.grown hg hW7.size (fun q hq => by injection hq with hq; omega); have HP8 := Lib.hid hP; have hR8 := hD2.reads hMb hD2.lt; rw [HMl.out] at hR8; have HR8 := Lib.hid hR8; have HT8 := Lib.hid (hTL.out w8 hW8); clear hP hg hg0 hD2 hD2B hR8 HP7 hW7)
                    | (go_at_call 16; refine (equal_any _ _ _ _ _ _ M M _ w8.heap.size ?_ ?_ (by omega) (by omega)).mono ?_; exact HR8.out; exact HT8.out; rintro e w9 ⟨he, nd2, hnd2⟩; replace he : e = .returned (.bool true) := (by rw [he]; simp); subst he; have HP9 := Lib.hid (show PRd w9 g [] 0 by rw [hnd2]; exact HP8.out); have hW9 : Below w.heap.size w w9 := (by rw [hnd2]; exact ⟨hW8.os, hW8.tape, hW8.output, hW8.size, hW8.block⟩); clear hnd2 HP8 HR8 HT8 hW8)
                    | (go_at_call 9; refine (pleft_any g [] 0 _ ?_).mono ?_; exact HP9.out; rintro e w' ⟨rfl, rfl⟩)
                    | (go_at_call 10; refine (perr_any g [] 0 _ ?_).mono ?_; exact HP9.out; rintro e w' ⟨rfl, rfl⟩)
                    | (go_at_call 6; refine (awake2_any _).mono ?_; rintro e w10 ⟨rfl, hw10⟩; have hW10 : Below w.heap.size w w10 := hW9.trans ((⟨hw10.os, hw10.tape, hw10.output, hw10.size, hw10.block⟩ : Below w9.heap.size w9 w10).mono hW9.size)))
                go_wp2_with fail
                go_ret
                exact ⟨rfl, hW10⟩
              · simp only [if_neg hct] at HTL2
                have hTL := Lib.hid HTL2
                clear HTL2 HTL
                go_wp2_with fail
                go_region_held3 (fun _ => True) (trivial)
                  (first
                    | (go_at_call 11; refine (pbytes_any g M 0 ((k - t : Nat) : Int) _ ?_ (by rw [HMl.out]; omega)).mono ?_; exact HP7.out; rintro e w8 ⟨D2, he, hD2, hD2B, hP, hg0⟩; rw [HV2.out, HMl.out] at he; subst he; rw [HV2.out] at hD2; rw [HL2.out, HE2.out] at hP; have hg : wr.grownBy w8 (some g) := ⟨hg0.os, hg0.tape, hg0.output, hg0.size, hg0.block⟩; have hW8 : Below w.heap.size w w8 := hW7.grown hg hW7.size (fun q hq => by injection hq with hq; omega); have HP8 := Lib.hid hP; have hR8 := hD2.reads hMb hD2.lt; rw [HMl.out] at hR8; have HR8 := Lib.hid hR8; have HT8 := Lib.hid (hTL.out w8 hW8); clear hP hg hg0 hD2 hD2B hR8 HP7 hW7)
                    | (go_at_call 16; refine (equal_any _ _ _ _ _ _ M M _ w8.heap.size ?_ ?_ (by omega) (by omega)).mono ?_; exact HR8.out; exact HT8.out; rintro e w9 ⟨he, nd2, hnd2⟩; replace he : e = .returned (.bool true) := (by rw [he]; simp); subst he; have HP9 := Lib.hid (show PRd w9 g [] 0 by rw [hnd2]; exact HP8.out); have hW9 : Below w.heap.size w w9 := (by rw [hnd2]; exact ⟨hW8.os, hW8.tape, hW8.output, hW8.size, hW8.block⟩); clear hnd2 HP8 HR8 HT8 hW8)
                    | (go_at_call 9; refine (pleft_any g [] 0 _ ?_).mono ?_; exact HP9.out; rintro e w' ⟨rfl, rfl⟩)
                    | (go_at_call 10; refine (perr_any g [] 0 _ ?_).mono ?_; exact HP9.out; rintro e w' ⟨rfl, rfl⟩)
                    | (go_at_call 6; refine (awake2_any _).mono ?_; rintro e w10 ⟨rfl, hw10⟩; have hW10 : Below w.heap.size w w10 := hW9.trans ((⟨hw10.os, hw10.tape, hw10.output, hw10.size, hw10.block⟩ : Below w9.heap.size w9 w10).mono hW9.size)))
                go_wp2_with fail
                go_ret
                exact ⟨rfl, hW10⟩
end Go.Proofs.Ytkcllhcinbcgiab
