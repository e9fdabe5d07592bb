/- Contracts of layer 2: the specification's Append, slices.Clone. -/
import Derived.Test.YtemflgjfoappaaaDoorWirC
import Derived.Laws.AppendOwnNone
namespace Go.Proofs.YtemflgjfoappaaaDoor
open Go.RowKit Wi

theorem empty_own (w : World) : (w.alloc (.cells #[] 5)).ownsRow w.heap.size 5 1 (.slice (some ⟨w.heap.size, 0, none⟩) 0 0) 0 [] :=
  World.ownsRow_made w #[] 0 (Nat.le_refl _) (Nat.zero_le _) rfl
theorem cells_add {w : World} {b off n : Nat} {l : List Int} (hl : l.length = n) (hc : ∀ i, i < n → w.cell? ⟨b, off + i, none⟩ = some (.int .u8 (l.getD i 0))) :
    ∀ j u, (l.map (Value.int .u8))[j]? = some u → w.cell? ((⟨b, off, none⟩ : Addr).add j) = some u := by
  intro j v hj
  rw [List.getElem?_map] at hj
  rcases hx : l[j]? with _ | x
  · rw [hx] at hj; cases hj
  · rw [hx] at hj
    injection hj with hj
    have hlt : j < n := by
      rw [← hl]
      rcases Nat.lt_or_ge j l.length with hlt | hge
      · exact hlt
      · rw [List.getElem?_eq_none hge] at hx; cases hx
    rw [Go.WideShapes.add_plain, hc j hlt, List.getD_eq_getElem?_getD, hx, ← hj]
    rfl
theorem BReads.alloc {w : World} {B : Nat} {A : Option Addr} {n : Nat} {l : List Int} (h : BReads w B A n l) (hB : B ≤ w.heap.size) (o : Obj) : BReads (w.alloc o) B A n l := h.keep fun p hp => World.cell?_alloc_lt w o p (by omega)
theorem BReads.add {w : World} {B : Nat} {ad : Addr} {n : Nat} {l : List Int} (h : BReads w B (some ad) n l) : ∀ j u, (l.map (Value.int .u8))[j]? = some u → w.cell? (ad.add j) = some u := by
  intro j u hj
  have hn : 0 < n := by
    rw [← h.1]
    rcases Nat.eq_zero_or_pos l.length with h0 | h0
    · rw [List.eq_nil_of_length_eq_zero h0] at hj; simp at hj
    · exact h0
  obtain ⟨b, off, e, _, hc⟩ := h.2.2 hn
  injection e with e
  subst e
  exact cells_add h.1 hc j u hj

theorem fits_any (v size : Int) (w : World) (h0 : 1 ≤ size) (h1 : size ≤ 8) (v0 : 0 ≤ v) (v1 : v ≤ 18446744073709551615) :
    Calls Tryd.prog 45 #[.int .u64 v, .int .i64 size] w fun e w' => e = .returned (.bool (decide (v / 2 ^ (8 * size.toNat) = 0))) ∧ w = w' := by
  obtain ⟨s, rfl⟩ := Int.eq_ofNat_of_zero_le (by omega : 0 ≤ size)
  rw [Int.toNat_natCast]
  by_cases h8 : s = 8
  · subst h8
    have hd := Lib.hid (decide_eq_true (show v / 2 ^ (8 * 8) = 0 by rw [show (2 : Int) ^ (8 * 8) = 18446744073709551616 from by decide]; omega))
    go_enter Tryd.func45, Tryd.ntmps45
    go_wp2_with fail
    go_ret
    exact ⟨by rw [hd.out]; rfl, rfl⟩
  · have h8' : ((s : Int) == 8) = false := by simp; omega
    by_cases c : v / 2 ^ (8 * s) = 0
    · have hd := Lib.hid (decide_eq_true c)
      go_enter Tryd.func45, Tryd.ntmps45
      go_wp2_with fail
      go_ret
      exact ⟨by rw [hd.out]; rfl, rfl⟩
    · have hd := Lib.hid (decide_eq_false c)
      have c' : (v / 2 ^ (8 * s) == 0) = false := by simpa using c
      go_enter Tryd.func45, Tryd.ntmps45
      go_wp2_with fail
      go_ret
      exact ⟨by rw [hd.out]; rfl, rfl⟩

set_option maxRecDepth 100000 in
theorem rappend_some (ad : Addr) (n c : Nat) (l : List Int) (v : Int) (s : Nat) (w : World) (hr : BReads w w.heap.size (some ad) n l) (hm : n ≤ 140737488351232) (v0 : 0 ≤ v) (v1 : v ≤ 18446744073709551615)
    (h1 : 1 ≤ s) (h2 : s ≤ 8) (h3 : v / 2 ^ (8 * s) = 0) :
    Calls Tryd.prog 32 #[.slice (some ad) n c, .int .u64 v, .int .i64 s] w fun e w' =>
      ∃ r, e = .returned (.tuple #[r, .int .i64 0]) ∧ w'.ownsRow w.heap.size 5 1 r (n + s) ((l ++ beB v s).map (Value.int .u8)) ∧ Below w.heap.size w w' := by
  obtain ⟨i0, hi0, hz0, hz1, hz2⟩ := info_parts info_u8
  have hl := Lib.hid (show (l.map (Value.int .u8)).length = n * 1 by rw [List.length_map, hr.1, Nat.mul_one])
  have ha := Lib.hid ((hr.alloc (Nat.le_refl _) (.cells #[] 5)).add)
  have hd := Lib.hid (decide_eq_true (show v / 2 ^ (8 * (s : Int).toNat) = 0 by rw [Int.toNat_natCast]; exact h3))
  clear hr h3
  have g1 : ¬ ((s : Int) < 1) := by omega
  have g2 : ¬ ((8 : Int) < s) := by omega
  go_enter Tryd.func32, Tryd.ntmps32
  go_wp2_with fail
  refine (fits_any v s _ (by omega) (by omega) v0 v1).mono ?_
  rintro e w' ⟨rfl, rfl⟩
  rw [hd.out]
  clear v1
  go_wp2_with (first
    | (at_builtin; refine wpList_append_own _ rfl (.tmp 20) (.tmp 21) _ rfl w.heap.size 5 i0 (.int .u8 0) 1 1 Tryd.underlying37 hi0 hz0 hz1 hz2 rfl (by decide) _ 0 [] rfl (empty_own w) ad n c (l.map (Value.int .u8)) rfl hl.out ha.out (oneCell_u8 l) (by unfold maxLen; omega) (by omega) (by simp) ?_; intro v1 w1 hown1 hgr1 _))
  rw [Nat.zero_add, List.nil_append] at hown1
  have hgr2 : (w.alloc (.cells #[] 5)).grownBy w1 (some w.heap.size) := hgr1
  have hw1 : Below w.heap.size w w1 := ((Below.refl _ _).alloc (Nat.le_refl _) _).grown hgr2 (by simp) (fun k hk => by injection hk with hk; omega)
  have Ho1 := Lib.hid hown1
  clear hgr1 hgr2 hown1 hl ha
  go_wp2_with fail
  go_loopw [8, 9] (fun r i wr => ∃ (j : Nat) (P : List Int) (I : Int), i = .int .i64 I ∧ Hid (I = (j : Int) - 1 ∧ j ≤ s ∧ P.length + j = s ∧ P ++ beB v j = beB v s) ∧ Hid (wr.ownsRow w.heap.size 5 1 r (n + (s - j)) ((l ++ P).map (Value.int .u8))) ∧ Below w.heap.size w wr) (fun _ i _ => (intOf i + 1).toNat)
  case atStart => exact ⟨s, [], (s : Int) - 1, rfl, Lib.hid ⟨rfl, by omega, by simp, by simp⟩, by rw [Nat.sub_self, Nat.add_zero, List.append_nil]; exact Ho1, hw1⟩
  case round =>
    clear Ho1 hw1
    obtain ⟨j, P, I, rfl, hj, hown, hw⟩ := hrel
    cases j with
    | zero =>
      obtain ⟨rfl, _, e2, e3⟩ := hj.out
      rw [show beB v 0 = [] from rfl, List.append_nil] at e3
      subst e3
      clear hj
      go_wp2_with fail
      go_ret2
      exact ⟨_, rfl, hown.out, hw⟩
    | succ m =>
      obtain ⟨e0, m1, e2, e3⟩ := hj.out
      obtain rfl : I = (m : Int) := by omega
      have E := Lib.hid (And.intro e2 e3)
      clear hj e0 e2 e3
      have hsz := hw.size
      go_wp2_with (first
        | (at_builtin; refine wpList_append_own _ rfl (.tmp 29) (.tmp 35) _ rfl w.heap.size 5 i0 (.int .u8 0) 1 1 Tryd.underlying37 hi0 hz0 hz1 hz2 rfl (by decide) _ (n + (s - (m + 1))) ((l ++ P).map (Value.int .u8)) rfl (hown.out.alloc _) ⟨wr.heap.size, 0, none⟩ 1 1 [.int .u8 (v / 2 ^ (8 * m) % 256)] rfl rfl (cell_one_new _ _ _) (by intro u hu; simp at hu; subst hu; rfl) (by unfold maxLen; omega) (by omega) (by simp; omega) ?_; intro r' w' hown' hgr' _))
      have hB : Below w.heap.size w w' := (hw.alloc hw.size _).grown hgr' (by simp; omega) (fun k hk => (hown.out.lt k hk).1)
      have hx : w'.ownsRow w.heap.size 5 1 r' (n + (s - m)) ((l ++ (P ++ [byteAt v m])).map (Value.int .u8)) := by
        rw [show n + (s - m) = n + (s - (m + 1)) + 1 from by omega]
        simpa [byteAt] using hown'
      have HX := Lib.hid hx
      obtain ⟨e2, e3⟩ := E.out
      have hne : Hid ((m : Int) - 1 = (m : Int) - 1 ∧ m ≤ s ∧ (P ++ [byteAt v m]).length + m = s ∧ (P ++ [byteAt v m]) ++ beB v m = beB v s) :=
        Lib.hid ⟨rfl, by omega, by simp; omega, by rw [← e3]; simp [beB]⟩
      clear hown' hgr' hx hown hw e2 e3 E hsz
      go_wp2_with fail
      go_roundw
      case rel => exact ⟨m, _, _, rfl, hne, HX, hB⟩
      case measure => simp [intOf]
end Go.Proofs.YtemflgjfoappaaaDoor
