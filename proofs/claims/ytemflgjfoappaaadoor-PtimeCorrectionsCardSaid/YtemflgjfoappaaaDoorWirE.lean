/- Contracts of layer 2: the specification's Append for nil and for errors; own rows read as bytes. -/
import Derived.Test.YtemflgjfoappaaaDoorWirD
namespace Go.Proofs.YtemflgjfoappaaaDoor
open Go.RowKit Wi

/-- An own row of bytes reads as them. -/
theorem own_reads {w : World} {B n : Nat} {v : Value} {l : List Int} (h : w.ownsRow B 5 1 v n (l.map (Value.int .u8))) (hb : Bytes l) : ∃ A c, v = .slice A n c ∧ BReads w w.heap.size A n l ∧ (A = none → n = 0 ∧ c = 0) ∧ n ≤ c ∧ c ≤ 9223372036854775807 := by
  have hl : l.length = n := by have := h.1; rw [List.length_map, Nat.mul_one] at this; exact this
  rcases h.2 with ⟨rfl, rfl⟩ | ⟨g, cap, cur, rfl, _, hh, hc, hm, hs, ht⟩
  · obtain rfl : l = [] := List.eq_nil_of_length_eq_zero hl
    exact ⟨none, 0, rfl, BReads.nil, fun _ => ⟨rfl, rfl⟩, Nat.le_refl _, by omega⟩
  · refine ⟨some ⟨g, 0, none⟩, cap, rfl, ⟨hl, hb, fun _ => ⟨g, 0, rfl, ?_, fun i hi => ?_⟩⟩, (fun e => by cases e), hc, by unfold maxLen at hm; omega⟩
    · rcases Nat.lt_or_ge g w.heap.size with hlt | hge
      · exact hlt
      · rw [Array.getElem?_eq_none hge] at hh; cases hh
    · rw [Nat.zero_add]
      have h1 : (l.map (Value.int .u8))[i]? = some (.int .u8 (l.getD i 0)) := by
        rw [List.getElem?_map, List.getD_eq_getElem?_getD, List.getElem?_eq_getElem (by omega)]; rfl
      rw [← ht, List.getElem?_take, if_pos (by omega)] at h1
      simp only [World.cell?, hh]
      simpa using h1

set_option maxRecDepth 100000 in
theorem rappend_none (v : Int) (s : Nat) (w : World) (v0 : 0 ≤ v) (v1 : v ≤ 18446744073709551615)
    (h1 : 1 ≤ s) (h2 : s ≤ 8) (h3 : v / 2 ^ (8 * s) = 0) :
    Calls Tryd.prog 32 #[.slice none 0 0, .int .u64 v, .int .i64 s] w fun e w' =>
      ∃ r, e = .returned (.tuple #[r, .int .i64 0]) ∧ w'.ownsRow w.heap.size 5 1 r s ((beB v s).map (Value.int .u8)) ∧ Below w.heap.size w w' := by
  obtain ⟨i0, hi0, hz0, hz1, hz2⟩ := info_parts info_u8
  have hd := Lib.hid (decide_eq_true (show v / 2 ^ (8 * (s : Int).toNat) = 0 by rw [Int.toNat_natCast]; exact h3))
  clear h3
  have g1 : ¬ ((s : Int) < 1) := by omega
  have g2 : ¬ ((8 : Int) < s) := by omega
  go_enter Tryd.func32, Tryd.ntmps32
  go_wp2_with fail
  refine (fits_any v s _ (by omega) (by omega) v0 v1).mono ?_
  rintro e w' ⟨rfl, rfl⟩
  rw [hd.out]
  clear v1
  have hown1 : (w.alloc (.cells #[] 5)).ownsRow w.heap.size 5 1 (.slice (some ⟨w.heap.size, 0, none⟩) 0 0) 0 (([] : List Int).map (Value.int .u8)) := empty_own w
  have hw1 : Below w.heap.size w (w.alloc (.cells #[] 5)) := (Below.refl _ _).alloc (Nat.le_refl _) _
  go_wp2_with (first
    | (at_builtin; refine wpList_append_own_none rfl (.tmp 20) (.tmp 21) _ rfl w.heap.size 5 i0 1 Tryd.underlying37 hi0 _ 0 [] rfl (empty_own w) rfl ?_))
  have Ho1 := Lib.hid hown1
  clear hown1
  go_loopw [8, 9] (fun r i wr => ∃ (j : Nat) (P : List Int) (I : Int), i = .int .i64 I ∧ Hid (I = (j : Int) - 1 ∧ j ≤ s ∧ P.length + j = s ∧ P ++ beB v j = beB v s) ∧ Hid (wr.ownsRow w.heap.size 5 1 r (0 + (s - j)) (([] ++ P).map (Value.int .u8))) ∧ Below w.heap.size w wr) (fun _ i _ => (intOf i + 1).toNat)
  case atStart => exact ⟨s, [], (s : Int) - 1, rfl, Lib.hid ⟨rfl, by omega, by simp, by simp⟩, by rw [Nat.sub_self]; exact Ho1, hw1⟩
  case round =>
    clear Ho1 hw1
    obtain ⟨j, P, I, rfl, hj, hown, hw⟩ := hrel
    cases j with
    | zero =>
      obtain ⟨rfl, _, e2, e3⟩ := hj.out
      rw [show beB v 0 = [] from rfl, List.append_nil] at e3
      subst e3
      clear hj
      go_wp2_with fail
      go_ret2
      exact ⟨_, rfl, by have := hown.out; rw [Nat.zero_add] at this; exact this, hw⟩
    | succ m =>
      obtain ⟨e0, m1, e2, e3⟩ := hj.out
      obtain rfl : I = (m : Int) := by omega
      have E := Lib.hid (And.intro e2 e3)
      clear hj e0 e2 e3
      have hsz := hw.size
      go_wp2_with (first
        | (at_builtin; refine wpList_append_own _ rfl (.tmp 29) (.tmp 35) _ rfl w.heap.size 5 i0 (.int .u8 0) 1 1 Tryd.underlying37 hi0 hz0 hz1 hz2 rfl (by decide) _ (0 + (s - (m + 1))) (([] ++ P).map (Value.int .u8)) rfl (hown.out.alloc _) ⟨wr.heap.size, 0, none⟩ 1 1 [.int .u8 (v / 2 ^ (8 * m) % 256)] rfl rfl (cell_one_new _ _ _) (by intro u hu; simp at hu; subst hu; rfl) (by unfold maxLen; omega) (by omega) (by simp; omega) ?_; intro r' w' hown' hgr' _))
      have hB : Below w.heap.size w w' := (hw.alloc hw.size _).grown hgr' (by simp; omega) (fun k hk => (hown.out.lt k hk).1)
      have hx : w'.ownsRow w.heap.size 5 1 r' (0 + (s - m)) (([] ++ (P ++ [byteAt v m])).map (Value.int .u8)) := by
        rw [show 0 + (s - m) = 0 + (s - (m + 1)) + 1 from by omega]
        simpa [byteAt] using hown'
      have HX := Lib.hid hx
      obtain ⟨e2, e3⟩ := E.out
      have hne : Hid ((m : Int) - 1 = (m : Int) - 1 ∧ m ≤ s ∧ (P ++ [byteAt v m]).length + m = s ∧ (P ++ [byteAt v m]) ++ beB v m = beB v s) :=
        Lib.hid ⟨rfl, by omega, by simp; omega, by rw [← e3]; simp [beB]⟩
      clear hown' hgr' hx hown hw e2 e3 E hsz
      go_wp2_with fail
      go_roundw
      case rel => exact ⟨m, _, _, rfl, hne, HX, hB⟩
      case measure => simp [intOf]

theorem rappend_no (A : Option Addr) (n c : Nat) (v size : Int) (w : World) (v0 : 0 ≤ v) (v1 : v ≤ 18446744073709551615) (he : appE v size ≠ 0) :
    Calls Tryd.prog 32 #[.slice A n c, .int .u64 v, .int .i64 size] w fun e w' => e = .returned (.tuple #[.slice none 0 0, .int .i64 (appE v size)]) ∧ w = w' := by
  by_cases c1 : size < 1
  · have ho : Hid (appE v size = 2) := Lib.hid (if_pos (.inl c1))
    clear he
    go_enter Tryd.func32, Tryd.ntmps32
    go_wp2_with fail
    go_ret2
    exact ⟨by rw [ho.out]; rfl, rfl⟩
  · by_cases c2 : 8 < size
    · have ho : Hid (appE v size = 2) := Lib.hid (if_pos (.inr c2))
      clear he
      go_enter Tryd.func32, Tryd.ntmps32
      go_wp2_with fail
      go_ret2
      exact ⟨by rw [ho.out]; rfl, rfl⟩
    · have hn : ¬(size < 1 ∨ 8 < size) := by omega
      by_cases c3 : v / 2 ^ (8 * size.toNat) = 0
      · exact absurd (by unfold appE; rw [if_neg hn, if_neg (by simpa using c3)]) he
      · have ho : Hid (appE v size = 3) := Lib.hid (by unfold appE; rw [if_neg hn, if_pos c3])
        have hd := Lib.hid (decide_eq_false c3)
        clear he hn c3
        go_enter Tryd.func32, Tryd.ntmps32
        go_wp2_with fail
        refine (fits_any v size _ (by omega) (by omega) v0 v1).mono ?_
        rintro e w' ⟨rfl, rfl⟩
        rw [hd.out]
        go_wp2_with fail
        go_ret2
        exact ⟨by rw [ho.out]; rfl, rfl⟩
end Go.Proofs.YtemflgjfoappaaaDoor
