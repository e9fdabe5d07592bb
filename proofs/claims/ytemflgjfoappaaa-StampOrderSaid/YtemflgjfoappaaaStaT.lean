/- Contracts of layer 3: the specification's Text. -/
import Derived.Test.YtemflgjfoappaaaStaS
namespace Go.Proofs.Ytemflgjfoappaaa
open Go.RowKit Fx St

theorem rdigit_any (d : Int) (w : World) (h0 : 0 ≤ d) (h1 : d ≤ 15) :
    Calls Try.prog 44 #[.int .i64 d] w fun e w' => e = .returned (.int .u8 (hx d)) ∧ w = w' := by
  by_cases h : d < 10
  · rw [show hx d = 48 + d from if_pos h]
    go_enter Try.func44, Try.ntmps44
    go_wp2
    go_ret
    exact ⟨ret1 (by omega), rfl⟩
  · rw [show hx d = 87 + d from if_neg h]
    go_enter Try.func44, Try.ntmps44
    go_wp2
    go_ret
    exact ⟨ret1 (by omega), rfl⟩

theorem St.own_cells {w : World} {B n : Nat} {v : Value} {l : List Int} (h : w.ownsRow B 5 1 v n (l.map (Value.int .u8))) (hl : l.length = n) (hn : 0 < n) : ∃ g c, v = .slice (some ⟨g, 0, none⟩) n c ∧ ∀ i, i < n → w.cell? ⟨g, i, none⟩ = some (.int .u8 (l.getD i 0)) := by
  rcases h.2 with ⟨rfl, h0⟩ | ⟨g, cap, cur, rfl, _, hh, hc, _, hs, ht⟩
  · omega
  · refine ⟨g, cap, rfl, fun i hi => ?_⟩
    have h1 : (l.map (Value.int .u8))[i]? = some (.int .u8 (l.getD i 0)) := by
      rw [List.getElem?_map, List.getD_eq_getElem?_getD, List.getElem?_eq_getElem (by omega)]; rfl
    rw [← ht, List.getElem?_take, if_pos (by omega), Array.getElem?_toList] at h1
    simp [World.cell?, hh, h1]

/-- What holds of the slice and the world after n bytes. -/
def St.Wr (w wr : World) (s : Int) (v : Value) (n : Nat) : Prop := wr.ownsRow w.heap.size 5 1 v n (((txL s).take n).map (Value.int .u8)) ∧ Below w.heap.size w wr
/-- One more byte. -/
theorem St.Wr.next {w wr w' : World} {s : Int} {v v' : Value} {n : Nat} (h : Wr w wr s v n) (hn : n < 17)
    (ho : w'.ownsRow w.heap.size 5 1 v' (n + 1) (((txL s).take n).map (Value.int .u8) ++ [.int .u8 (tx s n)])) (hg : (wr.alloc (.cells #[.int .u8 (tx s n)] 5)).grownBy w' v.ownBlock) : Wr w w' s v' (n + 1) := by
  refine ⟨?_, (h.2.alloc h.2.size _).grown hg (by have := h.2.size; simp; omega) fun k hk => (h.1.lt k hk).1⟩
  rw [txL_take s n hn, List.map_append]
  exact ho

set_option maxRecDepth 100000 in
theorem rtext_any (s : Int) (w : World) (h0 : 0 ≤ s) (h1 : s ≤ 18446744073709551615) :
    Calls Try.prog 34 #[.int .u64 s] w fun e w' => e = .returned (.string (strOfNums (txL s))) ∧ Below w.heap.size w w' := by
  obtain ⟨i0, hi0, hz0, hz1, hz2⟩ := info_parts info_u8
  go_enter Try.func34, Try.ntmps34
  go_wp2_with fail
  go_loopw [3, 4] (fun v i wr => ∃ (k n : Nat), k ≤ 16 ∧ n = (if k ≤ 8 then k else k + 1) ∧ i = .int .i64 k ∧ Hid (Wr w wr s v n)) (fun _ i _ => 16 - (intOf i).toNat)
  case atStart => exact ⟨0, 0, by omega, rfl, rfl, Lib.hid ⟨World.ownsRow_nil _ _ _ _, Below.refl _ _⟩⟩
  case round =>
    obtain ⟨k, n, hk, hn, rfl, HR⟩ := hrel
    by_cases hlt : k < 16
    · have hdg := nib_shift (s := s) (k := k) hlt h0 h1
      have nb := nib_bounds s k
      obtain ⟨D, hD⟩ : ∃ D, nib s k = D := ⟨_, rfl⟩
      rw [hD] at hdg nb
      obtain ⟨nb0, nb1⟩ := nb
      obtain ⟨c, hc⟩ : ∃ c, hx D = c := ⟨_, rfl⟩
      have HC := Lib.hid hc
      by_cases h8 : k = 8
      · subst h8
        obtain rfl : n = 8 := hn
        have hdg' : bits .and .u64 (s / 268435456) 15 = D := hdg
        clear hdg
        have ht : Hid (tx s 9 = c) := Lib.hid (by rw [← hc, ← hD]; rfl)
        clear hD hc
        have hsz := HR.out.2.size
        go_wp2_with (at_builtin; refine wpList_append_own _ rfl (.tmp 11) (.tmp 12) _ rfl w.heap.size 5 i0 (.int .u8 0) 1 1 Try.underlying52 hi0 hz0 hz1 hz2 rfl (by decide) _ 8 (((txL s).take 8).map (Value.int .u8)) rfl (HR.out.1.alloc _) ⟨wr.heap.size, 0, none⟩ 1 1 [.int .u8 46] rfl rfl (cell_one_new _ _ _) (by intro u hu; simp at hu; subst hu; rfl) (by unfold maxLen; omega) (by omega) (by simp; omega) ?_; intro r1 w1 hown1 hgr1 _; have HR1 : Hid (Wr w w1 s r1 9) := Lib.hid (HR.out.next (n := 8) (by omega) hown1 hgr1); have hsz1 := HR1.out.2.size; clear hown1 hgr1)
        go_at_call 44; refine (rdigit_any D _ nb0 nb1).mono ?_; rintro e w' ⟨rfl, rfl⟩; rw [HC.out]
        go_wp2_with (at_builtin; refine wpList_append_own _ rfl (.tmp 14) (.tmp 23) _ rfl w.heap.size 5 i0 (.int .u8 0) 1 1 Try.underlying52 hi0 hz0 hz1 hz2 rfl (by decide) _ 9 (((txL s).take 9).map (Value.int .u8)) rfl (HR1.out.1.alloc _) ⟨w1.heap.size, 0, none⟩ 1 1 [.int .u8 c] rfl rfl (cell_one_new _ _ _) (by intro u hu; simp at hu; subst hu; rfl) (by unfold maxLen; omega) (by omega) (by simp; omega) ?_; intro r2 w2 hown2 hgr2 _; have HR2 : Hid (Wr w w2 s r2 10) := Lib.hid (HR1.out.next (n := 9) (by omega) (by rw [ht.out]; exact hown2) (by rw [ht.out]; exact hgr2)); clear hown2 hgr2)
        go_roundw
        case rel => exact ⟨9, 10, by omega, rfl, rfl, HR2⟩
        case measure => simp [intOf]
      · have h8' : ((k : Int) == 8) = false := by simp; omega
        have hn' : (k < 8 ∧ n = k) ∨ (8 < k ∧ n = k + 1) := by rw [hn]; split <;> omega
        have hn8 : n ≠ 8 := by omega
        have hng : ndg n = k := by unfold ndg; split <;> omega
        have hn17 : n < 17 := by omega
        have hnn : Hid (n + 1 = if k + 1 ≤ 8 then k + 1 else k + 1 + 1) := Lib.hid (by split <;> omega)
        have ht : Hid (tx s n = c) := Lib.hid (by unfold tx; rw [if_neg hn8, hng, hD, hc])
        clear hD hc hn hn' hng
        have hsz := HR.out.2.size
        go_wp2_with (first
          | (go_at_call 44; refine (rdigit_any D _ nb0 nb1).mono ?_; rintro e w' ⟨rfl, rfl⟩; rw [HC.out])
          | (at_builtin; refine wpList_append_own _ rfl (.tmp 14) (.tmp 23) _ rfl w.heap.size 5 i0 (.int .u8 0) 1 1 Try.underlying52 hi0 hz0 hz1 hz2 rfl (by decide) _ n (((txL s).take n).map (Value.int .u8)) rfl (HR.out.1.alloc _) ⟨wr.heap.size, 0, none⟩ 1 1 [.int .u8 c] rfl rfl (cell_one_new _ _ _) (by intro u hu; simp at hu; subst hu; rfl) (by unfold maxLen; omega) (by omega) (by simp; omega) ?_; intro r2 w2 hown2 hgr2 _; have HR2 : Hid (Wr w w2 s r2 (n + 1)) := Lib.hid (HR.out.next hn17 (by rw [ht.out]; exact hown2) (by rw [ht.out]; exact hgr2)); clear hown2 hgr2))
        go_roundw
        case rel => exact ⟨k + 1, n + 1, by omega, hnn.out, by go_num, HR2⟩
        case measure => simp [intOf]; omega
    · obtain rfl : k = 16 := by omega
      obtain rfl : n = 17 := hn
      have ho := HR.out.1
      rw [List.take_of_length_le (by rw [txL_len]; exact Nat.le_refl _)] at ho
      obtain ⟨g, c, rfl, hc⟩ := own_cells ho (txL_len s) (by decide)
      have hcv := run_convert_bytes_arg (P := Try.prog) wr 52 5 Try.underlying52 Try.underlying5 g 0 17 c (txL s) (txL_len s) (fun i hi => by rw [Nat.zero_add]; exact hc i hi) 9 Try.underlying9
      clear ho hc
      go_wp2_with fail
      go_ret
      exact ⟨rfl, HR.out.2⟩
end Go.Proofs.Ytemflgjfoappaaa
