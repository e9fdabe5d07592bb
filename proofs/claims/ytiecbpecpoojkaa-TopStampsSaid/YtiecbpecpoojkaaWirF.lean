/- Contracts of layer 2: the program's reader. -/
import Derived.Test.YtiecbpecpoojkaaWirE
namespace Go.Proofs.Ytiecbpecpoojkaa
open Go.RowKit Wi

/-- Block g is a reader of the program's with these bytes left and this error. -/
def PRd (w : World) (g : Nat) (l : List Int) (err : Int) : Prop :=
  ∃ A n c, w.heap[g]? = some (.cells #[.slice A n c, .int .i64 err] 51 (0, 0)) ∧ BReads w g A n l ∧ n ≤ c ∧ c ≤ 9223372036854775807 ∧ (A = none → c = 0)

theorem two_cells {w : World} {g : Nat} {x y : Value} {t : TypeId} (h : w.heap[g]? = some (.cells #[x, y] t (0, 0))) : w.cell? ⟨g, 0, none⟩ = some x ∧ w.cell? ⟨g, 1, none⟩ = some y ∧ w.frozen? ⟨g, 0, none⟩ = false ∧ w.frozen? ⟨g, 1, none⟩ = false ∧ g < w.heap.size := by
  refine ⟨by simp [World.cell?, h], by simp [World.cell?, h], by simp [World.frozen?, h], by simp [World.frozen?, h], ?_⟩
  rcases Nat.lt_or_ge g w.heap.size with hlt | hge
  · exact hlt
  · rw [Array.getElem?_eq_none hge] at h; cases h
theorem two_set0 {w : World} {g : Nat} {x y : Value} {t : TypeId} (h : w.heap[g]? = some (.cells #[x, y] t (0, 0))) (u : Value) : (w.setCell ⟨g, 0, none⟩ u).heap[g]? = some (.cells #[u, y] t (0, 0)) := by
  simp [World.setCell, Array.getElem?_modify, h]
theorem two_set1 {w : World} {g : Nat} {x y : Value} {t : TypeId} (h : w.heap[g]? = some (.cells #[x, y] t (0, 0))) (u : Value) : (w.setCell ⟨g, 1, none⟩ u).heap[g]? = some (.cells #[x, u] t (0, 0)) := by
  simp [World.setCell, Array.getElem?_modify, h]
theorem grownBy_setCell (w : World) (g i : Nat) (u : Value) : w.grownBy (w.setCell ⟨g, i, none⟩ u) (some g) :=
  ⟨rfl, rfl, rfl, by simp [World.setCell], fun k _ hne => Below.heap_setCell w ⟨g, i, none⟩ u k (fun e => hne (by rw [e]))⟩
theorem BReads.setCell {w : World} {B : Nat} {A : Option Addr} {n : Nat} {l : List Int} (h : BReads w B A n l) {p : Addr} (hB : B ≤ p.block) (u : Value) : BReads (w.setCell p u) B A n l :=
  h.keep fun q hq => World.cell?_setCell_other w p q u (fun e => by subst e; omega)
theorem BReads.tail {w : World} {B : Nat} {b off n c k : Nat} {l : List Int} (h : BReads w B (some ⟨b, off, none⟩) n l) (hk : k ≤ n) (hc : n ≤ c) :
    BReads w B (if c = k then some ⟨b, off, none⟩ else some ⟨b, off + k, none⟩) (n - k) (l.drop k) := by
  refine ⟨by rw [List.length_drop, h.1], h.2.1.drop k, fun hp => ?_⟩
  obtain ⟨b', o', e, hb, hcell⟩ := h.2.2 (by omega)
  injection e with e
  injection e with e1 e2
  subst e1 e2
  rw [if_neg (by omega)]
  refine ⟨b, off + k, rfl, hb, fun i hi => ?_⟩
  rw [Nat.add_assoc, hcell (k + i) (by omega), List.getD_eq_getElem?_getD, List.getD_eq_getElem?_getD, List.getElem?_drop]

theorem perr_any (g : Nat) (l : List Int) (err : Int) (w : World) (h : PRd w g l err) :
    Calls Try.prog 26 #[.pointer (some ⟨g, 0, none⟩)] w fun e w' => e = .returned (.int .i64 err) ∧ w = w' := by
  obtain ⟨A, n, c, hh, _⟩ := h
  obtain ⟨c0, c1, f0, f1, _⟩ := two_cells hh
  clear hh
  go_enter Try.func26, Try.ntmps26
  go_wp2_with fail
  go_ret
  exact ⟨rfl, rfl⟩

/-- What a reader does with a number's size: the number, what is left, the error. -/
def Wi.numV (l : List Int) (err size : Int) : Int := if err = 0 then getV l 0 size else 0
def Wi.numL (l : List Int) (err size : Int) : List Int := if err = 0 ∧ getE l.length 0 size = 0 then l.drop size.toNat else l
def Wi.numE (l : List Int) (err size : Int) : Int := if err = 0 then getE l.length 0 size else err

set_option maxRecDepth 100000 in
theorem pnumber_any (g : Nat) (l : List Int) (err size : Int) (w : World) (h : PRd w g l err) :
    Calls Try.prog 23 #[.pointer (some ⟨g, 0, none⟩), .int .i64 size] w fun e w' =>
      e = .returned (.tuple #[.int .u64 (numV l err size), .bool (decide (numE l err size = 0))]) ∧ PRd w' g (numL l err size) (numE l err size) ∧ w.grownBy w' (some g) := by
  have h' := h
  obtain ⟨A, n, c, hh, hr, hnc, hcm, hA0⟩ := h
  obtain ⟨c0, c1, f0, f1, hg⟩ := two_cells hh
  have hl := hr.1
  by_cases he : err = 0
  · subst he
    have E1 : numV l 0 size = getV l 0 size := if_pos rfl
    have E2 : numE l 0 size = getE n 0 size := by unfold numE; rw [if_pos rfl, hl]
    by_cases hz : getE n 0 size = 0
    · have E3 : numL l 0 size = l.drop size.toNat := by unfold numL; rw [if_pos ⟨rfl, by rw [hl]; exact hz⟩]
      rw [E1, E2, E3, hz]
      have hz2 : ¬(size < 1 ∨ 8 < size) := fun h => by unfold getE at hz; rw [if_pos h] at hz; exact absurd hz (by decide)
      have hz3 : ¬((0 : Int) < 0 ∨ (n : Int) - 0 < size) := fun h => by unfold getE at hz; rw [if_neg hz2, if_pos h] at hz; exact absurd hz (by decide)
      obtain ⟨s, rfl⟩ := Int.eq_ofNat_of_zero_le (by omega : 0 ≤ size)
      rw [Int.toNat_natCast]
      have k1 : 1 ≤ s := by omega
      have k2 : s ≤ 8 := by omega
      have k3 : s ≤ n := by omega
      obtain ⟨b, off, rfl, hb, _⟩ := hr.2.2 (by omega)
      have Hz := Lib.hid hz
      have HH := Lib.hid hh
      have HP := Lib.hid h'
      clear hh h' E1 E2 E3 hl hz hz2 hz3
      have ht := hr.tail k3 hnc
      by_cases hcs : c = s
      · rw [if_pos hcs] at ht
        have HT := Lib.hid ht
        clear ht
        obtain rfl : s = c := hcs.symm
        obtain rfl : s = n := by omega
        rw [Nat.sub_self] at HT
        go_enter Try.func23, Try.ntmps23
        go_wp2_with fail
        refine (perr_any g l 0 _ HP.out).mono ?_
        rintro e w' ⟨rfl, rfl⟩
        go_wp2_with fail
        refine (get_any (some ⟨b, off, none⟩) s s l 0 s _ g hr (by omega) (by decide) (by decide)).mono ?_
        rintro e w' ⟨rfl, rfl⟩
        rw [Hz.out]
        go_wp2_with fail
        go_ret2
        exact ⟨rfl, ⟨_, 0, 0, two_set0 HH.out _, HT.out.setCell (Nat.le_refl _) _, by omega, by omega, fun e => by cases e⟩, grownBy_setCell _ _ _ _⟩
      · rw [if_neg hcs] at ht
        have HT := Lib.hid ht
        clear ht
        go_enter Try.func23, Try.ntmps23
        go_wp2_with fail
        refine (perr_any g l 0 _ HP.out).mono ?_
        rintro e w' ⟨rfl, rfl⟩
        go_wp2_with fail
        refine (get_any (some ⟨b, off, none⟩) n c l 0 s _ g hr (by omega) (by decide) (by decide)).mono ?_
        rintro e w' ⟨rfl, rfl⟩
        rw [Hz.out]
        go_wp2_with fail
        go_ret2
        exact ⟨rfl, ⟨_, n - s, c - s, two_set0 HH.out _, HT.out.setCell (Nat.le_refl _) _, by omega, by omega, fun e => by cases e⟩, grownBy_setCell _ _ _ _⟩
    · have E3 : numL l 0 size = l := by unfold numL; rw [if_neg (by rw [hl]; exact fun h => hz h.2)]
      have Z : getV l 0 size = 0 := by unfold getV; rw [hl, if_neg hz]
      rw [E1, E2, E3, Z]
      have hd := Lib.hid (decide_eq_false hz)
      have hz' : (getE n 0 size == 0) = false := by simpa using hz
      have HH := Lib.hid hh
      have HZ := Lib.hid Z
      have HP := Lib.hid h'
      clear hh h' E1 E2 E3 Z hl
      go_enter Try.func23, Try.ntmps23
      go_wp2_with fail
      refine (perr_any g l 0 _ HP.out).mono ?_
      rintro e w' ⟨rfl, rfl⟩
      go_wp2_with fail
      refine (get_any A n c l 0 size _ g hr (by omega) (by decide) (by decide)).mono ?_
      rintro e w' ⟨rfl, rfl⟩
      rw [HZ.out]
      go_wp2_with fail
      go_ret2
      exact ⟨by rw [hd.out]; rfl, ⟨A, n, c, two_set1 HH.out _, hr.setCell (Nat.le_refl _) _, hnc, hcm, hA0⟩, grownBy_setCell _ _ _ _⟩
  · have E1 : numV l err size = 0 := if_neg he
    have E2 : numE l err size = err := if_neg he
    have E3 : numL l err size = l := if_neg (fun h => he h.1)
    rw [E1, E2, E3]
    have he' : (err == 0) = false := by simpa using he
    have hd := Lib.hid (decide_eq_false he)
    have HP := Lib.hid h'
    clear hh h' E1 E2 E3 hl c0 c1 f0 f1 hr
    go_enter Try.func23, Try.ntmps23
    go_wp2_with fail
    refine (perr_any g l err _ HP.out).mono ?_
    rintro e w' ⟨rfl, rfl⟩
    go_wp2_with fail
    go_ret2
    exact ⟨by rw [hd.out]; rfl, HP.out, World.grownBy.refl _ _⟩
end Go.Proofs.Ytiecbpecpoojkaa
