/- Contracts of layer 2: the program's reader: bytes that are taken, skipped; a new reader. -/
import Derived.Test.YtkcllhcinbcgiabWirG
namespace Go.Proofs.Ytkcllhcinbcgiab
open Go.RowKit Wi

theorem BReads.tail' {w : World} {B : Nat} {ad : Addr} {n c k : Nat} {l : List Int} (h : BReads w B (some ad) n l) (hk : k ≤ n) (hc : n ≤ c) :
    BReads w B (if c = k then some ad else some (ad.add k)) (n - k) (l.drop k) := by
  by_cases hn : n - k = 0
  · have hl : l.drop k = [] := List.drop_eq_nil_of_le (by have := h.1; omega)
    rw [hn, hl]; exact BReads.nil
  · obtain ⟨b, off, e, _, _⟩ := h.2.2 (by omega)
    injection e with e
    subst e
    rw [Go.WideShapes.add_plain]
    exact h.tail hk hc

/-- What take leaves: the value that it returns reads as what was taken. -/
def TakePost (l : List Int) (err n : Int) (g : Nat) (w : World) (e : Ending) (w' : World) : Prop :=
  ∃ A c, e = .returned (.slice A (takeV l err n).length c) ∧ BReads w' g A (takeV l err n).length (takeV l err n) ∧ (A = none → c = 0) ∧ (takeV l err n).length ≤ c ∧ c ≤ 9223372036854775807 ∧ PRd w' g (takeL l err n) (takeE l err n) ∧ w.grownBy w' (some g)

set_option maxRecDepth 100000 in
theorem ptake_any (g : Nat) (l : List Int) (err size : Int) (w : World) (h : PRd w g l err) :
    Calls Try.prog 19 #[.pointer (some ⟨g, 0, none⟩), .int .i64 size] w (TakePost l err size g w) := by
  have h' := h
  obtain ⟨A, n, c, hh, hr, hnc, hcm, hA0⟩ := h
  obtain ⟨c0, c1, f0, f1, hg⟩ := two_cells hh
  have hl := hr.1
  have HP := Lib.hid h'
  have HH := Lib.hid hh
  by_cases he : err = 0
  · subst he
    by_cases h1 : size < 0
    · have V : takeV l 0 size = [] := if_neg (by unfold takeOk; omega)
      have L : takeL l 0 size = l := if_neg (by unfold takeOk; omega)
      have X : takeE l 0 size = 2 := by unfold takeE; rw [if_pos rfl, if_pos h1]
      have P : ∀ w', PRd w' g l 2 → w.grownBy w' (some g) → TakePost l 0 size g w (.returned (.slice none 0 0)) w' := fun w' a b => by
        unfold TakePost; rw [V, L, X]
        exact ⟨none, 0, rfl, BReads.nil, fun _ => rfl, Nat.le_refl _, by omega, a, b⟩
      clear hh h' V L X hl
      go_enter Try.func19, Try.ntmps19
      go_wp2_with fail
      refine (perr_any g l 0 _ HP.out).mono ?_
      rintro e w' ⟨rfl, rfl⟩
      go_wp2_with fail
      go_ret
      exact P _ ⟨A, n, c, two_set1 HH.out _, hr.setCell (Nat.le_refl _) _, hnc, hcm, hA0⟩ (grownBy_setCell _ _ _ _)
    · by_cases h2 : (n : Int) < size
      · have V : takeV l 0 size = [] := if_neg (by unfold takeOk; omega)
        have L : takeL l 0 size = l := if_neg (by unfold takeOk; omega)
        have X : takeE l 0 size = 5 := by unfold takeE; rw [if_pos rfl, if_neg h1, if_pos (by omega)]
        have P : ∀ w', PRd w' g l 5 → w.grownBy w' (some g) → TakePost l 0 size g w (.returned (.slice none 0 0)) w' := fun w' a b => by
          unfold TakePost; rw [V, L, X]
          exact ⟨none, 0, rfl, BReads.nil, fun _ => rfl, Nat.le_refl _, by omega, a, b⟩
        clear hh h' V L X hl
        go_enter Try.func19, Try.ntmps19
        go_wp2_with fail
        refine (perr_any g l 0 _ HP.out).mono ?_
        rintro e w' ⟨rfl, rfl⟩
        go_wp2_with fail
        go_ret
        exact P _ ⟨A, n, c, two_set1 HH.out _, hr.setCell (Nat.le_refl _) _, hnc, hcm, hA0⟩ (grownBy_setCell _ _ _ _)
      · obtain ⟨k, rfl⟩ := Int.eq_ofNat_of_zero_le (by omega : 0 ≤ size)
        have hk : k ≤ n := by omega
        have V : takeV l 0 k = l.take k := by unfold takeV; rw [if_pos (by unfold takeOk; omega)]; rfl
        have L : takeL l 0 k = l.drop k := by unfold takeL; rw [if_pos (by unfold takeOk; omega)]; rfl
        have X : takeE l 0 k = 0 := by unfold takeE; rw [if_pos rfl, if_neg (by omega), if_neg (by omega)]
        have tl : (l.take k).length = k := by rw [List.length_take]; omega
        have P : ∀ w' A' c', BReads w' g A k (l.take k) → PRd w' g (l.drop k) 0 → w.grownBy w' (some g) → A' = A → c' = c → TakePost l 0 k g w (.returned (.slice A' k c')) w' := fun w' A' c' r a b e1 e2 => by
          subst e1 e2
          unfold TakePost; rw [V, L, X, tl]
          exact ⟨_, _, rfl, r, hA0, by omega, hcm, a, b⟩
        clear hh h' V L X hl
        rcases A with _ | ad
        · obtain rfl : c = 0 := hA0 rfl
          obtain rfl : n = 0 := by omega
          obtain rfl : k = 0 := by omega
          go_enter Try.func19, Try.ntmps19
          go_wp2_with fail
          refine (perr_any g l 0 _ HP.out).mono ?_
          rintro e w' ⟨rfl, rfl⟩
          go_wp2_with fail
          go_ret
          exact P _ _ _ ((hr.cut (Nat.le_refl _)).setCell (Nat.le_refl _) _) ⟨none, 0, 0, two_set0 HH.out _, by simpa using hr.setCell (Nat.le_refl _) _, by omega, by omega, fun _ => rfl⟩ (grownBy_setCell _ _ _ _) rfl rfl
        · have ht := hr.tail' hk hnc
          by_cases hcs : c = k
          · rw [if_pos hcs] at ht
            obtain rfl : k = c := hcs.symm
            obtain rfl : k = n := by omega
            rw [Nat.sub_self] at ht
            have HT := Lib.hid ht
            have HC := Lib.hid (hr.cut (Nat.le_refl k))
            clear ht hr
            go_enter Try.func19, Try.ntmps19
            go_wp2_with fail
            refine (perr_any g l 0 _ HP.out).mono ?_
            rintro e w' ⟨rfl, rfl⟩
            go_wp2_with fail
            go_ret
            exact P _ _ _ (HC.out.setCell (Nat.le_refl _) _) ⟨_, 0, 0, two_set0 HH.out _, HT.out.setCell (Nat.le_refl _) _, by omega, by omega, fun e => by cases e⟩ (grownBy_setCell _ _ _ _) rfl rfl
          · rw [if_neg hcs] at ht
            have HT := Lib.hid ht
            have HC := Lib.hid (hr.cut hk)
            clear ht hr
            go_enter Try.func19, Try.ntmps19
            go_wp2_with fail
            refine (perr_any g l 0 _ HP.out).mono ?_
            rintro e w' ⟨rfl, rfl⟩
            go_wp2_with fail
            go_ret
            exact P _ _ _ (HC.out.setCell (Nat.le_refl _) _) ⟨_, n - k, c - k, two_set0 HH.out _, HT.out.setCell (Nat.le_refl _) _, by omega, by omega, fun e => by cases e⟩ (grownBy_setCell _ _ _ _) rfl rfl
  · have V : takeV l err size = [] := if_neg (fun h => he h.1)
    have L : takeL l err size = l := if_neg (fun h => he h.1)
    have X : takeE l err size = err := if_neg he
    have P : TakePost l err size g w (.returned (.slice none 0 0)) w := by
      unfold TakePost; rw [V, L, X]
      exact ⟨none, 0, rfl, BReads.nil, fun _ => rfl, Nat.le_refl _, by omega, h', World.grownBy.refl _ _⟩
    have he' : (err == 0) = false := by simpa using he
    clear hh h' V L X hl hr c0 c1 f0 f1
    go_enter Try.func19, Try.ntmps19
    go_wp2_with fail
    refine (perr_any g l err _ HP.out).mono ?_
    rintro e w' ⟨rfl, rfl⟩
    go_wp2_with fail
    go_ret
    exact P
end Go.Proofs.Ytkcllhcinbcgiab
