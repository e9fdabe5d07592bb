/- The walks of the statements of layer 8: forks, permutations. -/
import Derived.Test.YtoofnodcdlaheaaDoorPrgG
namespace Go.Proofs.YtoofnodcdlaheaaDoor
open Go.RowKit Pr

theorem nobody_law (a b : Int) (w : World) (ht : RT w) (a0 : -9223372036854775808 ≤ a) (a1 : a ≤ 9223372036854775807) :
    Calls Tryd.prog 10 #[.int .i64 a, .int .i64 b] w fun e w' => e = .returned (.bool true) ∧ Below w.heap.size w w' := by
  have H0 := Lib.hid (one_new w 0 ht)
  clear ht
  go_enter Tryd.func10, Tryd.ntmps10
  go_wp2_with fail
  refine (pnext_nil _).mono ?_
  rintro e w1 ⟨rfl, rfl⟩
  go_wp2_with fail
  refine (pbelow_nil a _ a0 a1).mono ?_
  rintro e w1 ⟨rfl, rfl⟩
  go_wp2_with fail
  refine (prange_nil a b _).mono ?_
  rintro e w1 ⟨rfl, rfl⟩
  go_wp2_with fail
  refine (pperm_nil a _).mono ?_
  rintro e w1 ⟨rfl, rfl⟩
  go_wp2_with fail
  refine (pfork_nil _).mono ?_
  rintro e w1 ⟨rfl, rfl⟩
  go_wp2_with fail
  refine (pnext_any w.heap.size 0 0 _ H0.out.1 H0.out.2.2.1).mono ?_
  rintro e w1 ⟨rfl, hs1, hg1⟩
  have H1 := Lib.hid (H0.out.step hs1 hg1)
  clear hs1 hg1 H0
  go_wp2_with fail
  refine (pmix_any 0 0 _ H1.out.1).mono ?_
  rintro e w2 ⟨rfl, hb2⟩
  have H2 := Lib.hid (H1.out.below hb2)
  clear hb2 H1
  go_wp2_with fail
  refine (pnext_any w.heap.size 0 1 _ H2.out.1 H2.out.2.2.1).mono ?_
  rintro e w3 ⟨rfl, hs3, hg3⟩
  have H3 := Lib.hid (H2.out.step hs3 hg3)
  clear hs3 hg3 H2
  go_wp2_with fail
  refine (pmix_any 0 1 _ H3.out.1).mono ?_
  rintro e w4 ⟨rfl, hb4⟩
  have H4 := Lib.hid (H3.out.below hb4)
  clear hb4 H3
  go_wp2_with fail
  refine (awake8_any _ H4.out.1).mono ?_
  rintro e w5 ⟨rfl, hb5⟩
  have H5 := Lib.hid (H4.out.below hb5)
  clear hb5 H4
  go_wp2_with fail
  go_ret
  exact ⟨rfl, H5.out.2.1⟩

/-- A list of sources. -/
def Pr.Own (T : TypeId) (v : World) (l : List (Nat × Int × Int)) : Prop := (∀ (i : Nat) (x : Nat × Int × Int), l[i]? = some x → SB T v x.1 x.2.1 x.2.2) ∧ ∀ (i j : Nat) (x y : Nat × Int × Int), l[i]? = some x → l[j]? = some y → x.1 = y.1 → i = j
theorem Pr.Own.below {T : TypeId} {v v' : World} {l : List (Nat × Int × Int)} (h : Own T v l) (hb : Below v.heap.size v v') : Own T v' l := ⟨fun i x hx => (h.1 i x hx).below hb (h.1 i x hx).lt, h.2⟩
theorem Pr.Own.other {T : TypeId} {v v' : World} {l : List (Nat × Int × Int)} {q : Nat} (h : Own T v l) (hg : v.grownBy v' (some q)) (hq : ∀ (i : Nat) (x : Nat × Int × Int), l[i]? = some x → x.1 ≠ q) : Own T v' l := ⟨fun i x hx => (h.1 i x hx).other hg (hq i x hx), h.2⟩
theorem Pr.set_get {l : List (Nat × Int × Int)} {i j : Nat} {g : Nat} {y z x : Int × Int} {gx : Nat} (hi : l[i]? = some (g, y)) (h : (l.set i (g, z))[j]? = some (gx, x)) : ∃ x', l[j]? = some (gx, x') := by
  rw [List.getElem?_set] at h
  by_cases c : i = j
  · subst c
    rw [if_pos rfl] at h
    have hl : i < l.length := by
      rcases Nat.lt_or_ge i l.length with hlt | hge
      · exact hlt
      · rw [List.getElem?_eq_none hge] at hi; cases hi
    rw [if_pos hl] at h
    injection h with h
    injection h with h _
    exact ⟨y, by rw [hi, h]⟩
  · rw [if_neg c] at h
    exact ⟨x, h⟩
theorem Pr.Own.step {T : TypeId} {v v' : World} {l : List (Nat × Int × Int)} {i g : Nat} {s k k1 : Int} (h : Own T v l) (hi : l[i]? = some (g, s, k)) (hs : SB T v' g s k1) (hg : v.grownBy v' (some g)) : Own T v' (l.set i (g, s, k1)) := by
  refine ⟨fun j x hx => ?_, fun j j' x y hx hy e => ?_⟩
  · by_cases c : i = j
    · subst c
      rw [List.getElem?_set, if_pos rfl] at hx
      split at hx
      · injection hx with hx; subst hx; exact hs
      · cases hx
    · rw [List.getElem?_set, if_neg c] at hx
      exact (h.1 j x hx).other hg (fun e => c (h.2 i j _ x hi hx e.symm))
  · obtain ⟨gx, x⟩ := x
    obtain ⟨gy, y⟩ := y
    obtain ⟨x', hx'⟩ := set_get hi hx
    obtain ⟨y', hy'⟩ := set_get hi hy
    exact h.2 j j' _ _ hx' hy' e
theorem Pr.app_get {l : List (Nat × Int × Int)} {y x : Nat × Int × Int} {i : Nat} (h : (l ++ [y])[i]? = some x) : l[i]? = some x ∨ (i = l.length ∧ x = y) := by
  rcases Nat.lt_or_ge i l.length with hlt | hge
  · rw [List.getElem?_append_left hlt] at h; exact .inl h
  · rw [List.getElem?_append_right hge] at h
    have : i - l.length = 0 := by
      rcases Nat.eq_zero_or_pos (i - l.length) with h0 | h0
      · exact h0
      · rw [List.getElem?_eq_none (by simp; omega)] at h; cases h
    rw [this] at h
    injection h with h
    exact .inr ⟨by omega, h.symm⟩
theorem Pr.Own.push {T : TypeId} {v : World} {l : List (Nat × Int × Int)} {f : Nat} {m k : Int} (h : Own T v l) (hf : SB T v f m k) (hne : ∀ (i : Nat) (x : Nat × Int × Int), l[i]? = some x → x.1 ≠ f) : Own T v (l ++ [(f, m, k)]) := by
  refine ⟨fun i x hx => ?_, fun i j x y hx hy e => ?_⟩
  · rcases app_get hx with hx | ⟨_, rfl⟩
    · exact h.1 i x hx
    · exact hf
  · rcases app_get hx with hx | ⟨hi, rfl⟩ <;> rcases app_get hy with hy | ⟨hj, rfl⟩
    · exact h.2 i j x y hx hy e
    · exact absurd e (hne i x hx)
    · exact absurd e.symm (hne j y hy)
    · omega
/-- Sources of a call's own. -/
def Pr.Sts (w v : World) (l : List (Nat × Int × Int)) : Prop := RT v ∧ Below w.heap.size w v ∧ Own 53 v l ∧ ∀ (i : Nat) (x : Nat × Int × Int), l[i]? = some x → w.heap.size ≤ x.1
theorem Pr.Sts.get {w v : World} {l : List (Nat × Int × Int)} (h : Sts w v l) (i : Nat) {g : Nat} {s k : Int} (hi : l[i]? = some (g, s, k)) : SB 53 v g s k := h.2.2.1.1 i _ hi
theorem Pr.Sts.below {w v v' : World} {l : List (Nat × Int × Int)} (h : Sts w v l) (hb : Below v.heap.size v v') : Sts w v' l := ⟨h.1.below hb, h.2.1.trans (hb.mono h.2.1.size), h.2.2.1.below hb, h.2.2.2⟩
theorem Pr.Sts.step {w v v' : World} {l : List (Nat × Int × Int)} (h : Sts w v l) (i : Nat) {g : Nat} {s k k1 : Int} (hi : l[i]? = some (g, s, k)) (hs : SB 53 v' g s k1) (hg : v.grownBy v' (some g)) : Sts w v' (l.set i (g, s, k1)) := by
  obtain ⟨h1, h2, h3, h4⟩ := h
  have hw := h4 i _ hi
  refine ⟨h1.grown (h3.1 i _ hi) hg, h2.grown hg h2.size (fun k e => by injection e with e; subst e; exact hw), h3.step hi hs hg, fun j x hx => ?_⟩
  obtain ⟨gx, x⟩ := x
  obtain ⟨x', hx'⟩ := set_get hi hx
  exact h4 j (gx, x') hx'
theorem Pr.Sts.push {w v v' : World} {l : List (Nat × Int × Int)} {f : Nat} {m k : Int} (h : Sts w v' l) (h0 : ∀ (i : Nat) (x : Nat × Int × Int), l[i]? = some x → x.1 < v.heap.size) (hv : w.heap.size ≤ v.heap.size) (hf : SB 53 v' f m k) (hl : v.heap.size ≤ f) : Sts w v' (l ++ [(f, m, k)]) := by
  obtain ⟨h1, h2, h3, h4⟩ := h
  refine ⟨h1, h2, h3.push hf (fun i x hx e => by have := h0 i x hx; omega), fun i x hx => ?_⟩
  rcases app_get hx with hx | ⟨_, rfl⟩
  · exact h4 i x hx
  · show w.heap.size ≤ f; omega
theorem Pr.Sts.lts {w v : World} {l : List (Nat × Int × Int)} (h : Sts w v l) : ∀ (i : Nat) (x : Nat × Int × Int), l[i]? = some x → x.1 < v.heap.size := fun i x hx => (h.2.2.1.1 i x hx).lt
theorem Pr.sts_nil {w : World} (h : RT w) : Sts w w [] := ⟨h, Below.refl _ _, ⟨fun i x hx => by simp at hx, fun i j x y hx => by simp at hx⟩, fun i x hx => by simp at hx⟩
theorem Pr.Sts.new {w v : World} {l : List (Nat × Int × Int)} (h : Sts w v l) (s : Int) : Sts w (v.alloc (.cells #[.int .u64 s, .int .u64 0] 53)) (l ++ [(v.heap.size, s, 0)]) := by
  have b1 : Below v.heap.size v (v.alloc (.cells #[.int .u64 s, .int .u64 0] 53)) := (Below.refl _ _).alloc (Nat.le_refl _) _
  exact (h.below b1).push h.lts h.2.1.size (sb_new _ _ _ _) (Nat.le_refl _)
theorem Pr.Sts.fork {w v v' : World} {l : List (Nat × Int × Int)} (h : Sts w v l) (i : Nat) {g f : Nat} {s k m k1 : Int} (hi : l[i]? = some (g, s, k)) (hf : v.heap.size ≤ f) (hs : SB 53 v' f m 0) (hs2 : SB 53 v' g s k1) (hg : v.grownBy v' (some g)) : Sts w v' (l.set i (g, s, k1) ++ [(f, m, 0)]) := by
  refine (h.step i hi hs2 hg).push (fun j x hx => ?_) h.2.1.size hs hf
  obtain ⟨gx, x⟩ := x
  obtain ⟨x', hx'⟩ := set_get hi hx
  exact h.lts j (gx, x') hx'

theorem apart_law (s n a : Int) (w : World) (ht : RT w) (n0 : 0 ≤ n) (n1 : n ≤ 255) (a0 : -9223372036854775808 ≤ a) (a1 : a ≤ 9223372036854775807) :
    Calls Tryd.prog 9 #[.int .u64 s, .int .u8 n, .int .i64 a] w fun e w' => e = .returned (.bool true) ∧ Below w.heap.size w w' := by
  have HT := Lib.hid (sts_nil ht)
  clear ht
  obtain ⟨m, hm, hm3⟩ : ∃ m : Nat, n % 200 = m ∧ m < 200 := ⟨(n % 200).toNat, by omega, by omega⟩
  have HM := Lib.hid hm
  clear hm
  go_enter Tryd.func9, Tryd.ntmps9
  go_wp2_with fail
  refine (pnew_any s _).mono ?_
  rintro e w1 ⟨rfl, hw1⟩
  have H1 : Hid (Sts w w1 [(w.heap.size, s, 0)]) := Lib.hid (by rw [hw1]; exact HT.out.new s)
  clear hw1
  go_wp2_with fail
  refine (pnew_any s _).mono ?_
  rintro e w2 ⟨rfl, hw2⟩
  have H2 : Hid (Sts w w2 [(w.heap.size, s, 0), (w1.heap.size, s, 0)]) := Lib.hid (by rw [hw2]; exact H1.out.new s)
  clear hw2 H1
  go_wp2_with fail
  refine (pfork_any w.heap.size s 0 _ H2.out.1 (H2.out.get 0 rfl)).mono ?_
  rintro e w3 ⟨f, rfl, hf3, hs3, hs3', hg3⟩
  have H3 : Hid (Sts w w3 [(w.heap.size, s, nx 0), (w1.heap.size, s, 0), (f, mix s 0, 0)]) := Lib.hid (H2.out.fork 0 rfl hf3 hs3 hs3' hg3)
  clear hs3 hs3' hg3 H2
  go_wp2_with fail
  refine (pnext_any w1.heap.size s 0 _ H3.out.1 (H3.out.get 1 rfl)).mono ?_
  rintro e w4 ⟨rfl, hs4, hg4⟩
  have H4 : Hid (Sts w w4 [(w.heap.size, s, nx 0), (w1.heap.size, s, nx 0), (f, mix s 0, 0)]) := Lib.hid (H3.out.step 1 rfl hs4 hg4)
  clear hs4 hg4 H3
  go_wp2_with fail
  refine (pnew_any (mix s 0) _).mono ?_
  rintro e w5 ⟨rfl, hw5⟩
  have H5 : Hid (Sts w w5 [(w.heap.size, s, nx 0), (w1.heap.size, s, nx 0), (f, mix s 0, 0), (w4.heap.size, mix s 0, 0)]) := Lib.hid (by rw [hw5]; exact H4.out.new (mix s 0))
  clear hw5 H4
  go_wp2_with fail
  rw [HM.out]
  go_loopw [34] (fun i v => ∃ (j : Nat) (k : Int), j ≤ m ∧ i = .int .u8 j ∧ Hid (Sts w v [(w.heap.size, s, nx 0), (w1.heap.size, s, nx 0), (f, mix s 0, k), (w4.heap.size, mix s 0, k)])) (fun i _ => m - (intOf i).toNat)
  case atStart => exact ⟨0, 0, by omega, rfl, H5⟩
  case round =>
    clear H5
    obtain ⟨j, k, hj, rfl, H1⟩ := hrel
    by_cases hjm : j < m
    · go_wp2_with fail
      refine (pnext_any f (mix s 0) k _ H1.out.1 (H1.out.get 2 rfl)).mono ?_
      rintro e v2 ⟨rfl, hs2, hg2⟩
      have H2 := Lib.hid (H1.out.step 2 rfl hs2 hg2)
      clear hs2 hg2 H1
      go_wp2_with fail
      refine (pnext_any w4.heap.size (mix s 0) k _ H2.out.1 (H2.out.get 3 rfl)).mono ?_
      rintro e v3 ⟨rfl, hs3, hg3⟩
      have H3 := Lib.hid (H2.out.step 3 rfl hs3 hg3)
      clear hs3 hg3 H2
      go_wp2_with fail
      refine (pbelow_any f (mix s 0) (nx k) a _ H3.out.1 (H3.out.get 2 rfl) a0 a1).mono ?_
      rintro e v4 ⟨rfl, hs4, hg4⟩
      have H4 := Lib.hid (H3.out.step 2 rfl hs4 hg4)
      clear hs4 hg4 H3
      go_wp2_with fail
      refine (pbelow_any w4.heap.size (mix s 0) (nx k) a _ H4.out.1 (H4.out.get 3 rfl) a0 a1).mono ?_
      rintro e v5 ⟨rfl, hs5, hg5⟩
      have H5 := Lib.hid (H4.out.step 3 rfl hs5 hg5)
      clear hs5 hg5 H4
      go_wp2_with fail
      go_roundw
      case rel => exact ⟨j + 1, belK (nx k) a, by omega, by go_num, H5⟩
      case measure => simp [intOf]; omega
    · obtain rfl : j = m := by omega
      go_wp2_with fail
      refine (pnext_any w.heap.size s (nx 0) _ H1.out.1 (H1.out.get 0 rfl)).mono ?_
      rintro e v2 ⟨rfl, hs2, hg2⟩
      have H2 := Lib.hid (H1.out.step 0 rfl hs2 hg2)
      clear hs2 hg2 H1
      go_wp2_with fail
      refine (pnext_any w1.heap.size s (nx 0) _ H2.out.1 (H2.out.get 1 rfl)).mono ?_
      rintro e v3 ⟨rfl, hs3, hg3⟩
      have H3 := Lib.hid (H2.out.step 1 rfl hs3 hg3)
      clear hs3 hg3 H2
      go_wp2_with fail
      refine (awake8_any _ H3.out.1).mono ?_
      rintro e v4 ⟨rfl, hb4⟩
      have H4 := Lib.hid (H3.out.below hb4)
      clear hb4 H3
      go_wp2_with fail
      go_ret
      exact ⟨rfl, H4.out.2.1⟩
end Go.Proofs.YtoofnodcdlaheaaDoor
