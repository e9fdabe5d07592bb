/- The walks of the statements of layer 8: numbers. -/
import Derived.Test.YtoofnodcdlaheaaDoorPrgF
namespace Go.Proofs.YtoofnodcdlaheaaDoor
open Go.RowKit Pr

/-- Two sources of a call's own. -/
def Pr.Two (w v : World) (a b : Nat) (s k s' k' : Int) : Prop := RT v ∧ Below w.heap.size w v ∧ SB 53 v a s k ∧ SB 53 v b s' k' ∧ a ≠ b ∧ w.heap.size ≤ a ∧ w.heap.size ≤ b
theorem Pr.Two.rt {w v : World} {a b : Nat} {s k s' k' : Int} (h : Two w v a b s k s' k') : RT v := h.1
theorem Pr.Two.bel {w v : World} {a b : Nat} {s k s' k' : Int} (h : Two w v a b s k s' k') : Below w.heap.size w v := h.2.1
theorem Pr.Two.fst {w v : World} {a b : Nat} {s k s' k' : Int} (h : Two w v a b s k s' k') : SB 53 v a s k := h.2.2.1
theorem Pr.Two.snd {w v : World} {a b : Nat} {s k s' k' : Int} (h : Two w v a b s k s' k') : SB 53 v b s' k' := h.2.2.2.1
theorem Pr.Two.left {w v v' : World} {a b : Nat} {s k k1 s' k' : Int} (h : Two w v a b s k s' k') (hs : SB 53 v' a s k1) (hg : v.grownBy v' (some a)) : Two w v' a b s k1 s' k' := by
  obtain ⟨h1, h2, h3, h4, h5, h6, h7⟩ := h
  exact ⟨h1.grown h3 hg, h2.grown hg h2.size (fun k e => by injection e with e; omega), hs, h4.other hg (fun e => h5 e.symm), h5, h6, h7⟩
theorem Pr.Two.right {w v v' : World} {a b : Nat} {s k k1 s' k' : Int} (h : Two w v a b s k s' k') (hs : SB 53 v' b s' k1) (hg : v.grownBy v' (some b)) : Two w v' a b s k s' k1 := by
  obtain ⟨h1, h2, h3, h4, h5, h6, h7⟩ := h
  exact ⟨h1.grown h4 hg, h2.grown hg h2.size (fun k e => by injection e with e; omega), h3.other hg h5, hs, h5, h6, h7⟩
theorem Pr.Two.below {w v v' : World} {a b : Nat} {s k s' k' : Int} (h : Two w v a b s k s' k') (hb : Below v.heap.size v v') : Two w v' a b s k s' k' := by
  obtain ⟨h1, h2, h3, h4, h5, h6, h7⟩ := h
  exact ⟨h1.below hb, h2.trans (hb.mono h2.size), h3.below hb h3.lt, h4.below hb h4.lt, h5, h6, h7⟩
theorem Pr.two_new (w : World) (s t : Int) (ht : RT w) : Two w ((w.alloc (.cells #[.int .u64 s, .int .u64 0] 53)).alloc (.cells #[.int .u64 t, .int .u64 0] 53)) w.heap.size (w.heap.size + 1) s 0 t 0 := by
  have b1 : Below w.heap.size w (w.alloc (.cells #[.int .u64 s, .int .u64 0] 53)) := (Below.refl _ _).alloc (Nat.le_refl _) _
  have b2 : Below (w.alloc (.cells #[.int .u64 s, .int .u64 0] 53)).heap.size (w.alloc (.cells #[.int .u64 s, .int .u64 0] 53)) ((w.alloc (.cells #[.int .u64 s, .int .u64 0] 53)).alloc (.cells #[.int .u64 t, .int .u64 0] 53)) := (Below.refl _ _).alloc (Nat.le_refl _) _
  refine ⟨(ht.below b1).below b2, b1.trans (b2.mono b1.size), (sb_new _ _ _ _).below b2 (sb_new _ _ _ _).lt, ?_, by omega, by omega, by omega⟩
  have := sb_new 53 (w.alloc (.cells #[.int .u64 s, .int .u64 0] 53)) t 0
  rwa [World.size_alloc] at this
/-- One source of a call's own. -/
def Pr.One (w v : World) (a : Nat) (s k : Int) : Prop := RT v ∧ Below w.heap.size w v ∧ SB 53 v a s k ∧ w.heap.size ≤ a
theorem Pr.One.step {w v v' : World} {a : Nat} {s k k1 : Int} (h : One w v a s k) (hs : SB 53 v' a s k1) (hg : v.grownBy v' (some a)) : One w v' a s k1 := by
  obtain ⟨h1, h2, h3, h4⟩ := h
  exact ⟨h1.grown h3 hg, h2.grown hg h2.size (fun k e => by injection e with e; omega), hs, h4⟩
theorem Pr.One.below {w v v' : World} {a : Nat} {s k : Int} (h : One w v a s k) (hb : Below v.heap.size v v') : One w v' a s k := by
  obtain ⟨h1, h2, h3, h4⟩ := h
  exact ⟨h1.below hb, h2.trans (hb.mono h2.size), h3.below hb h3.lt, h4⟩
theorem Pr.one_new (w : World) (s : Int) (ht : RT w) : One w (w.alloc (.cells #[.int .u64 s, .int .u64 0] 53)) w.heap.size s 0 := by
  have b1 : Below w.heap.size w (w.alloc (.cells #[.int .u64 s, .int .u64 0] 53)) := (Below.refl _ _).alloc (Nat.le_refl _) _
  exact ⟨ht.below b1, b1, sb_new _ _ _ _, Nat.le_refl _⟩

theorem mixes_law (a b : Int) (w : World) (ht : RT w) :
    Calls Tryd.prog 3 #[.int .u64 a, .int .u64 b] w fun e w' => e = .returned (.bool true) ∧ Below w.heap.size w w' := by
  have HT := Lib.hid ht
  clear ht
  go_enter Tryd.func3, Tryd.ntmps3
  go_wp2_with fail
  refine (pmix_any a b _ HT.out).mono ?_
  rintro e w1 ⟨rfl, hb1⟩
  have HB1 := Lib.hid hb1
  clear hb1
  go_wp2_with fail
  refine (rmix_any a b _).mono ?_
  rintro e w2 ⟨rfl, rfl⟩
  go_wp2_with fail
  refine (awake8_any _ (HT.out.below HB1.out)).mono ?_
  rintro e w2 ⟨rfl, hb2⟩
  have HB2 := Lib.hid (HB1.out.trans (hb2.mono HB1.out.size))
  clear hb2
  go_wp2_with fail
  go_ret
  exact ⟨rfl, HB2.out⟩

theorem bij_law (a b c : Int) (w : World) (ht : RT w) (b0 : 0 ≤ b) (b1 : b < 18446744073709551616) (c0 : 0 ≤ c) (c1 : c < 18446744073709551616) :
    Calls Tryd.prog 6 #[.int .u64 a, .int .u64 b, .int .u64 c] w fun e w' => e = .returned (.bool true) ∧ Below w.heap.size w w' := by
  have HT := Lib.hid ht
  have HN := Lib.hid (show mix (IntKind.u64.wrap (a + 11400714819323198485)) b = mix a (IntKind.u64.wrap (b + 1)) by rw [IntKind.wrap_u64, IntKind.wrap_u64]; exact mix_next a b)
  have HE := Lib.hid (show ((b == c) == (mix a b == mix a c)) = true by
    by_cases h : b = c
    · subst h; simp
    · have h2 : ¬ mix a b = mix a c := fun e => h (mix_inj b0 b1 c0 c1 e)
      rw [show (b == c) = false from by simpa using h, show (mix a b == mix a c) = false from by simpa using h2]; rfl)
  clear ht b0 b1 c0 c1
  go_enter Tryd.func6, Tryd.ntmps6
  go_wp2_with fail
  refine (pmix_any a b _ HT.out).mono ?_
  rintro e w1 ⟨rfl, hb1⟩
  have HB1 := Lib.hid hb1
  clear hb1
  go_wp2_with fail
  refine (pmix_any a c _ (HT.out.below HB1.out)).mono ?_
  rintro e w2 ⟨rfl, hb2⟩
  have HB2 := Lib.hid (HB1.out.trans (hb2.mono HB1.out.size))
  clear hb2
  have he := HE.out
  go_wp2_with fail
  refine (pmix_any _ b _ (HT.out.below HB2.out)).mono ?_
  rintro e w3 ⟨rfl, hb3⟩
  rw [HN.out]
  have HB3 := Lib.hid (HB2.out.trans (hb3.mono HB2.out.size))
  clear hb3
  go_wp2_with fail
  refine (pmix_any a _ _ (HT.out.below HB3.out)).mono ?_
  rintro e w4 ⟨rfl, hb4⟩
  have HB4 := Lib.hid (HB3.out.trans (hb4.mono HB3.out.size))
  clear hb4
  go_wp2_with fail
  refine (awake8_any _ (HT.out.below HB4.out)).mono ?_
  rintro e w5 ⟨rfl, hb5⟩
  have HB5 := Lib.hid (HB4.out.trans (hb5.mono HB4.out.size))
  clear hb5
  go_wp2_with fail
  go_ret
  exact ⟨rfl, HB5.out⟩

theorem nth_law (s n : Int) (w : World) (ht : RT w) (n0 : 0 ≤ n) (n1 : n ≤ 65535) :
    Calls Tryd.prog 5 #[.int .u64 s, .int .u16 n] w fun e w' => e = .returned (.bool true) ∧ Below w.heap.size w w' := by
  have HT := Lib.hid ht
  clear ht
  obtain ⟨m, hm, hm3⟩ : ∃ m : Nat, n % 300 = m ∧ m < 300 := ⟨(n % 300).toNat, by omega, by omega⟩
  have HM := Lib.hid hm
  clear hm
  go_enter Tryd.func5, Tryd.ntmps5
  go_wp2_with fail
  refine (pnew_any s _).mono ?_
  rintro e w1 ⟨rfl, hw1⟩
  have H1 : Hid (One w w1 w.heap.size s 0) := Lib.hid (by rw [hw1]; exact one_new w s HT.out)
  clear hw1
  go_wp2_with fail
  rw [HM.out]
  go_loopw [15] (fun i v => ∃ j : Nat, j ≤ m + 1 ∧ i = .int .u64 j ∧ Hid (One w v w.heap.size s j)) (fun i _ => m + 1 - (intOf i).toNat)
  case atStart => exact ⟨0, by omega, rfl, H1⟩
  case round =>
    clear H1
    obtain ⟨j, hj, rfl, H1⟩ := hrel
    by_cases hjm : j < m + 1
    · go_wp2_with fail
      refine (pnext_any w.heap.size s j _ H1.out.1 H1.out.2.2.1).mono ?_
      rintro e w2 ⟨rfl, hs2, hg2⟩
      have H2 := Lib.hid (H1.out.step hs2 hg2)
      clear hs2 hg2 H1
      go_wp2_with fail
      refine (pmix_any s j _ H2.out.1).mono ?_
      rintro e w3 ⟨rfl, hb3⟩
      have H3 := Lib.hid (H2.out.below hb3)
      clear hb3 H2
      go_wp2_with fail
      go_roundw
      case rel => exact ⟨j + 1, by omega, by go_num, Lib.hid (by have := H3.out; rw [show nx (j : Int) = ((j + 1 : Nat) : Int) by unfold nx; omega] at this; exact this)⟩
      case measure => simp [intOf]; omega
    · obtain rfl : j = m + 1 := by omega
      go_wp2_with fail
      refine (awake8_any _ H1.out.1).mono ?_
      rintro e w2 ⟨rfl, hb2⟩
      have H2 := Lib.hid (H1.out.below hb2)
      clear hb2
      go_wp2_with fail
      go_ret
      exact ⟨rfl, H2.out.2.1⟩

theorem Pr.within_rng {s lo hi : Int} (h : ¬ hi < lo) (k : Int) : lo ≤ rngV s k lo hi ∧ rngV s k lo hi ≤ hi := by
  unfold rngV
  rw [if_neg h]
  have e0 := Int.emod_nonneg (mix s k) (show hi - lo + 1 ≠ 0 by omega)
  have e1 := Int.emod_lt_of_pos (mix s k) (show 0 < hi - lo + 1 by omega)
  omega

set_option linter.unusedVariables false in
theorem within_00 (s n lo hi : Int) (w : World) (ht : RT w) (n1 : n ≤ 9223372036854775807) (n2 : -9223372036854775808 ≤ n) (l0 : -9223372036854775808 ≤ lo) (l1 : lo ≤ 9223372036854775807) (h0 : -9223372036854775808 ≤ hi) (h1 : hi ≤ 9223372036854775807) (h : n < 1) (c : hi < lo) :
    Calls Tryd.prog 7 #[.int .u64 s, .int .i64 n, .int .i64 lo, .int .i64 hi] w fun e w' => e = .returned (.bool true) ∧ Below w.heap.size w w' := by
  have HT := Lib.hid ht
  clear ht
  have hm0 := mix_in s 0
  have hm1 := mix_in s 0
  have HBK := Lib.hid (show belK 0 n = 0 from if_pos h)
  have HBV := Lib.hid (show belV s 0 n = 0 from if_pos h)
  have HRK := Lib.hid (show rngK 0 lo hi = 0 from if_pos c)
  have HRV := Lib.hid (show rngV s 0 lo hi = lo from if_pos c)
  clear hm0 hm1
  go_enter Tryd.func7, Tryd.ntmps7
  go_wp2_with fail
  refine (pnew_any s _).mono ?_
  rintro e w1 ⟨rfl, rfl⟩
  go_wp2_with fail
  refine (pnew_any s _).mono ?_
  rintro e w2 ⟨rfl, hw2⟩
  have H1 : Hid (Two w w2 w.heap.size (w.heap.size + 1) s 0 s 0) := Lib.hid (by rw [hw2]; exact two_new w s s HT.out)
  clear hw2
  go_wp2_with fail
  refine (pbelow_any w.heap.size s 0 n _ H1.out.rt H1.out.fst n2 n1).mono ?_
  rintro e w3 ⟨rfl, hs3, hg3⟩
  rw [HBK.out] at hs3
  rw [HBV.out]
  have H2 := Lib.hid (H1.out.left hs3 hg3)
  clear hs3 hg3 H1
  have H3 := H2
  clear H2
  go_wp2_with fail
  refine (prange_any w.heap.size s 0 lo hi _ H3.out.rt H3.out.fst l0 l1 h0 h1).mono ?_
  rintro e w5 ⟨rfl, hs5, hg5⟩
  rw [HRK.out] at hs5
  rw [HRV.out]
  have H4 := Lib.hid (H3.out.left hs5 hg5)
  clear hs5 hg5 H3
  have H5 := H4
  clear H4
  go_wp2_with fail
  refine (pnext_any w.heap.size s 0 _ H5.out.rt H5.out.fst).mono ?_
  rintro e w7 ⟨rfl, hs7, hg7⟩
  have H6 := Lib.hid (H5.out.left hs7 hg7)
  clear hs7 hg7 H5
  go_wp2_with fail
  refine (pnext_any (w.heap.size + 1) s 0 _ H6.out.rt H6.out.snd).mono ?_
  rintro e w8 ⟨rfl, hs8, hg8⟩
  have H7 := Lib.hid (H6.out.right hs8 hg8)
  clear hs8 hg8 H6
  go_wp2_with fail
  refine (awake8_any _ H7.out.rt).mono ?_
  rintro e w9 ⟨rfl, hb9⟩
  have H8 := Lib.hid (H7.out.below hb9)
  clear hb9
  go_wp2_with fail
  go_ret
  exact ⟨rfl, H8.out.bel⟩

set_option linter.unusedVariables false in
theorem within_01 (s n lo hi : Int) (w : World) (ht : RT w) (n1 : n ≤ 9223372036854775807) (n2 : -9223372036854775808 ≤ n) (l0 : -9223372036854775808 ≤ lo) (l1 : lo ≤ 9223372036854775807) (h0 : -9223372036854775808 ≤ hi) (h1 : hi ≤ 9223372036854775807) (h : n < 1) (c : ¬ hi < lo) (f : hi - lo + 1 = 18446744073709551616) :
    Calls Tryd.prog 7 #[.int .u64 s, .int .i64 n, .int .i64 lo, .int .i64 hi] w fun e w' => e = .returned (.bool true) ∧ Below w.heap.size w w' := by
  have HT := Lib.hid ht
  clear ht
  have hm0 := mix_in s 0
  have hm1 := mix_in s 0
  have HBK := Lib.hid (show belK 0 n = 0 from if_pos h)
  have HBV := Lib.hid (show belV s 0 n = 0 from if_pos h)
  have HRK := Lib.hid (show rngK 0 lo hi = (nx 0) from if_neg c)
  have hw := within_rng (s := s) c 0
  have HRV := Lib.hid (show rngV s 0 lo hi = lo + mix s 0 % (hi - lo + 1) from if_neg c)
  obtain ⟨rv, hrv⟩ : ∃ rv, rngV s 0 lo hi = rv := ⟨_, rfl⟩
  rw [hrv] at hw
  have hx : wrap64 (IntKind.u64.wrap (IntKind.u64.wrap lo + mix s 0)) = rv := by
    rw [← hrv, HRV.out, f, Int.emod_eq_of_lt hm1.1 hm1.2]
    exact (IntWalk.i64_left _).symm.trans (u64_i64' (by omega) (by omega))
  have hc : (IntKind.u64.wrap (IntKind.u64.wrap (IntKind.u64.wrap hi - IntKind.u64.wrap lo) + 1) != 0) = false := by rw [cnt_w, f]; decide
  clear f
  have HRR := Lib.hid hrv
  clear hrv HRV
  have hq : (rv == wrap64 (IntKind.u64.wrap (IntKind.u64.wrap lo + mix s 0))) = true := by rw [hx]; simp
  clear hx
  have ha : ¬ rv < lo := by omega
  have hb : ¬ hi < rv := by omega
  have ha2 : decide (rv < lo) = false := decide_eq_false ha
  have hb2 : decide (hi < rv) = false := decide_eq_false hb
  clear hm0 hm1
  go_enter Tryd.func7, Tryd.ntmps7
  go_wp2_with fail
  refine (pnew_any s _).mono ?_
  rintro e w1 ⟨rfl, rfl⟩
  go_wp2_with fail
  refine (pnew_any s _).mono ?_
  rintro e w2 ⟨rfl, hw2⟩
  have H1 : Hid (Two w w2 w.heap.size (w.heap.size + 1) s 0 s 0) := Lib.hid (by rw [hw2]; exact two_new w s s HT.out)
  clear hw2
  go_wp2_with fail
  refine (pbelow_any w.heap.size s 0 n _ H1.out.rt H1.out.fst n2 n1).mono ?_
  rintro e w3 ⟨rfl, hs3, hg3⟩
  rw [HBK.out] at hs3
  rw [HBV.out]
  have H2 := Lib.hid (H1.out.left hs3 hg3)
  clear hs3 hg3 H1
  have H3 := H2
  clear H2
  go_wp2_with fail
  refine (prange_any w.heap.size s 0 lo hi _ H3.out.rt H3.out.fst l0 l1 h0 h1).mono ?_
  rintro e w5 ⟨rfl, hs5, hg5⟩
  rw [HRK.out] at hs5
  rw [HRR.out]
  have H4 := Lib.hid (H3.out.left hs5 hg5)
  clear hs5 hg5 H3
  go_wp2_with fail
  refine (pnext_any (w.heap.size + 1) s 0 _ H4.out.rt H4.out.snd).mono ?_
  rintro e w6 ⟨rfl, hs6, hg6⟩
  have H5 := Lib.hid (H4.out.right hs6 hg6)
  clear hs6 hg6 H4
  go_wp2_with fail
  refine (pnext_any w.heap.size s (nx 0) _ H5.out.rt H5.out.fst).mono ?_
  rintro e w7 ⟨rfl, hs7, hg7⟩
  have H6 := Lib.hid (H5.out.left hs7 hg7)
  clear hs7 hg7 H5
  go_wp2_with fail
  refine (pnext_any (w.heap.size + 1) s (nx 0) _ H6.out.rt H6.out.snd).mono ?_
  rintro e w8 ⟨rfl, hs8, hg8⟩
  have H7 := Lib.hid (H6.out.right hs8 hg8)
  clear hs8 hg8 H6
  go_wp2_with fail
  refine (awake8_any _ H7.out.rt).mono ?_
  rintro e w9 ⟨rfl, hb9⟩
  have H8 := Lib.hid (H7.out.below hb9)
  clear hb9
  go_wp2_with fail
  go_ret
  exact ⟨rfl, H8.out.bel⟩

set_option linter.unusedVariables false in
theorem within_02 (s n lo hi : Int) (w : World) (ht : RT w) (n1 : n ≤ 9223372036854775807) (n2 : -9223372036854775808 ≤ n) (l0 : -9223372036854775808 ≤ lo) (l1 : lo ≤ 9223372036854775807) (h0 : -9223372036854775808 ≤ hi) (h1 : hi ≤ 9223372036854775807) (h : n < 1) (c : ¬ hi < lo) (f : ¬ hi - lo + 1 = 18446744073709551616) :
    Calls Tryd.prog 7 #[.int .u64 s, .int .i64 n, .int .i64 lo, .int .i64 hi] w fun e w' => e = .returned (.bool true) ∧ Below w.heap.size w w' := by
  have HT := Lib.hid ht
  clear ht
  have hm0 := mix_in s 0
  have hm1 := mix_in s 0
  have HBK := Lib.hid (show belK 0 n = 0 from if_pos h)
  have HBV := Lib.hid (show belV s 0 n = 0 from if_pos h)
  have HRK := Lib.hid (show rngK 0 lo hi = (nx 0) from if_neg c)
  have hw := within_rng (s := s) c 0
  have HRV := Lib.hid (show rngV s 0 lo hi = lo + mix s 0 % (hi - lo + 1) from if_neg c)
  obtain ⟨rv, hrv⟩ : ∃ rv, rngV s 0 lo hi = rv := ⟨_, rfl⟩
  rw [hrv] at hw
  have HC := Lib.hid (show IntKind.u64.wrap (IntKind.u64.wrap (IntKind.u64.wrap hi - IntKind.u64.wrap lo) + 1) = hi - lo + 1 by rw [cnt_w]; omega)
  have hx : wrap64 (IntKind.u64.wrap (IntKind.u64.wrap lo + (mix s 0).tmod (IntKind.u64.wrap (IntKind.u64.wrap (IntKind.u64.wrap hi - IntKind.u64.wrap lo) + 1)))) = rv := by
    have q0 := Int.emod_nonneg (mix s 0) (show hi - lo + 1 ≠ 0 by omega)
    have q1 := Int.emod_lt_of_pos (mix s 0) (show 0 < hi - lo + 1 by omega)
    rw [← hrv, HRV.out, HC.out, Int.tmod_eq_emod_of_nonneg hm1.1]
    exact (IntWalk.i64_left _).symm.trans (u64_i64' (by omega) (by omega))
  have hc : (IntKind.u64.wrap (IntKind.u64.wrap (IntKind.u64.wrap hi - IntKind.u64.wrap lo) + 1) != 0) = true := by rw [HC.out]; simp; omega
  have hc0 : ¬ IntKind.u64.wrap (IntKind.u64.wrap (IntKind.u64.wrap hi - IntKind.u64.wrap lo) + 1) = 0 := by rw [HC.out]; omega
  clear f
  have HRR := Lib.hid hrv
  clear hrv HRV
  have hq : (rv == wrap64 (IntKind.u64.wrap (IntKind.u64.wrap lo + (mix s 0).tmod (IntKind.u64.wrap (IntKind.u64.wrap (IntKind.u64.wrap hi - IntKind.u64.wrap lo) + 1))))) = true := by rw [hx]; simp
  clear hx
  have ha : ¬ rv < lo := by omega
  have hb : ¬ hi < rv := by omega
  have ha2 : decide (rv < lo) = false := decide_eq_false ha
  have hb2 : decide (hi < rv) = false := decide_eq_false hb
  clear hm0 hm1
  go_enter Tryd.func7, Tryd.ntmps7
  go_wp2_with fail
  refine (pnew_any s _).mono ?_
  rintro e w1 ⟨rfl, rfl⟩
  go_wp2_with fail
  refine (pnew_any s _).mono ?_
  rintro e w2 ⟨rfl, hw2⟩
  have H1 : Hid (Two w w2 w.heap.size (w.heap.size + 1) s 0 s 0) := Lib.hid (by rw [hw2]; exact two_new w s s HT.out)
  clear hw2
  go_wp2_with fail
  refine (pbelow_any w.heap.size s 0 n _ H1.out.rt H1.out.fst n2 n1).mono ?_
  rintro e w3 ⟨rfl, hs3, hg3⟩
  rw [HBK.out] at hs3
  rw [HBV.out]
  have H2 := Lib.hid (H1.out.left hs3 hg3)
  clear hs3 hg3 H1
  have H3 := H2
  clear H2
  go_wp2_with fail
  refine (prange_any w.heap.size s 0 lo hi _ H3.out.rt H3.out.fst l0 l1 h0 h1).mono ?_
  rintro e w5 ⟨rfl, hs5, hg5⟩
  rw [HRK.out] at hs5
  rw [HRR.out]
  have H4 := Lib.hid (H3.out.left hs5 hg5)
  clear hs5 hg5 H3
  go_wp2_with fail
  refine (pnext_any (w.heap.size + 1) s 0 _ H4.out.rt H4.out.snd).mono ?_
  rintro e w6 ⟨rfl, hs6, hg6⟩
  have H5 := Lib.hid (H4.out.right hs6 hg6)
  clear hs6 hg6 H4
  go_wp2_with fail
  refine (pnext_any w.heap.size s (nx 0) _ H5.out.rt H5.out.fst).mono ?_
  rintro e w7 ⟨rfl, hs7, hg7⟩
  have H6 := Lib.hid (H5.out.left hs7 hg7)
  clear hs7 hg7 H5
  go_wp2_with fail
  refine (pnext_any (w.heap.size + 1) s (nx 0) _ H6.out.rt H6.out.snd).mono ?_
  rintro e w8 ⟨rfl, hs8, hg8⟩
  have H7 := Lib.hid (H6.out.right hs8 hg8)
  clear hs8 hg8 H6
  go_wp2_with fail
  refine (awake8_any _ H7.out.rt).mono ?_
  rintro e w9 ⟨rfl, hb9⟩
  have H8 := Lib.hid (H7.out.below hb9)
  clear hb9
  go_wp2_with fail
  go_ret
  exact ⟨rfl, H8.out.bel⟩

set_option linter.unusedVariables false in
theorem within_10 (s n lo hi : Int) (w : World) (ht : RT w) (n1 : n ≤ 9223372036854775807) (n2 : -9223372036854775808 ≤ n) (l0 : -9223372036854775808 ≤ lo) (l1 : lo ≤ 9223372036854775807) (h0 : -9223372036854775808 ≤ hi) (h1 : hi ≤ 9223372036854775807) (h : ¬ n < 1) (c : hi < lo) :
    Calls Tryd.prog 7 #[.int .u64 s, .int .i64 n, .int .i64 lo, .int .i64 hi] w fun e w' => e = .returned (.bool true) ∧ Below w.heap.size w w' := by
  have HT := Lib.hid ht
  clear ht
  have hm0 := mix_in s 0
  have hm1 := mix_in s (nx 0)
  have HBK := Lib.hid (show belK 0 n = (nx 0) from if_neg h)
  have HBV := Lib.hid (show belV s 0 n = mix s 0 % n from if_neg h)
  have HRK := Lib.hid (show rngK (nx 0) lo hi = (nx 0) from if_pos c)
  have e0 := Int.emod_nonneg (mix s 0) (show n ≠ 0 by omega)
  have e1 := Int.emod_lt_of_pos (mix s 0) (show 0 < n by omega)
  have hz : ¬ n = 0 := by omega
  have HRV := Lib.hid (show rngV s (nx 0) lo hi = lo from if_pos c)
  clear hm1
  go_enter Tryd.func7, Tryd.ntmps7
  go_wp2_with fail
  refine (pnew_any s _).mono ?_
  rintro e w1 ⟨rfl, rfl⟩
  go_wp2_with fail
  refine (pnew_any s _).mono ?_
  rintro e w2 ⟨rfl, hw2⟩
  have H1 : Hid (Two w w2 w.heap.size (w.heap.size + 1) s 0 s 0) := Lib.hid (by rw [hw2]; exact two_new w s s HT.out)
  clear hw2
  go_wp2_with fail
  refine (pbelow_any w.heap.size s 0 n _ H1.out.rt H1.out.fst n2 n1).mono ?_
  rintro e w3 ⟨rfl, hs3, hg3⟩
  rw [HBK.out] at hs3
  rw [HBV.out]
  have H2 := Lib.hid (H1.out.left hs3 hg3)
  clear hs3 hg3 H1
  go_wp2_with fail
  refine (pnext_any (w.heap.size + 1) s 0 _ H2.out.rt H2.out.snd).mono ?_
  rintro e w4 ⟨rfl, hs4, hg4⟩
  have H3 := Lib.hid (H2.out.right hs4 hg4)
  clear hs4 hg4 H2
  go_wp2_with fail
  refine (prange_any w.heap.size s (nx 0) lo hi _ H3.out.rt H3.out.fst l0 l1 h0 h1).mono ?_
  rintro e w5 ⟨rfl, hs5, hg5⟩
  rw [HRK.out] at hs5
  rw [HRV.out]
  have H4 := Lib.hid (H3.out.left hs5 hg5)
  clear hs5 hg5 H3
  have H5 := H4
  clear H4
  go_wp2_with fail
  refine (pnext_any w.heap.size s (nx 0) _ H5.out.rt H5.out.fst).mono ?_
  rintro e w7 ⟨rfl, hs7, hg7⟩
  have H6 := Lib.hid (H5.out.left hs7 hg7)
  clear hs7 hg7 H5
  go_wp2_with fail
  refine (pnext_any (w.heap.size + 1) s (nx 0) _ H6.out.rt H6.out.snd).mono ?_
  rintro e w8 ⟨rfl, hs8, hg8⟩
  have H7 := Lib.hid (H6.out.right hs8 hg8)
  clear hs8 hg8 H6
  go_wp2_with fail
  refine (awake8_any _ H7.out.rt).mono ?_
  rintro e w9 ⟨rfl, hb9⟩
  have H8 := Lib.hid (H7.out.below hb9)
  clear hb9
  go_wp2_with fail
  go_ret
  exact ⟨rfl, H8.out.bel⟩

set_option linter.unusedVariables false in
theorem within_11 (s n lo hi : Int) (w : World) (ht : RT w) (n1 : n ≤ 9223372036854775807) (n2 : -9223372036854775808 ≤ n) (l0 : -9223372036854775808 ≤ lo) (l1 : lo ≤ 9223372036854775807) (h0 : -9223372036854775808 ≤ hi) (h1 : hi ≤ 9223372036854775807) (h : ¬ n < 1) (c : ¬ hi < lo) (f : hi - lo + 1 = 18446744073709551616) :
    Calls Tryd.prog 7 #[.int .u64 s, .int .i64 n, .int .i64 lo, .int .i64 hi] w fun e w' => e = .returned (.bool true) ∧ Below w.heap.size w w' := by
  have HT := Lib.hid ht
  clear ht
  have hm0 := mix_in s 0
  have hm1 := mix_in s (nx 0)
  have HBK := Lib.hid (show belK 0 n = (nx 0) from if_neg h)
  have HBV := Lib.hid (show belV s 0 n = mix s 0 % n from if_neg h)
  have HRK := Lib.hid (show rngK (nx 0) lo hi = (nx (nx 0)) from if_neg c)
  have e0 := Int.emod_nonneg (mix s 0) (show n ≠ 0 by omega)
  have e1 := Int.emod_lt_of_pos (mix s 0) (show 0 < n by omega)
  have hz : ¬ n = 0 := by omega
  have hw := within_rng (s := s) c (nx 0)
  have HRV := Lib.hid (show rngV s (nx 0) lo hi = lo + mix s (nx 0) % (hi - lo + 1) from if_neg c)
  obtain ⟨rv, hrv⟩ : ∃ rv, rngV s (nx 0) lo hi = rv := ⟨_, rfl⟩
  rw [hrv] at hw
  have hx : wrap64 (IntKind.u64.wrap (IntKind.u64.wrap lo + mix s (nx 0))) = rv := by
    rw [← hrv, HRV.out, f, Int.emod_eq_of_lt hm1.1 hm1.2]
    exact (IntWalk.i64_left _).symm.trans (u64_i64' (by omega) (by omega))
  have hc : (IntKind.u64.wrap (IntKind.u64.wrap (IntKind.u64.wrap hi - IntKind.u64.wrap lo) + 1) != 0) = false := by rw [cnt_w, f]; decide
  clear f
  have HRR := Lib.hid hrv
  clear hrv HRV
  have hq : (rv == wrap64 (IntKind.u64.wrap (IntKind.u64.wrap lo + mix s (nx 0)))) = true := by rw [hx]; simp
  clear hx
  have ha : ¬ rv < lo := by omega
  have hb : ¬ hi < rv := by omega
  have ha2 : decide (rv < lo) = false := decide_eq_false ha
  have hb2 : decide (hi < rv) = false := decide_eq_false hb
  clear hm1
  go_enter Tryd.func7, Tryd.ntmps7
  go_wp2_with fail
  refine (pnew_any s _).mono ?_
  rintro e w1 ⟨rfl, rfl⟩
  go_wp2_with fail
  refine (pnew_any s _).mono ?_
  rintro e w2 ⟨rfl, hw2⟩
  have H1 : Hid (Two w w2 w.heap.size (w.heap.size + 1) s 0 s 0) := Lib.hid (by rw [hw2]; exact two_new w s s HT.out)
  clear hw2
  go_wp2_with fail
  refine (pbelow_any w.heap.size s 0 n _ H1.out.rt H1.out.fst n2 n1).mono ?_
  rintro e w3 ⟨rfl, hs3, hg3⟩
  rw [HBK.out] at hs3
  rw [HBV.out]
  have H2 := Lib.hid (H1.out.left hs3 hg3)
  clear hs3 hg3 H1
  go_wp2_with fail
  refine (pnext_any (w.heap.size + 1) s 0 _ H2.out.rt H2.out.snd).mono ?_
  rintro e w4 ⟨rfl, hs4, hg4⟩
  have H3 := Lib.hid (H2.out.right hs4 hg4)
  clear hs4 hg4 H2
  go_wp2_with fail
  refine (prange_any w.heap.size s (nx 0) lo hi _ H3.out.rt H3.out.fst l0 l1 h0 h1).mono ?_
  rintro e w5 ⟨rfl, hs5, hg5⟩
  rw [HRK.out] at hs5
  rw [HRR.out]
  have H4 := Lib.hid (H3.out.left hs5 hg5)
  clear hs5 hg5 H3
  go_wp2_with fail
  refine (pnext_any (w.heap.size + 1) s (nx 0) _ H4.out.rt H4.out.snd).mono ?_
  rintro e w6 ⟨rfl, hs6, hg6⟩
  have H5 := Lib.hid (H4.out.right hs6 hg6)
  clear hs6 hg6 H4
  go_wp2_with fail
  refine (pnext_any w.heap.size s (nx (nx 0)) _ H5.out.rt H5.out.fst).mono ?_
  rintro e w7 ⟨rfl, hs7, hg7⟩
  have H6 := Lib.hid (H5.out.left hs7 hg7)
  clear hs7 hg7 H5
  go_wp2_with fail
  refine (pnext_any (w.heap.size + 1) s (nx (nx 0)) _ H6.out.rt H6.out.snd).mono ?_
  rintro e w8 ⟨rfl, hs8, hg8⟩
  have H7 := Lib.hid (H6.out.right hs8 hg8)
  clear hs8 hg8 H6
  go_wp2_with fail
  refine (awake8_any _ H7.out.rt).mono ?_
  rintro e w9 ⟨rfl, hb9⟩
  have H8 := Lib.hid (H7.out.below hb9)
  clear hb9
  go_wp2_with fail
  go_ret
  exact ⟨rfl, H8.out.bel⟩

set_option linter.unusedVariables false in
theorem within_12 (s n lo hi : Int) (w : World) (ht : RT w) (n1 : n ≤ 9223372036854775807) (n2 : -9223372036854775808 ≤ n) (l0 : -9223372036854775808 ≤ lo) (l1 : lo ≤ 9223372036854775807) (h0 : -9223372036854775808 ≤ hi) (h1 : hi ≤ 9223372036854775807) (h : ¬ n < 1) (c : ¬ hi < lo) (f : ¬ hi - lo + 1 = 18446744073709551616) :
    Calls Tryd.prog 7 #[.int .u64 s, .int .i64 n, .int .i64 lo, .int .i64 hi] w fun e w' => e = .returned (.bool true) ∧ Below w.heap.size w w' := by
  have HT := Lib.hid ht
  clear ht
  have hm0 := mix_in s 0
  have hm1 := mix_in s (nx 0)
  have HBK := Lib.hid (show belK 0 n = (nx 0) from if_neg h)
  have HBV := Lib.hid (show belV s 0 n = mix s 0 % n from if_neg h)
  have HRK := Lib.hid (show rngK (nx 0) lo hi = (nx (nx 0)) from if_neg c)
  have e0 := Int.emod_nonneg (mix s 0) (show n ≠ 0 by omega)
  have e1 := Int.emod_lt_of_pos (mix s 0) (show 0 < n by omega)
  have hz : ¬ n = 0 := by omega
  have hw := within_rng (s := s) c (nx 0)
  have HRV := Lib.hid (show rngV s (nx 0) lo hi = lo + mix s (nx 0) % (hi - lo + 1) from if_neg c)
  obtain ⟨rv, hrv⟩ : ∃ rv, rngV s (nx 0) lo hi = rv := ⟨_, rfl⟩
  rw [hrv] at hw
  have HC := Lib.hid (show IntKind.u64.wrap (IntKind.u64.wrap (IntKind.u64.wrap hi - IntKind.u64.wrap lo) + 1) = hi - lo + 1 by rw [cnt_w]; omega)
  have hx : wrap64 (IntKind.u64.wrap (IntKind.u64.wrap lo + (mix s (nx 0)).tmod (IntKind.u64.wrap (IntKind.u64.wrap (IntKind.u64.wrap hi - IntKind.u64.wrap lo) + 1)))) = rv := by
    have q0 := Int.emod_nonneg (mix s (nx 0)) (show hi - lo + 1 ≠ 0 by omega)
    have q1 := Int.emod_lt_of_pos (mix s (nx 0)) (show 0 < hi - lo + 1 by omega)
    rw [← hrv, HRV.out, HC.out, Int.tmod_eq_emod_of_nonneg hm1.1]
    exact (IntWalk.i64_left _).symm.trans (u64_i64' (by omega) (by omega))
  have hc : (IntKind.u64.wrap (IntKind.u64.wrap (IntKind.u64.wrap hi - IntKind.u64.wrap lo) + 1) != 0) = true := by rw [HC.out]; simp; omega
  have hc0 : ¬ IntKind.u64.wrap (IntKind.u64.wrap (IntKind.u64.wrap hi - IntKind.u64.wrap lo) + 1) = 0 := by rw [HC.out]; omega
  clear f
  have HRR := Lib.hid hrv
  clear hrv HRV
  have hq : (rv == wrap64 (IntKind.u64.wrap (IntKind.u64.wrap lo + (mix s (nx 0)).tmod (IntKind.u64.wrap (IntKind.u64.wrap (IntKind.u64.wrap hi - IntKind.u64.wrap lo) + 1))))) = true := by rw [hx]; simp
  clear hx
  have ha : ¬ rv < lo := by omega
  have hb : ¬ hi < rv := by omega
  have ha2 : decide (rv < lo) = false := decide_eq_false ha
  have hb2 : decide (hi < rv) = false := decide_eq_false hb
  clear hm1
  go_enter Tryd.func7, Tryd.ntmps7
  go_wp2_with fail
  refine (pnew_any s _).mono ?_
  rintro e w1 ⟨rfl, rfl⟩
  go_wp2_with fail
  refine (pnew_any s _).mono ?_
  rintro e w2 ⟨rfl, hw2⟩
  have H1 : Hid (Two w w2 w.heap.size (w.heap.size + 1) s 0 s 0) := Lib.hid (by rw [hw2]; exact two_new w s s HT.out)
  clear hw2
  go_wp2_with fail
  refine (pbelow_any w.heap.size s 0 n _ H1.out.rt H1.out.fst n2 n1).mono ?_
  rintro e w3 ⟨rfl, hs3, hg3⟩
  rw [HBK.out] at hs3
  rw [HBV.out]
  have H2 := Lib.hid (H1.out.left hs3 hg3)
  clear hs3 hg3 H1
  go_wp2_with fail
  refine (pnext_any (w.heap.size + 1) s 0 _ H2.out.rt H2.out.snd).mono ?_
  rintro e w4 ⟨rfl, hs4, hg4⟩
  have H3 := Lib.hid (H2.out.right hs4 hg4)
  clear hs4 hg4 H2
  go_wp2_with fail
  refine (prange_any w.heap.size s (nx 0) lo hi _ H3.out.rt H3.out.fst l0 l1 h0 h1).mono ?_
  rintro e w5 ⟨rfl, hs5, hg5⟩
  rw [HRK.out] at hs5
  rw [HRR.out]
  have H4 := Lib.hid (H3.out.left hs5 hg5)
  clear hs5 hg5 H3
  go_wp2_with fail
  refine (pnext_any (w.heap.size + 1) s (nx 0) _ H4.out.rt H4.out.snd).mono ?_
  rintro e w6 ⟨rfl, hs6, hg6⟩
  have H5 := Lib.hid (H4.out.right hs6 hg6)
  clear hs6 hg6 H4
  go_wp2_with fail
  refine (pnext_any w.heap.size s (nx (nx 0)) _ H5.out.rt H5.out.fst).mono ?_
  rintro e w7 ⟨rfl, hs7, hg7⟩
  have H6 := Lib.hid (H5.out.left hs7 hg7)
  clear hs7 hg7 H5
  go_wp2_with fail
  refine (pnext_any (w.heap.size + 1) s (nx (nx 0)) _ H6.out.rt H6.out.snd).mono ?_
  rintro e w8 ⟨rfl, hs8, hg8⟩
  have H7 := Lib.hid (H6.out.right hs8 hg8)
  clear hs8 hg8 H6
  go_wp2_with fail
  refine (awake8_any _ H7.out.rt).mono ?_
  rintro e w9 ⟨rfl, hb9⟩
  have H8 := Lib.hid (H7.out.below hb9)
  clear hb9
  go_wp2_with fail
  go_ret
  exact ⟨rfl, H8.out.bel⟩

theorem within_law (s n lo hi : Int) (w : World) (ht : RT w) (n2 : -9223372036854775808 ≤ n) (n1 : n ≤ 9223372036854775807) (l0 : -9223372036854775808 ≤ lo) (l1 : lo ≤ 9223372036854775807) (h0 : -9223372036854775808 ≤ hi) (h1 : hi ≤ 9223372036854775807) :
    Calls Tryd.prog 7 #[.int .u64 s, .int .i64 n, .int .i64 lo, .int .i64 hi] w fun e w' => e = .returned (.bool true) ∧ Below w.heap.size w w' := by
  by_cases h : n < 1
  · by_cases c : hi < lo
    · exact within_00 s n lo hi w ht n1 n2 l0 l1 h0 h1 h c
    · by_cases f : hi - lo + 1 = 18446744073709551616
      · exact within_01 s n lo hi w ht n1 n2 l0 l1 h0 h1 h c f
      · exact within_02 s n lo hi w ht n1 n2 l0 l1 h0 h1 h c f
  · by_cases c : hi < lo
    · exact within_10 s n lo hi w ht n1 n2 l0 l1 h0 h1 h c
    · by_cases f : hi - lo + 1 = 18446744073709551616
      · exact within_11 s n lo hi w ht n1 n2 l0 l1 h0 h1 h c f
      · exact within_12 s n lo hi w ht n1 n2 l0 l1 h0 h1 h c f
end Go.Proofs.YtoofnodcdlaheaaDoor
