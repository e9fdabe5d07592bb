/- The walks of the statements of layer 3: differences, there and back. -/
import Derived.Test.YtemflgjfoappaaaStaV
namespace Go.Proofs.Ytemflgjfoappaaa
open Go.RowKit Fx St

set_option maxHeartbeats 1000000 in
theorem stampDiffers_walk (a b c : Int) (w : World) :
    Calls Try.prog 7 #[.int .u64 a, .int .u64 b, .int .u64 c] w fun e w' => e = .returned (.bool true) ∧ Below w.heap.size w w' := by
  have d0 := dif_self a
  have dl := dif_lo a b
  have dh := dif_hi a b
  have el := dif_lo b c
  have eh := dif_hi b c
  have turn := dif_turn (a := a) (b := b)
  have add := dif_add (a := a) (b := b) (c := c)
  obtain ⟨x, hx⟩ : ∃ x, dif a b = x := ⟨_, rfl⟩
  obtain ⟨y, hy⟩ : ∃ y, dif b c = y := ⟨_, rfl⟩
  obtain ⟨z, hz⟩ : ∃ z, dif a c = z := ⟨_, rfl⟩
  rw [hx] at dl dh turn add
  rw [hy] at el eh add
  rw [hz] at add
  have HX := Lib.hid hx
  have HY := Lib.hid hy
  have HZ := Lib.hid hz
  have H0 := Lib.hid d0
  clear hx hy hz d0
  by_cases hm : x = -9223372036854775808
  · subst hm
    clear turn add
    go_enter Try.func7, Try.ntmps7
    go_wp2_with fail
    refine (diff_any a b _).mono ?_
    rintro e w' ⟨rfl, rfl⟩
    rw [HX.out]
    go_wp2_with fail
    refine (diff_any b c _).mono ?_
    rintro e w' ⟨rfl, rfl⟩
    rw [HY.out]
    go_wp2_with fail
    refine (diff_any a c _).mono ?_
    rintro e w' ⟨rfl, rfl⟩
    rw [HZ.out]
    go_wp2_with fail
    refine (rdiff_any a b _).mono ?_
    rintro e w' ⟨rfl, rfl⟩
    rw [HX.out]
    go_wp2_with fail
    refine (diff_any a a _).mono ?_
    rintro e w' ⟨rfl, rfl⟩
    rw [H0.out]
    go_wp2_with fail
    refine (awake3_any _).mono ?_
    rintro e w1 ⟨rfl, hw1⟩
    go_wp2_with fail
    go_ret
    exact ⟨rfl, hw1⟩
  · have HT := Lib.hid (turn hm)
    have hm' : (x != -9223372036854775808) = true := by simpa using hm
    have dm : -9223372036854775808 < x := by omega
    have HA := Lib.hid add
    clear turn add hm
    by_cases c1 : -2305843009213693952 < x
    · by_cases c2 : x < 2305843009213693952
      · by_cases c3 : -2305843009213693952 < y
        · by_cases c4 : y < 2305843009213693952
          · obtain rfl := HA.out c1 c2 c3 c4
            clear HA
            go_enter Try.func7, Try.ntmps7
            go_wp2_with fail
            refine (diff_any a b _).mono ?_
            rintro e w' ⟨rfl, rfl⟩
            rw [HX.out]
            go_wp2_with fail
            refine (diff_any b c _).mono ?_
            rintro e w' ⟨rfl, rfl⟩
            rw [HY.out]
            go_wp2_with fail
            refine (diff_any a c _).mono ?_
            rintro e w' ⟨rfl, rfl⟩
            rw [HZ.out]
            go_wp2_with fail
            refine (rdiff_any a b _).mono ?_
            rintro e w' ⟨rfl, rfl⟩
            rw [HX.out]
            go_wp2_with fail
            refine (diff_any a a _).mono ?_
            rintro e w' ⟨rfl, rfl⟩
            rw [H0.out]
            go_wp2_with fail
            refine (diff_any b a _).mono ?_
            rintro e w' ⟨rfl, rfl⟩
            rw [HT.out]
            go_wp2_with fail
            refine (awake3_any _).mono ?_
            rintro e w1 ⟨rfl, hw1⟩
            go_wp2_with fail
            go_ret
            exact ⟨rfl, hw1⟩
          · have hd : decide (y < 2305843009213693952) = false := decide_eq_false c4
            clear HA
            go_enter Try.func7, Try.ntmps7
            go_wp2_with fail
            refine (diff_any a b _).mono ?_
            rintro e w' ⟨rfl, rfl⟩
            rw [HX.out]
            go_wp2_with fail
            refine (diff_any b c _).mono ?_
            rintro e w' ⟨rfl, rfl⟩
            rw [HY.out]
            go_wp2_with fail
            refine (diff_any a c _).mono ?_
            rintro e w' ⟨rfl, rfl⟩
            rw [HZ.out]
            go_wp2_with fail
            refine (rdiff_any a b _).mono ?_
            rintro e w' ⟨rfl, rfl⟩
            rw [HX.out]
            go_wp2_with fail
            refine (diff_any a a _).mono ?_
            rintro e w' ⟨rfl, rfl⟩
            rw [H0.out]
            go_wp2_with fail
            refine (diff_any b a _).mono ?_
            rintro e w' ⟨rfl, rfl⟩
            rw [HT.out]
            go_wp2_with fail
            refine (awake3_any _).mono ?_
            rintro e w1 ⟨rfl, hw1⟩
            go_wp2_with fail
            go_ret
            exact ⟨rfl, hw1⟩
        · have hd : decide (-2305843009213693952 < y) = false := decide_eq_false c3
          clear HA
          go_enter Try.func7, Try.ntmps7
          go_wp2_with fail
          refine (diff_any a b _).mono ?_
          rintro e w' ⟨rfl, rfl⟩
          rw [HX.out]
          go_wp2_with fail
          refine (diff_any b c _).mono ?_
          rintro e w' ⟨rfl, rfl⟩
          rw [HY.out]
          go_wp2_with fail
          refine (diff_any a c _).mono ?_
          rintro e w' ⟨rfl, rfl⟩
          rw [HZ.out]
          go_wp2_with fail
          refine (rdiff_any a b _).mono ?_
          rintro e w' ⟨rfl, rfl⟩
          rw [HX.out]
          go_wp2_with fail
          refine (diff_any a a _).mono ?_
          rintro e w' ⟨rfl, rfl⟩
          rw [H0.out]
          go_wp2_with fail
          refine (diff_any b a _).mono ?_
          rintro e w' ⟨rfl, rfl⟩
          rw [HT.out]
          go_wp2_with fail
          refine (awake3_any _).mono ?_
          rintro e w1 ⟨rfl, hw1⟩
          go_wp2_with fail
          go_ret
          exact ⟨rfl, hw1⟩
      · have hd : decide (x < 2305843009213693952) = false := decide_eq_false c2
        clear HA
        go_enter Try.func7, Try.ntmps7
        go_wp2_with fail
        refine (diff_any a b _).mono ?_
        rintro e w' ⟨rfl, rfl⟩
        rw [HX.out]
        go_wp2_with fail
        refine (diff_any b c _).mono ?_
        rintro e w' ⟨rfl, rfl⟩
        rw [HY.out]
        go_wp2_with fail
        refine (diff_any a c _).mono ?_
        rintro e w' ⟨rfl, rfl⟩
        rw [HZ.out]
        go_wp2_with fail
        refine (rdiff_any a b _).mono ?_
        rintro e w' ⟨rfl, rfl⟩
        rw [HX.out]
        go_wp2_with fail
        refine (diff_any a a _).mono ?_
        rintro e w' ⟨rfl, rfl⟩
        rw [H0.out]
        go_wp2_with fail
        refine (diff_any b a _).mono ?_
        rintro e w' ⟨rfl, rfl⟩
        rw [HT.out]
        go_wp2_with fail
        refine (awake3_any _).mono ?_
        rintro e w1 ⟨rfl, hw1⟩
        go_wp2_with fail
        go_ret
        exact ⟨rfl, hw1⟩
    · have hd : decide (-2305843009213693952 < x) = false := decide_eq_false c1
      clear HA
      go_enter Try.func7, Try.ntmps7
      go_wp2_with fail
      refine (diff_any a b _).mono ?_
      rintro e w' ⟨rfl, rfl⟩
      rw [HX.out]
      go_wp2_with fail
      refine (diff_any b c _).mono ?_
      rintro e w' ⟨rfl, rfl⟩
      rw [HY.out]
      go_wp2_with fail
      refine (diff_any a c _).mono ?_
      rintro e w' ⟨rfl, rfl⟩
      rw [HZ.out]
      go_wp2_with fail
      refine (rdiff_any a b _).mono ?_
      rintro e w' ⟨rfl, rfl⟩
      rw [HX.out]
      go_wp2_with fail
      refine (diff_any a a _).mono ?_
      rintro e w' ⟨rfl, rfl⟩
      rw [H0.out]
      go_wp2_with fail
      refine (diff_any b a _).mono ?_
      rintro e w' ⟨rfl, rfl⟩
      rw [HT.out]
      go_wp2_with fail
      refine (awake3_any _).mono ?_
      rintro e w1 ⟨rfl, hw1⟩
      go_wp2_with fail
      go_ret
      exact ⟨rfl, hw1⟩

theorem stampBack_walk (t p : Int) (w : World) (h0 : -9223372036854775808 ≤ t) (h1 : t ≤ 9223372036854775807) :
    Calls Try.prog 5 #[.int .i64 t, .int .i64 p] w fun e w' => e = .returned (.bool true) ∧ Below w.heap.size w w' := by
  by_cases ht : -8000000000000000000 ≤ t ∧ t ≤ 8000000000000000000
  · obtain ⟨t0, t1⟩ := ht
    have DT := Lib.hid (decide_eq_true (And.intro t0 t1))
    have hb := tim_back (t := t) (p := t) (by omega) (by omega)
    have HB := Lib.hid (timE_yes (s := ofI t) (p := t) t0 t1 (by rw [hb]; exact t0) (by rw [hb]; exact t1))
    have HBT := Lib.hid hb
    clear hb
    by_cases hp : -8000000000000000000 ≤ p ∧ p ≤ 8000000000000000000
    · obtain ⟨p0, p1⟩ := hp
      have DP := Lib.hid (decide_eq_true (And.intro p0 p1))
      by_cases ha : apa t p < 2147483648000000000
      · have hc := tim_back (t := t) (p := p) (by unfold apa at ha; split at ha <;> omega) (by unfold apa at ha; split at ha <;> omega)
        have HC := Lib.hid (timE_yes (s := ofI t) (p := p) p0 p1 (by rw [hc]; exact t0) (by rw [hc]; exact t1))
        have HCT := Lib.hid hc
        obtain ⟨d, hd⟩ : ∃ d, apa t p = d := ⟨_, rfl⟩
        rw [hd] at ha
        have HD := Lib.hid hd
        clear hc hd
        go_enter Try.func5, Try.ntmps5
        go_wp2_with fail
        refine (inside_any t _).mono ?_
        rintro e w' ⟨rfl, rfl⟩
        rw [DT.out]
        go_wp2_with fail
        refine (of_any t _ h0 h1).mono ?_
        rintro e w' ⟨rfl, rfl⟩
        go_wp2_with fail
        refine (time_any (ofI t) t _).mono ?_
        rintro e w' ⟨rfl, n1, rfl⟩
        rw [HB.out.1, HB.out.2, HBT.out]
        go_wp2_with fail
        refine (inside_any p _).mono ?_
        rintro e w' ⟨rfl, rfl⟩
        rw [DP.out]
        go_wp2_with fail
        refine (apart_any t p _ t0 t1 p0 p1).mono ?_
        rintro e w' ⟨rfl, rfl⟩
        rw [HD.out]
        go_wp2_with fail
        refine (of_any t _ h0 h1).mono ?_
        rintro e w' ⟨rfl, rfl⟩
        go_wp2_with fail
        refine (time_any (ofI t) p _).mono ?_
        rintro e w' ⟨rfl, n2, rfl⟩
        rw [HC.out.1, HC.out.2, HCT.out]
        go_wp2_with fail
        refine (awake3_any _).mono ?_
        rintro e w1 ⟨rfl, hw1⟩
        go_wp2_with fail
        go_ret
        exact ⟨rfl, (below_drewN (Below.refl _ _) _).trans hw1⟩
      · obtain ⟨d, hd⟩ : ∃ d, apa t p = d := ⟨_, rfl⟩
        rw [hd] at ha
        have ha' : 2147483648000000000 ≤ d := by omega
        have HD := Lib.hid hd
        clear hd
        go_enter Try.func5, Try.ntmps5
        go_wp2_with fail
        refine (inside_any t _).mono ?_
        rintro e w' ⟨rfl, rfl⟩
        rw [DT.out]
        go_wp2_with fail
        refine (of_any t _ h0 h1).mono ?_
        rintro e w' ⟨rfl, rfl⟩
        go_wp2_with fail
        refine (time_any (ofI t) t _).mono ?_
        rintro e w' ⟨rfl, n1, rfl⟩
        rw [HB.out.1, HB.out.2, HBT.out]
        go_wp2_with fail
        refine (inside_any p _).mono ?_
        rintro e w' ⟨rfl, rfl⟩
        rw [DP.out]
        go_wp2_with fail
        refine (apart_any t p _ t0 t1 p0 p1).mono ?_
        rintro e w' ⟨rfl, rfl⟩
        rw [HD.out]
        go_wp2_with fail
        refine (awake3_any _).mono ?_
        rintro e w1 ⟨rfl, hw1⟩
        go_wp2_with fail
        go_ret
        exact ⟨rfl, (below_drewN (Below.refl _ _) _).trans hw1⟩
    · have DP := Lib.hid (decide_eq_false hp)
      clear hp
      go_enter Try.func5, Try.ntmps5
      go_wp2_with fail
      refine (inside_any t _).mono ?_
      rintro e w' ⟨rfl, rfl⟩
      rw [DT.out]
      go_wp2_with fail
      refine (of_any t _ h0 h1).mono ?_
      rintro e w' ⟨rfl, rfl⟩
      go_wp2_with fail
      refine (time_any (ofI t) t _).mono ?_
      rintro e w' ⟨rfl, n1, rfl⟩
      rw [HB.out.1, HB.out.2, HBT.out]
      go_wp2_with fail
      refine (inside_any p _).mono ?_
      rintro e w' ⟨rfl, rfl⟩
      rw [DP.out]
      go_wp2_with fail
      refine (awake3_any _).mono ?_
      rintro e w1 ⟨rfl, hw1⟩
      go_wp2_with fail
      go_ret
      exact ⟨rfl, (below_drewN (Below.refl _ _) _).trans hw1⟩
  · have DT := Lib.hid (decide_eq_false ht)
    clear ht
    go_enter Try.func5, Try.ntmps5
    go_wp2_with fail
    refine (inside_any t _).mono ?_
    rintro e w' ⟨rfl, rfl⟩
    rw [DT.out]
    go_wp2_with fail
    refine (awake3_any _).mono ?_
    rintro e w1 ⟨rfl, hw1⟩
    go_wp2_with fail
    go_ret
    exact ⟨rfl, hw1⟩

theorem stampNearest_walk (s p : Int) (w : World) :
    Calls Try.prog 6 #[.int .u64 s, .int .i64 p] w fun e w' => e = .returned (.bool true) ∧ Below w.heap.size w w' := by
  by_cases hp : -8000000000000000000 ≤ p ∧ p ≤ 8000000000000000000
  · obtain ⟨p0, p1⟩ := hp
    have DP := Lib.hid (decide_eq_true (And.intro p0 p1))
    have hn := tim_near s p
    have hd := dif_tim s p
    by_cases ht : -8000000000000000000 ≤ tim s p ∧ tim s p ≤ 8000000000000000000
    · obtain ⟨t0, t1⟩ := ht
      have HE := Lib.hid (timE_yes (s := s) (p := p) p0 p1 t0 t1)
      obtain ⟨t, hT⟩ : ∃ t, tim s p = t := ⟨_, rfl⟩
      rw [hT] at t0 t1 hn hd
      have DT := Lib.hid (decide_eq_true (And.intro t0 t1))
      obtain ⟨d, hdd⟩ : ∃ d, dif (ofI t) s = d := ⟨_, rfl⟩
      rw [hdd] at hd
      obtain ⟨d0, d1⟩ := hd
      obtain ⟨g, hg⟩ : ∃ g, apa t p = g := ⟨_, rfl⟩
      have g1 : g ≤ 2147483648000000001 := by rw [← hg]; unfold apa; split <;> omega
      have HT := Lib.hid hT
      have HD := Lib.hid hdd
      have HG := Lib.hid hg
      clear hT hdd hg hn
      go_enter Try.func6, Try.ntmps6
      go_wp2_with fail
      refine (time_any s p _).mono ?_
      rintro e w' ⟨rfl, n1, rfl⟩
      rw [HE.out.1, HE.out.2, HT.out]
      go_wp2_with fail
      refine (inside_any p _).mono ?_
      rintro e w' ⟨rfl, rfl⟩
      rw [DP.out]
      go_wp2_with fail
      refine (of_any t _ (by omega) (by omega)).mono ?_
      rintro e w' ⟨rfl, rfl⟩
      go_wp2_with fail
      refine (diff_any (ofI t) s _).mono ?_
      rintro e w' ⟨rfl, rfl⟩
      rw [HD.out]
      go_wp2_with fail
      refine (inside_any t _).mono ?_
      rintro e w' ⟨rfl, rfl⟩
      rw [DT.out]
      go_wp2_with fail
      refine (apart_any t p _ t0 t1 p0 p1).mono ?_
      rintro e w' ⟨rfl, rfl⟩
      rw [HG.out]
      go_wp2_with fail
      refine (awake3_any _).mono ?_
      rintro e w1 ⟨rfl, hw1⟩
      go_wp2_with fail
      go_ret
      exact ⟨rfl, (below_drewN (Below.refl _ _) _).trans hw1⟩
    · have HE := Lib.hid (timE_far (s := s) (p := p) p0 p1 (by omega))
      have hq : 5852516351999999998 < p ∨ p < -5852516351999999998 := by omega
      clear hn hd ht
      by_cases hq1 : 5852516351999999998 < p
      · clear hq
        go_enter Try.func6, Try.ntmps6
        go_wp2_with fail
        refine (time_any s p _).mono ?_
        rintro e w' ⟨rfl, n1, rfl⟩
        rw [HE.out.1, HE.out.2]
        go_wp2_with fail
        refine (inside_any p _).mono ?_
        rintro e w' ⟨rfl, rfl⟩
        rw [DP.out]
        go_wp2_with fail
        refine (awake3_any _).mono ?_
        rintro e w1 ⟨rfl, hw1⟩
        go_wp2_with fail
        go_ret
        exact ⟨rfl, (below_drewN (Below.refl _ _) _).trans hw1⟩
      · have hq2 : p < -5852516351999999998 := by omega
        have hdq : decide (5852516351999999998 < p) = false := decide_eq_false hq1
        clear hq
        go_enter Try.func6, Try.ntmps6
        go_wp2_with fail
        refine (time_any s p _).mono ?_
        rintro e w' ⟨rfl, n1, rfl⟩
        rw [HE.out.1, HE.out.2]
        go_wp2_with fail
        refine (inside_any p _).mono ?_
        rintro e w' ⟨rfl, rfl⟩
        rw [DP.out]
        go_wp2_with fail
        refine (awake3_any _).mono ?_
        rintro e w1 ⟨rfl, hw1⟩
        go_wp2_with fail
        go_ret
        exact ⟨rfl, (below_drewN (Below.refl _ _) _).trans hw1⟩
  · have DP := Lib.hid (decide_eq_false hp)
    have HE := Lib.hid (timE_arg (s := s) (p := p) (by omega))
    clear hp
    go_enter Try.func6, Try.ntmps6
    go_wp2_with fail
    refine (time_any s p _).mono ?_
    rintro e w' ⟨rfl, n1, rfl⟩
    rw [HE.out.1, HE.out.2]
    go_wp2_with fail
    refine (inside_any p _).mono ?_
    rintro e w' ⟨rfl, rfl⟩
    rw [DP.out]
    go_wp2_with fail
    refine (awake3_any _).mono ?_
    rintro e w1 ⟨rfl, hw1⟩
    go_wp2_with fail
    go_ret
    exact ⟨rfl, (below_drewN (Below.refl _ _) _).trans hw1⟩

theorem stampOrder_walk (a b : Int) (w : World) :
    Calls Try.prog 11 #[.int .i64 a, .int .i64 b] w fun e w' => e = .returned (.bool true) ∧ Below w.heap.size w w' := by
  by_cases ha : -8000000000000000000 ≤ a ∧ a ≤ 8000000000000000000
  · obtain ⟨a0, a1⟩ := ha
    have DA := Lib.hid (decide_eq_true (And.intro a0 a1))
    by_cases hb : -8000000000000000000 ≤ b ∧ b ≤ 8000000000000000000
    · obtain ⟨b0, b1⟩ := hb
      have DB := Lib.hid (decide_eq_true (And.intro b0 b1))
      by_cases hg : apa a b < 2147483648000000000
      · by_cases hab : b < a
        · have h1 : a - b < 2147483648000000000 := by unfold apa at hg; split at hg <;> omega
          have k1 := dif_of_le (a := b) (b := a) (by omega) h1
          have k2 := era_le (a := b) (b := a) (by omega) h1
          obtain ⟨g, hgg⟩ : ∃ g, apa a b = g := ⟨_, rfl⟩
          rw [hgg] at hg
          obtain ⟨d, hd⟩ : ∃ d, dif (ofI a) (ofI b) = d := ⟨_, rfl⟩
          obtain ⟨m, hm⟩ : ∃ m, era a = m := ⟨_, rfl⟩
          obtain ⟨n, hn⟩ : ∃ n, era b = n := ⟨_, rfl⟩
          have m0 : -10 ≤ m := by rw [← hm]; unfold era; omega
          have m1 : m ≤ 10 := by rw [← hm]; unfold era; omega
          rw [hd] at k1
          rw [hm, hn] at k2
          obtain ⟨k2, k3⟩ := k2
          have n0 : n ≤ 10 := by omega
          have n1 : -11 ≤ n := by omega
          have HG := Lib.hid hgg
          have HD := Lib.hid hd
          have HM := Lib.hid hm
          have HN := Lib.hid hn
          clear hgg hd hm hn
          go_enter Try.func11, Try.ntmps11
          go_wp2_with fail
          refine (inside_any a _).mono ?_
          rintro e w' ⟨rfl, rfl⟩
          rw [DA.out]
          go_wp2_with fail
          refine (inside_any b _).mono ?_
          rintro e w' ⟨rfl, rfl⟩
          rw [DB.out]
          go_wp2_with fail
          refine (apart_any a b _ a0 a1 b0 b1).mono ?_
          rintro e w' ⟨rfl, rfl⟩
          rw [HG.out]
          go_wp2_with fail
          refine (of_any a _ (by omega) (by omega)).mono ?_
          rintro e w' ⟨rfl, rfl⟩
          go_wp2_with fail
          refine (of_any b _ (by omega) (by omega)).mono ?_
          rintro e w' ⟨rfl, rfl⟩
          go_wp2_with fail
          refine (diff_any (ofI a) (ofI b) _).mono ?_
          rintro e w' ⟨rfl, rfl⟩
          rw [HD.out]
          go_wp2_with fail
          refine (era_any a _ (by omega) (by omega)).mono ?_
          rintro e w' ⟨rfl, rfl⟩
          rw [HM.out]
          go_wp2_with fail
          refine (era_any b _ (by omega) (by omega)).mono ?_
          rintro e w' ⟨rfl, rfl⟩
          rw [HN.out]
          go_wp2_with fail
          refine (era_any a _ (by omega) (by omega)).mono ?_
          rintro e w' ⟨rfl, rfl⟩
          rw [HM.out]
          go_wp2_with fail
          refine (era_any b _ (by omega) (by omega)).mono ?_
          rintro e w' ⟨rfl, rfl⟩
          rw [HN.out]
          go_wp2_with fail
          refine (awake3_any _).mono ?_
          rintro e w1 ⟨rfl, hw1⟩
          go_wp2_with fail
          go_ret
          exact ⟨rfl, hw1⟩
        · have h1 : b - a < 2147483648000000000 := by unfold apa at hg; split at hg <;> omega
          have k1 := dif_of_le (a := a) (b := b) (by omega) h1
          have k2 := era_le (a := a) (b := b) (by omega) h1
          obtain ⟨g, hgg⟩ : ∃ g, apa a b = g := ⟨_, rfl⟩
          rw [hgg] at hg
          obtain ⟨d, hd⟩ : ∃ d, dif (ofI b) (ofI a) = d := ⟨_, rfl⟩
          obtain ⟨m, hm⟩ : ∃ m, era b = m := ⟨_, rfl⟩
          obtain ⟨n, hn⟩ : ∃ n, era a = n := ⟨_, rfl⟩
          have m0 : -10 ≤ m := by rw [← hm]; unfold era; omega
          have m1 : m ≤ 10 := by rw [← hm]; unfold era; omega
          rw [hd] at k1
          rw [hm, hn] at k2
          obtain ⟨k2, k3⟩ := k2
          have n0 : n ≤ 10 := by omega
          have n1 : -11 ≤ n := by omega
          have HG := Lib.hid hgg
          have HD := Lib.hid hd
          have HM := Lib.hid hm
          have HN := Lib.hid hn
          clear hgg hd hm hn
          go_enter Try.func11, Try.ntmps11
          go_wp2_with fail
          refine (inside_any a _).mono ?_
          rintro e w' ⟨rfl, rfl⟩
          rw [DA.out]
          go_wp2_with fail
          refine (inside_any b _).mono ?_
          rintro e w' ⟨rfl, rfl⟩
          rw [DB.out]
          go_wp2_with fail
          refine (apart_any a b _ a0 a1 b0 b1).mono ?_
          rintro e w' ⟨rfl, rfl⟩
          rw [HG.out]
          go_wp2_with fail
          refine (of_any b _ (by omega) (by omega)).mono ?_
          rintro e w' ⟨rfl, rfl⟩
          go_wp2_with fail
          refine (of_any a _ (by omega) (by omega)).mono ?_
          rintro e w' ⟨rfl, rfl⟩
          go_wp2_with fail
          refine (diff_any (ofI b) (ofI a) _).mono ?_
          rintro e w' ⟨rfl, rfl⟩
          rw [HD.out]
          go_wp2_with fail
          refine (era_any b _ (by omega) (by omega)).mono ?_
          rintro e w' ⟨rfl, rfl⟩
          rw [HM.out]
          go_wp2_with fail
          refine (era_any a _ (by omega) (by omega)).mono ?_
          rintro e w' ⟨rfl, rfl⟩
          rw [HN.out]
          go_wp2_with fail
          refine (era_any b _ (by omega) (by omega)).mono ?_
          rintro e w' ⟨rfl, rfl⟩
          rw [HM.out]
          go_wp2_with fail
          refine (era_any a _ (by omega) (by omega)).mono ?_
          rintro e w' ⟨rfl, rfl⟩
          rw [HN.out]
          go_wp2_with fail
          refine (awake3_any _).mono ?_
          rintro e w1 ⟨rfl, hw1⟩
          go_wp2_with fail
          go_ret
          exact ⟨rfl, hw1⟩
      · obtain ⟨g, hgg⟩ : ∃ g, apa a b = g := ⟨_, rfl⟩
        rw [hgg] at hg
        have hg' : 2147483648000000000 ≤ g := by omega
        have HG := Lib.hid hgg
        clear hgg
        go_enter Try.func11, Try.ntmps11
        go_wp2_with fail
        refine (inside_any a _).mono ?_
        rintro e w' ⟨rfl, rfl⟩
        rw [DA.out]
        go_wp2_with fail
        refine (inside_any b _).mono ?_
        rintro e w' ⟨rfl, rfl⟩
        rw [DB.out]
        go_wp2_with fail
        refine (apart_any a b _ a0 a1 b0 b1).mono ?_
        rintro e w' ⟨rfl, rfl⟩
        rw [HG.out]
        go_wp2_with fail
        refine (awake3_any _).mono ?_
        rintro e w1 ⟨rfl, hw1⟩
        go_wp2_with fail
        go_ret
        exact ⟨rfl, hw1⟩
    · have DB := Lib.hid (decide_eq_false hb)
      clear hb
      go_enter Try.func11, Try.ntmps11
      go_wp2_with fail
      refine (inside_any a _).mono ?_
      rintro e w' ⟨rfl, rfl⟩
      rw [DA.out]
      go_wp2_with fail
      refine (inside_any b _).mono ?_
      rintro e w' ⟨rfl, rfl⟩
      rw [DB.out]
      go_wp2_with fail
      refine (awake3_any _).mono ?_
      rintro e w1 ⟨rfl, hw1⟩
      go_wp2_with fail
      go_ret
      exact ⟨rfl, hw1⟩
  · have DA := Lib.hid (decide_eq_false ha)
    clear ha
    go_enter Try.func11, Try.ntmps11
    go_wp2_with fail
    refine (inside_any a _).mono ?_
    rintro e w' ⟨rfl, rfl⟩
    rw [DA.out]
    go_wp2_with fail
    refine (awake3_any _).mono ?_
    rintro e w1 ⟨rfl, hw1⟩
    go_wp2_with fail
    go_ret
    exact ⟨rfl, hw1⟩
end Go.Proofs.Ytemflgjfoappaaa
