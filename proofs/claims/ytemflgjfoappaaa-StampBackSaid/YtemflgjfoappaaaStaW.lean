/- The walks of the statements of layer 3. -/
import Derived.Test.YtemflgjfoappaaaStaV
namespace Go.Proofs.Ytemflgjfoappaaa
open Go.RowKit Fx St

theorem stampOf_walk (t : Int) (w : World) (h0 : -9223372036854775808 ≤ t) (h1 : t ≤ 9223372036854775807) :
    Calls Try.prog 3 #[.int .i64 t] w fun e w' => e = .returned (.bool true) ∧ Below w.heap.size w w' := by
  go_enter Try.func3, Try.ntmps3
  go_wp2_with fail
  refine (of_any t _ h0 h1).mono ?_
  rintro e w' ⟨rfl, rfl⟩
  go_wp2_with fail
  refine (rof_any t _ h0 h1).mono ?_
  rintro e w' ⟨rfl, rfl⟩
  go_wp2_with fail
  refine (era_any t _ h0 h1).mono ?_
  rintro e w' ⟨rfl, rfl⟩
  go_wp2_with fail
  refine (rera_any t _ h0 h1).mono ?_
  rintro e w' ⟨rfl, rfl⟩
  go_wp2_with fail
  refine (awake3_any _).mono ?_
  rintro e w1 ⟨rfl, hw1⟩
  go_wp2_with fail
  go_ret
  exact ⟨rfl, hw1⟩

theorem stampTime_walk (s p : Int) (w : World) :
    Calls Try.prog 4 #[.int .u64 s, .int .i64 p] w fun e w' => e = .returned (.bool true) ∧ Below w.heap.size w w' := by
  go_enter Try.func4, Try.ntmps4
  go_wp2_with fail
  refine (time_any s p _).mono ?_
  rintro e w' ⟨rfl, n1, rfl⟩
  go_wp2_with fail
  refine (rtime_any s p _).mono ?_
  rintro e w' ⟨rfl, rfl⟩
  go_wp2_with fail
  refine (awake3_any _).mono ?_
  rintro e w1 ⟨rfl, hw1⟩
  go_wp2_with fail
  go_ret
  exact ⟨rfl, (below_drewN (Below.refl _ _) _).trans hw1⟩

theorem stampUnits_walk (t u : Int) (w : World) (h0 : -9223372036854775808 ≤ t) (h1 : t ≤ 9223372036854775807) (u0 : -9223372036854775808 ≤ u) (u1 : u ≤ 9223372036854775807) :
    Calls Try.prog 8 #[.int .i64 t, .int .i64 u] w fun e w' => e = .returned (.bool true) ∧ Below w.heap.size w w' := by
  by_cases h : t < -2147483648000000000 ∨ 2147483648000000000 ≤ t
  · have H := Lib.hid h
    clear h
    go_enter Try.func8, Try.ntmps8
    go_wp2_with fail
    refine (units_no t _ h0 h1 H.out).mono ?_
    rintro e w' ⟨rfl, n1, rfl⟩
    go_wp2_with fail
    refine (runits_no t _ h0 h1 H.out).mono ?_
    rintro e w' ⟨rfl, rfl⟩
    go_wp2_with fail
    refine (nanos_any u _ u0 u1).mono ?_
    rintro e w' ⟨rfl, n2, rfl⟩
    go_wp2_with fail
    refine (rnanos_any u _ u0 u1).mono ?_
    rintro e w' ⟨rfl, rfl⟩
    go_wp2_with fail
    refine (awake3_any _).mono ?_
    rintro e w1 ⟨rfl, hw1⟩
    go_wp2_with fail
    go_ret
    exact ⟨rfl, (below_drewN (Below.refl _ _) _).trans hw1⟩
  · have H := Lib.hid h
    have k0 : -9223372036854775808 ≤ uni t := by unfold uni; omega
    have k1 : uni t ≤ 9223372036854775807 := by unfold uni; omega
    clear h
    go_enter Try.func8, Try.ntmps8
    go_wp2_with fail
    refine (units_yes t _ (by have := H.out; omega) (by have := H.out; omega)).mono ?_
    rintro e w' ⟨rfl, n1, rfl⟩
    go_wp2_with fail
    refine (runits_yes t _ (by have := H.out; omega) (by have := H.out; omega)).mono ?_
    rintro e w' ⟨rfl, rfl⟩
    go_wp2_with fail
    refine (nanos_any u _ u0 u1).mono ?_
    rintro e w' ⟨rfl, n2, rfl⟩
    go_wp2_with fail
    refine (rnanos_any u _ u0 u1).mono ?_
    rintro e w' ⟨rfl, rfl⟩
    go_wp2_with fail
    refine (nanos_any (uni t) _ k0 k1).mono ?_
    rintro e w' ⟨rfl, n3, rfl⟩
    rw [cei_uni]
    go_wp2_with fail
    refine (awake3_any _).mono ?_
    rintro e w1 ⟨rfl, hw1⟩
    go_wp2_with fail
    go_ret
    exact ⟨rfl, (below_drewN (Below.refl _ _) _).trans hw1⟩

theorem stampShort_walk (t s : Int) (w : World) (h0 : -9223372036854775808 ≤ t) (h1 : t ≤ 9223372036854775807) (u0 : 0 ≤ s) (u1 : s ≤ 4294967295) :
    Calls Try.prog 9 #[.int .i64 t, .int .u32 s] w fun e w' => e = .returned (.bool true) ∧ Below w.heap.size w w' := by
  by_cases h : t < 0 ∨ 4294967295 < sho t
  · have H := Lib.hid h
    clear h
    go_enter Try.func9, Try.ntmps9
    go_wp2_with fail
    refine (short_no t _ h0 h1 H.out).mono ?_
    rintro e w' ⟨rfl, n1, rfl⟩
    go_wp2_with fail
    refine (rshort_no t _ h0 h1 H.out).mono ?_
    rintro e w' ⟨rfl, rfl⟩
    go_wp2_with fail
    refine (long_any s _ u0 u1).mono ?_
    rintro e w' ⟨rfl, rfl⟩
    go_wp2_with fail
    refine (rlong_any s _ u0 u1).mono ?_
    rintro e w' ⟨rfl, rfl⟩
    go_wp2_with fail
    refine (awake3_any _).mono ?_
    rintro e w1 ⟨rfl, hw1⟩
    go_wp2_with fail
    go_ret
    exact ⟨rfl, (below_drewN (Below.refl _ _) _).trans hw1⟩
  · have t0 : 0 ≤ t := by omega
    have H : Hid (sho t ≤ 4294967295) := Lib.hid (by omega)
    obtain ⟨v, hv⟩ : ∃ v, sho t = v := ⟨_, rfl⟩
    have v0 : 0 ≤ v := by rw [← hv]; unfold sho; omega
    have v1 : v ≤ 4294967295 := by rw [← hv]; exact H.out
    obtain ⟨y, hy⟩ : ∃ y, lon v = y := ⟨_, rfl⟩
    have y0 : t ≤ y := by rw [← hy, ← hv]; unfold lon sho; omega
    have y1 : y - t < 15260 := by rw [← hy, ← hv]; unfold lon sho; omega
    have y2 : y ≤ 65536000000000 := by rw [← hy]; unfold lon; omega
    have HV := Lib.hid hv
    have HY := Lib.hid hy
    clear h hv hy
    go_enter Try.func9, Try.ntmps9
    go_wp2_with fail
    refine (short_yes t _ t0 h1 H.out).mono ?_
    rintro e w' ⟨rfl, n1, rfl⟩
    go_wp2_with fail
    refine (rshort_yes t _ t0 h1 H.out).mono ?_
    rintro e w' ⟨rfl, rfl⟩
    rw [HV.out]
    go_wp2_with fail
    refine (long_any s _ u0 u1).mono ?_
    rintro e w' ⟨rfl, rfl⟩
    go_wp2_with fail
    refine (rlong_any s _ u0 u1).mono ?_
    rintro e w' ⟨rfl, rfl⟩
    go_wp2_with fail
    refine (long_any v _ v0 v1).mono ?_
    rintro e w' ⟨rfl, rfl⟩
    rw [HY.out]
    go_wp2_with fail
    refine (awake3_any _).mono ?_
    rintro e w1 ⟨rfl, hw1⟩
    go_wp2_with fail
    go_ret
    exact ⟨rfl, (below_drewN (Below.refl _ _) _).trans hw1⟩

set_option maxRecDepth 100000 in
theorem stampTexts_walk (n : Int) (s : ByteArray) (w : World) (h0 : 0 ≤ n) (h1 : n ≤ 18446744073709551615) (hs : s.size ≤ maxLen) :
    Calls Try.prog 10 #[.int .u64 n, .string s] w fun e w' => e = .returned (.bool true) ∧ Below w.heap.size w w' := by
  unfold maxLen at hs
  have hsz : (strOfNums (txL n)).size ≤ 9223372036854775807 := by rw [strOfNums_size, txL_len]; decide
  obtain ⟨T, hT⟩ : ∃ T, strOfNums (txL n) = T := ⟨_, rfl⟩
  have hb : bys T = txL n := by rw [← hT]; exact bytes_of (txL_byte n)
  have hv := pV_txL h0 h1
  rw [← hb] at hv
  rw [hT] at hsz
  have HV := Lib.hid hv
  have HT := Lib.hid hT
  clear hb hv hT
  have pb := pV_bounds (bys s)
  by_cases hg : Hexy (bys s)
  · obtain ⟨hE, hV⟩ := good_yes hg
    have hx : strOfNums (txL (pV (bys s))) = s := by rw [txL_pV hg]; exact of_bytes s
    have HX := Lib.hid hx
    have HE := Lib.hid hE
    clear hE hV hx hg
    go_enter Try.func10, Try.ntmps10
    go_wp2_with fail
    refine (parse_any s _ hs).mono ?_
    rintro e w' ⟨rfl, rfl⟩
    rw [HE.out]
    go_wp2_with fail
    refine (rparse_any s _ hs).mono ?_
    rintro e w' ⟨rfl, rfl⟩
    rw [HE.out]
    go_wp2_with fail
    refine (text_any n _ h0 h1).mono ?_
    rintro e w1 ⟨rfl, hw1⟩
    rw [HT.out]
    go_wp2_with fail
    refine (parse_any T _ hsz).mono ?_
    rintro e w' ⟨rfl, rfl⟩
    rw [HV.out.1, HV.out.2]
    go_wp2_with fail
    refine (rtext_any n _ h0 h1).mono ?_
    rintro e w2 ⟨rfl, hw2⟩
    rw [HT.out]
    go_wp2_with fail
    refine (text_any (pV (bys s)) _ pb.1 pb.2).mono ?_
    rintro e w3 ⟨rfl, hw3⟩
    rw [HX.out]
    go_wp2_with fail
    refine (awake3_any _).mono ?_
    rintro e w4 ⟨rfl, hw4⟩
    go_wp2_with fail
    go_ret
    exact ⟨rfl, hw1.trans ((hw2.trans ((hw3.trans (hw4.mono hw3.size)).mono hw2.size)).mono hw1.size)⟩
  · obtain ⟨hE, hV⟩ := good_no hg
    have HE := Lib.hid hE
    clear hE hV hg
    go_enter Try.func10, Try.ntmps10
    go_wp2_with fail
    refine (parse_any s _ hs).mono ?_
    rintro e w' ⟨rfl, rfl⟩
    rw [HE.out]
    go_wp2_with fail
    refine (rparse_any s _ hs).mono ?_
    rintro e w' ⟨rfl, rfl⟩
    rw [HE.out]
    go_wp2_with fail
    refine (text_any n _ h0 h1).mono ?_
    rintro e w1 ⟨rfl, hw1⟩
    rw [HT.out]
    go_wp2_with fail
    refine (parse_any T _ hsz).mono ?_
    rintro e w' ⟨rfl, rfl⟩
    rw [HV.out.1, HV.out.2]
    go_wp2_with fail
    refine (rtext_any n _ h0 h1).mono ?_
    rintro e w2 ⟨rfl, hw2⟩
    rw [HT.out]
    go_wp2_with fail
    refine (awake3_any _).mono ?_
    rintro e w4 ⟨rfl, hw4⟩
    go_wp2_with fail
    go_ret
    exact ⟨rfl, hw1.trans ((hw2.trans (hw4.mono hw2.size)).mono hw1.size)⟩
end Go.Proofs.Ytemflgjfoappaaa
