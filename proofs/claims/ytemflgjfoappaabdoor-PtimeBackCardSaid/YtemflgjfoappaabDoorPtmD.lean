/- Contracts of layer 4: Time, corrections. -/
import Derived.Test.YtemflgjfoappaabDoorPtmC
namespace Go.Proofs.YtemflgjfoappaabDoor
open Go.RowKit Fx Pt

theorem ret22p {k k' : IntKind} {a b a' b' : Int} (h : a = a') (h' : b = b') : Ending.returned (.tuple #[.int k a, .int k' b]) = .returned (.tuple #[.int k a', .int k' b']) := by rw [h, h']

theorem ptime_any (s n : Int) (w : World) :
    Calls Tryd.prog 13 #[.agg #[.int .i64 s, .int .i64 n]] w fun e w' => e = .returned (.tuple #[.int .i64 (timV s n), .int .i64 (timE s n)]) ∧ Below w.heap.size w w' := by
  by_cases ho : ok s n = true
  · obtain ⟨s0, s1, n0, n1⟩ := ok_iff.1 ho
    have HK := Lib.hid (chk_yes s0 s1 n0 n1)
    obtain ⟨y, hy⟩ : ∃ y, (s + 2208988800) * 1000000000 = y := ⟨_, rfl⟩
    have hins : ins s n = y + n := by unfold ins; rw [hy]
    by_cases hb : 9223372036854775807 < y
    · have HE : Hid (timE s n = 3 ∧ timV s n = 0) := Lib.hid ⟨if_neg (by omega), if_neg (by omega)⟩
      have HN : Hid (okI ((s + 2208988800) * 1000000000) = false) := Lib.hid (okI_no (by omega))
      clear ho hins hy
      go_enter Tryd.func13, Tryd.ntmps13
      go_wp2_with fail
      refine (pcheck_any s n _).mono ?_
      rintro e w' ⟨rfl, rfl⟩
      rw [HK.out]
      go_wp2_with fail
      refine (mul_no (s + 2208988800) 1000000000 _ (by omega) (by omega) (by decide) (by decide) HN.out).mono ?_
      rintro e w' ⟨rfl, k, rfl⟩
      go_wp2_with fail
      go_ret2
      exact ⟨ret22p HE.out.2.symm HE.out.1.symm, below_drewN (((Below.refl _ _).alloc (Nat.le_refl _) _).alloc (by simp) _) _⟩
    · have HY : Hid (okI ((s + 2208988800) * 1000000000) = true) := Lib.hid (okI_yes (by omega) (by omega))
      have y0 : 2208988800000000000 ≤ y := by omega
      have HYY := Lib.hid hy
      by_cases hc : 8000000000000000000 - n < y
      · have HE : Hid (timE s n = 3 ∧ timV s n = 0) := Lib.hid ⟨if_neg (by omega), if_neg (by omega)⟩
        clear ho hins hy
        go_enter Tryd.func13, Tryd.ntmps13
        go_wp2_with fail
        refine (pcheck_any s n _).mono ?_
        rintro e w' ⟨rfl, rfl⟩
        rw [HK.out]
        go_wp2_with fail
        refine (mul_yes (s + 2208988800) 1000000000 _ (by omega) (by omega) (by decide) (by decide) HY.out).mono ?_
        rintro e w' ⟨rfl, k, rfl⟩
        rw [HYY.out]
        go_wp2_with fail
        go_ret2
        exact ⟨ret22p HE.out.2.symm HE.out.1.symm, below_drewN (((Below.refl _ _).alloc (Nat.le_refl _) _).alloc (by simp) _) _⟩
      · have HE : Hid (timE s n = 0 ∧ timV s n = y + n) := Lib.hid ⟨if_pos ⟨ho, by omega⟩, (if_pos ⟨ho, by omega⟩).trans hins⟩
        clear ho hins hy
        go_enter Tryd.func13, Tryd.ntmps13
        go_wp2_with fail
        refine (pcheck_any s n _).mono ?_
        rintro e w' ⟨rfl, rfl⟩
        rw [HK.out]
        go_wp2_with fail
        refine (mul_yes (s + 2208988800) 1000000000 _ (by omega) (by omega) (by decide) (by decide) HY.out).mono ?_
        rintro e w' ⟨rfl, k, rfl⟩
        rw [HYY.out]
        go_wp2_with fail
        go_ret2
        exact ⟨ret22p HE.out.2.symm HE.out.1.symm, below_drewN (((Below.refl _ _).alloc (Nat.le_refl _) _).alloc (by simp) _) _⟩
  · have hk : chk s n = 3 := if_neg ho
    have HK := Lib.hid hk
    have HE : Hid (timE s n = 3 ∧ timV s n = 0) := Lib.hid ⟨if_neg (fun h => ho h.1), if_neg (fun h => ho h.1)⟩
    clear ho hk
    go_enter Tryd.func13, Tryd.ntmps13
    go_wp2_with fail
    refine (pcheck_any s n _).mono ?_
    rintro e w' ⟨rfl, rfl⟩
    rw [HK.out]
    go_wp2_with fail
    go_ret2
    exact ⟨ret22p HE.out.2.symm HE.out.1.symm, ((Below.refl _ _).alloc (Nat.le_refl _) _).alloc (by simp) _⟩

theorem corr_yes (a : Int) (w : World) (h0 : -9223372036854775808 ≤ a) (h1 : a ≤ 9223372036854775807) (h : okI (a * 65536) = true) :
    Calls Tryd.prog 18 #[.int .i64 a] w fun e w' => e = .returned (.tuple #[.int .i64 (a * 65536), .int .i64 0]) ∧ ∃ k, w' = w.drewN k := by
  have H := Lib.hid h
  obtain ⟨y, hy⟩ : ∃ y, a * 65536 = y := ⟨_, rfl⟩
  have HY := Lib.hid hy
  clear h hy
  go_enter Tryd.func18, Tryd.ntmps18
  go_wp2_with fail
  refine (mul_yes a 65536 _ h0 h1 (by decide) (by decide) H.out).mono ?_
  rintro e w' ⟨rfl, k, rfl⟩
  rw [HY.out]
  go_wp2_with fail
  go_ret2
  exact ⟨ret22p HY.out.symm rfl, k, rfl⟩
theorem corr_no (a : Int) (w : World) (h0 : -9223372036854775808 ≤ a) (h1 : a ≤ 9223372036854775807) (h : okI (a * 65536) = false) :
    Calls Tryd.prog 18 #[.int .i64 a] w fun e w' => e = .returned (.tuple #[.int .i64 0, .int .i64 3]) ∧ ∃ k, w' = w.drewN k := by
  have H := Lib.hid h
  clear h
  go_enter Tryd.func18, Tryd.ntmps18
  go_wp2_with fail
  refine (mul_no a 65536 _ h0 h1 (by decide) (by decide) H.out).mono ?_
  rintro e w' ⟨rfl, k, rfl⟩
  go_wp2_with fail
  go_ret2
  exact ⟨rfl, k, rfl⟩
theorem pnanos_any (a : Int) (w : World) (h0 : -9223372036854775808 ≤ a) (h1 : a ≤ 9223372036854775807) :
    Calls Tryd.prog 17 #[.int .i64 a] w fun e w' => e = .returned (.int .i64 (a / 65536)) ∧ w = w' := by
  have HQ : Hid (qok a 65536 = true ∧ flo a 65536 = a / 65536) := Lib.hid ⟨by rw [qok_iff, show flo a 65536 = a / 65536 from if_pos (by decide)]; omega, if_pos (by decide)⟩
  go_enter Tryd.func17, Tryd.ntmps17
  go_wp2_with fail
  refine (floor_yes a 65536 _ h0 h1 (by decide) (by decide) HQ.out.1).mono ?_
  rintro e w' ⟨rfl, rfl⟩
  rw [HQ.out.2]
  go_wp2_with fail
  go_ret
  exact ⟨rfl, rfl⟩
theorem addcorr_yes (a b : Int) (w : World) (h0 : -9223372036854775808 ≤ a) (h1 : a ≤ 9223372036854775807) (h2 : -9223372036854775808 ≤ b) (h3 : b ≤ 9223372036854775807) (h : okI (a + b) = true) :
    Calls Tryd.prog 16 #[.int .i64 a, .int .i64 b] w fun e w' => e = .returned (.tuple #[.int .i64 (a + b), .bool true]) ∧ w = w' := by
  have H := Lib.hid h
  obtain ⟨y, hy⟩ : ∃ y, a + b = y := ⟨_, rfl⟩
  have HY := Lib.hid hy
  clear h hy
  go_enter Tryd.func16, Tryd.ntmps16
  go_wp2_with fail
  refine (add_yes a b _ h0 h1 h2 h3 H.out).mono ?_
  rintro e w' ⟨rfl, rfl⟩
  rw [HY.out]
  go_wp2_with fail
  go_ret2
  exact ⟨ret2 HY.out.symm rfl, rfl⟩
theorem addcorr_no (a b : Int) (w : World) (h0 : -9223372036854775808 ≤ a) (h1 : a ≤ 9223372036854775807) (h2 : -9223372036854775808 ≤ b) (h3 : b ≤ 9223372036854775807) (h : okI (a + b) = false) :
    Calls Tryd.prog 16 #[.int .i64 a, .int .i64 b] w fun e w' => e = .returned (.tuple #[.int .i64 (satV a b), .bool false]) ∧ w = w' := by
  have hh := okI_iff'.1 h
  have H := Lib.hid h
  clear h
  by_cases hs : a < 0
  · have HS : Hid (satV a b = -9223372036854775808) := Lib.hid (if_pos (by omega))
    have hs' : ¬ 0 < a := by omega
    clear hh
    go_enter Tryd.func16, Tryd.ntmps16
    go_wp2_with fail
    refine (add_no a b _ h0 h1 h2 h3 H.out).mono ?_
    rintro e w' ⟨rfl, rfl⟩
    go_wp2_with fail
    go_ret2
    exact ⟨ret2 HS.out.symm rfl, rfl⟩
  · have HS : Hid (satV a b = 9223372036854775807) := Lib.hid ((if_neg (by omega)).trans (if_pos (by omega)))
    have hs' : 0 < a := by omega
    clear hh
    go_enter Tryd.func16, Tryd.ntmps16
    go_wp2_with fail
    refine (add_no a b _ h0 h1 h2 h3 H.out).mono ?_
    rintro e w' ⟨rfl, rfl⟩
    go_wp2_with fail
    go_ret2
    exact ⟨ret2 HS.out.symm rfl, rfl⟩
end Go.Proofs.YtemflgjfoappaabDoor
