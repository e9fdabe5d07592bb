/- Contracts of layer 4: Time, corrections. -/
import Derived.Test.YtiecbpecpoojkaaPtmC
namespace Go.Proofs.Ytiecbpecpoojkaa
open Go.RowKit Fx Pt

theorem ret22p {k k' : IntKind} {a b a' b' : Int} (h : a = a') (h' : b = b') : Ending.returned (.tuple #[.int k a, .int k' b]) = .returned (.tuple #[.int k a', .int k' b']) := by rw [h, h']

theorem ptime_any (s n : Int) (w : World) :
    Calls Try.prog 11 #[.agg #[.int .i64 s, .int .i64 n]] w fun e w' => e = .returned (.tuple #[.int .i64 (timV s n), .int .i64 (timE s n)]) ∧ Below w.heap.size w w' := by
  by_cases ho : ok s n = true
  · obtain ⟨s0, s1, n0, n1⟩ := ok_iff.1 ho
    have HK := Lib.hid (chk_yes s0 s1 n0 n1)
    obtain ⟨y, hy⟩ : ∃ y, (s + 2208988800) * 1000000000 = y := ⟨_, rfl⟩
    have hins : ins s n = y + n := by unfold ins; rw [hy]
    by_cases hb : 9223372036854775807 < y
    · have HE : Hid (timE s n = 3 ∧ timV s n = 0) := Lib.hid ⟨if_neg (by omega), if_neg (by omega)⟩
      have HN : Hid (okI ((s + 2208988800) * 1000000000) = false) := Lib.hid (okI_no (by omega))
      clear ho hins hy
      go_enter Try.func11, Try.ntmps11
      go_wp2_with fail
      refine (pcheck_any s n _).mono ?_
      rintro e w' ⟨rfl, rfl⟩
      rw [HK.out]
      go_wp2_with fail
      refine (mul_no (s + 2208988800) 1000000000 _ (by omega) (by omega) (by decide) (by decide) HN.out).mono ?_
      rintro e w' ⟨rfl, k, rfl⟩
      go_wp2_with fail
      go_ret2
      exact ⟨ret22p HE.out.2.symm HE.out.1.symm, below_drewN (((Below.refl _ _).alloc (Nat.le_refl _) _).alloc (by simp) _) _⟩
    · have HY : Hid (okI ((s + 2208988800) * 1000000000) = true) := Lib.hid (okI_yes (by omega) (by omega))
      have y0 : 2208988800000000000 ≤ y := by omega
      have HYY := Lib.hid hy
      by_cases hc : 8000000000000000000 - n < y
      · have HE : Hid (timE s n = 3 ∧ timV s n = 0) := Lib.hid ⟨if_neg (by omega), if_neg (by omega)⟩
        clear ho hins hy
        go_enter Try.func11, Try.ntmps11
        go_wp2_with fail
        refine (pcheck_any s n _).mono ?_
        rintro e w' ⟨rfl, rfl⟩
        rw [HK.out]
        go_wp2_with fail
        refine (mul_yes (s + 2208988800) 1000000000 _ (by omega) (by omega) (by decide) (by decide) HY.out).mono ?_
        rintro e w' ⟨rfl, k, rfl⟩
        rw [HYY.out]
        go_wp2_with fail
        go_ret2
        exact ⟨ret22p HE.out.2.symm HE.out.1.symm, below_drewN (((Below.refl _ _).alloc (Nat.le_refl _) _).alloc (by simp) _) _⟩
      · have HE : Hid (timE s n = 0 ∧ timV s n = y + n) := Lib.hid ⟨if_pos ⟨ho, by omega⟩, (if_pos ⟨ho, by omega⟩).trans hins⟩
        clear ho hins hy
        go_enter Try.func11, Try.ntmps11
        go_wp2_with fail
        refine (pcheck_any s n _).mono ?_
        rintro e w' ⟨rfl, rfl⟩
        rw [HK.out]
        go_wp2_with fail
        refine (mul_yes (s + 2208988800) 1000000000 _ (by omega) (by omega) (by decide) (by decide) HY.out).mono ?_
        rintro e w' ⟨rfl, k, rfl⟩
        rw [HYY.out]
        go_wp2_with fail
        go_ret2
        exact ⟨ret22p HE.out.2.symm HE.out.1.symm, below_drewN (((Below.refl _ _).alloc (Nat.le_refl _) _).alloc (by simp) _) _⟩
  · have hk : chk s n = 3 := if_neg ho
    have HK := Lib.hid hk
    have HE : Hid (timE s n = 3 ∧ timV s n = 0) := Lib.hid ⟨if_neg (fun h => ho h.1), if_neg (fun h => ho h.1)⟩
    clear ho hk
    go_enter Try.func11, Try.ntmps11
    go_wp2_with fail
    refine (pcheck_any s n _).mono ?_
    rintro e w' ⟨rfl, rfl⟩
    rw [HK.out]
    go_wp2_with fail
    go_ret2
    exact ⟨ret22p HE.out.2.symm HE.out.1.symm, ((Below.refl _ _).alloc (Nat.le_refl _) _).alloc (by simp) _⟩

end Go.Proofs.Ytiecbpecpoojkaa
