/- Contracts of layer 3: nanoseconds of units, Time. -/
import Derived.Test.YtiecbpecpoojkaaStaB
namespace Go.Proofs.Ytiecbpecpoojkaa
open Go.RowKit Fx St

theorem join_yes (s u t : Int) (w : World) (s0 : -9223372036854775808 ≤ s) (s1 : s ≤ 9223372036854775807) (u0 : 0 ≤ u) (u1 : u ≤ 8589934590) (h0 : -9223372036854775808 ≤ s * 1000000000) (h1 : s * 1000000000 ≤ 9223372036854775807)
    (ht : t = s * 1000000000 + (u * 1000000000 + 4294967295) / 4294967296) (h3 : t ≤ 9223372036854775807) :
    Calls Try.prog 16 #[.int .i64 s, .int .i64 u] w fun e w' => e = .returned (.tuple #[.int .i64 t, .bool true]) ∧ ∃ n, w' = w.drewN n := by
  obtain ⟨c, hc⟩ : ∃ c, (u * 1000000000 + 4294967295) / 4294967296 = c := ⟨_, rfl⟩
  obtain ⟨y, hy⟩ : ∃ y, s * 1000000000 = y := ⟨_, rfl⟩
  have c0 : 0 ≤ c := by omega
  have c1 : c ≤ 2000000000 := by omega
  have HC : Hid (ceiI (u * 1000000000) 4294967296 = c) := Lib.hid (by rw [ceiI_pos _ _ (by decide)]; exact hc)
  have HQ := Lib.hid (qok_pos (x := u * 1000000000) (c := 4294967296) (by decide) (by omega) (by omega))
  rw [hy, hc] at ht
  rw [hy] at h0 h1
  have HY := Lib.hid hy
  have HT := Lib.hid ht
  have HO : Hid (okI (y + c) = true) := Lib.hid (okI_yes (by omega) (by omega))
  clear hc hy ht
  go_enter Try.func16, Try.ntmps16
  go_wp2_with fail
  refine (mul_yes s 1000000000 _ s0 s1 (by decide) (by decide) (okI_yes (by rw [HY.out]; exact h0) (by rw [HY.out]; exact h1))).mono ?_
  rintro e w' ⟨rfl, n, rfl⟩
  rw [HY.out]
  go_wp2_with fail
  refine (ceil_yes (u * 1000000000) 4294967296 _ (by omega) (by omega) (by decide) (by decide) HQ.out).mono ?_
  rintro e w' ⟨rfl, rfl⟩
  rw [HC.out]
  go_wp2_with fail
  refine (add_yes y c _ (by omega) (by omega) (by omega) (by omega) HO.out).mono ?_
  rintro e w' ⟨rfl, rfl⟩
  go_wp2_with fail
  go_ret2
  exact ⟨ret2 HT.out.symm rfl, n, rfl⟩

theorem join_no (s u : Int) (w : World) (s0 : -9223372036854775808 ≤ s) (s1 : s ≤ 9223372036854775807) (u0 : 0 ≤ u) (u1 : u ≤ 8589934590)
    (h : s * 1000000000 < -9223372036854775808 ∨ 9223372036854775807 < s * 1000000000 ∨ 9223372036854775807 < s * 1000000000 + (u * 1000000000 + 4294967295) / 4294967296) :
    Calls Try.prog 16 #[.int .i64 s, .int .i64 u] w fun e w' => e = .returned (.tuple #[.int .i64 0, .bool false]) ∧ ∃ n, w' = w.drewN n := by
  obtain ⟨c, hc⟩ : ∃ c, (u * 1000000000 + 4294967295) / 4294967296 = c := ⟨_, rfl⟩
  obtain ⟨y, hy⟩ : ∃ y, s * 1000000000 = y := ⟨_, rfl⟩
  have c0 : 0 ≤ c := by omega
  have c1 : c ≤ 2000000000 := by omega
  have HC : Hid (ceiI (u * 1000000000) 4294967296 = c) := Lib.hid (by rw [ceiI_pos _ _ (by decide)]; exact hc)
  have HQ := Lib.hid (qok_pos (x := u * 1000000000) (c := 4294967296) (by decide) (by omega) (by omega))
  rw [hy, hc] at h
  have HY := Lib.hid hy
  clear hc hy
  by_cases hw : y < -9223372036854775808 ∨ 9223372036854775807 < y
  · have HN : Hid (okI y = false) := Lib.hid (okI_no hw)
    clear h hw
    go_enter Try.func16, Try.ntmps16
    go_wp2_with fail
    refine (mul_no s 1000000000 _ s0 s1 (by decide) (by decide) (by rw [HY.out]; exact HN.out)).mono ?_
    rintro e w' ⟨rfl, n, rfl⟩
    go_wp2_with fail
    go_ret2
    exact ⟨rfl, n, rfl⟩
  · have y0 : -9223372036854775808 ≤ y := by omega
    have y1 : y ≤ 9223372036854775807 := by omega
    have HO : Hid (okI (y + c) = false) := Lib.hid (okI_no (by omega))
    clear h hw
    go_enter Try.func16, Try.ntmps16
    go_wp2_with fail
    refine (mul_yes s 1000000000 _ s0 s1 (by decide) (by decide) (okI_yes (by rw [HY.out]; exact y0) (by rw [HY.out]; exact y1))).mono ?_
    rintro e w' ⟨rfl, n, rfl⟩
    rw [HY.out]
    go_wp2_with fail
    refine (ceil_yes (u * 1000000000) 4294967296 _ (by omega) (by omega) (by decide) (by decide) HQ.out).mono ?_
    rintro e w' ⟨rfl, rfl⟩
    rw [HC.out]
    go_wp2_with fail
    refine (add_no y c _ (by omega) (by omega) (by omega) (by omega) HO.out).mono ?_
    rintro e w' ⟨rfl, rfl⟩
    go_wp2_with fail
    go_ret2
    exact ⟨rfl, n, rfl⟩

end Go.Proofs.Ytiecbpecpoojkaa
