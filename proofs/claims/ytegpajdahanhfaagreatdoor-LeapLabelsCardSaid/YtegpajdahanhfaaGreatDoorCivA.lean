/- Contracts of layer 5, of the specification: leap years, days of months and years, the day of a second. -/
import Derived.Test.YtegpajdahanhfaaGreatDoorFixG
import Derived.Test.YtegpajdahanhfaaGreatDoorCivM
namespace Go.Proofs.YtegpajdahanhfaaGreatDoor
open Go.RowKit Fx Cv

theorem Cv.tmod_zero (y : Int) {k : Int} : Int.tmod y k = 0 ↔ y % k = 0 := by
  rw [← Int.dvd_iff_tmod_eq_zero, ← Int.dvd_iff_emod_eq_zero]

theorem rleap_any (y : Int) (w : World) (_h0 : -9223372036854775808 ≤ y) (_h1 : y ≤ 9223372036854775807) :
    Calls Tryz.prog 92 #[.int .i64 y] w fun e w' => e = .returned (.bool (isL y)) ∧ w = w' := by
  have e4 := tmod_zero y (k := 4)
  have e100 := tmod_zero y (k := 100)
  have e400 := tmod_zero y (k := 400)
  by_cases a : y % 4 = 0
  · by_cases b : y % 100 = 0
    · by_cases c : y % 400 = 0
      · have hl := Lib.hid ((isL_iff y).2 ⟨a, Or.inr c⟩)
        have A := e4.2 a
        have B := e100.2 b
        have C := e400.2 c
        clear e4 e100 e400 a b c
        go_enter Tryz.func92, Tryz.ntmps92
        go_wp2
        go_ret
        rw [hl.out]; exact ⟨rfl, rfl⟩
      · have hl := Lib.hid (show isL y = false by simp [isL, a, b, c])
        have A := e4.2 a
        have B := e100.2 b
        have C := fun h => c (e400.1 h)
        clear e4 e100 e400 a b c
        go_enter Tryz.func92, Tryz.ntmps92
        go_wp2
        go_ret
        rw [hl.out]; exact ⟨congrArg (fun b => Ending.returned (.bool b)) (show (y.tmod 400 == 0) = false by simpa using C), rfl⟩
    · have hl := Lib.hid ((isL_iff y).2 ⟨a, Or.inl b⟩)
      have A := e4.2 a
      have B := fun h => b (e100.1 h)
      clear e4 e100 e400 a b
      go_enter Tryz.func92, Tryz.ntmps92
      go_wp2
      go_ret
      rw [hl.out]; exact ⟨rfl, rfl⟩
  · have hl := Lib.hid (show isL y = false by simp [isL, a])
    have A := fun h => a (e4.1 h)
    clear e4 e100 e400 a
    go_enter Tryz.func92, Tryz.ntmps92
    go_wp2
    go_ret
    rw [hl.out]; exact ⟨rfl, rfl⟩

theorem Cv.md_yes (y : Int) {m : Int} (h : m = 1 ∨ m = 3 ∨ m = 5 ∨ m = 7 ∨ m = 8 ∨ m = 10 ∨ m = 12) : md y m = 31 := by
  simp only [md]; rw [if_neg (by omega), if_neg (by omega), if_pos (by omega)]
theorem Cv.md_30 (y : Int) {m : Int} (h : m = 4 ∨ m = 6 ∨ m = 9 ∨ m = 11) : md y m = 30 := by
  simp only [md]; rw [if_neg (by omega), if_pos (by omega)]

theorem rmd_any (y m : Int) (w : World) (h0 : -9223372036854775808 ≤ y) (h1 : y ≤ 9223372036854775807) :
    Calls Tryz.prog 72 #[.int .i64 y, .int .i64 m] w fun e w' => e = .returned (.int .i64 (md y m)) ∧ w = w' := by
  by_cases hr : m < 1 ∨ 12 < m
  · have hl := Lib.hid (md_zero (y := y) hr)
    have a1 : ¬ m = 1 := by omega
    have a2 : ¬ m = 2 := by omega
    have a3 : ¬ m = 3 := by omega
    have a4 : ¬ m = 4 := by omega
    have a5 : ¬ m = 5 := by omega
    have a6 : ¬ m = 6 := by omega
    have a7 : ¬ m = 7 := by omega
    have a8 : ¬ m = 8 := by omega
    have a9 : ¬ m = 9 := by omega
    have a10 : ¬ m = 10 := by omega
    have a11 : ¬ m = 11 := by omega
    have a12 : ¬ m = 12 := by omega
    clear hr
    go_enter Tryz.func72, Tryz.ntmps72
    go_wp2
    go_ret
    rw [hl.out]; exact ⟨rfl, rfl⟩
  · have hm : m = 2 ∨ (m = 1 ∨ m = 3 ∨ m = 5 ∨ m = 7 ∨ m = 8 ∨ m = 10 ∨ m = 12) ∨ (m = 4 ∨ m = 6 ∨ m = 9 ∨ m = 11) := by omega
    clear hr
    rcases hm with rfl | hm | hm
    · cases hL : isL y
      · have hl := Lib.hid (show md y 2 = 28 by simp [md, hL])
        have HL := Lib.hid hL
        clear hL
        go_enter Tryz.func72, Tryz.ntmps72
        go_wp2_with fail
        refine (rleap_any y _ h0 h1).mono ?_
        rintro e w' ⟨rfl, rfl⟩
        rw [HL.out]
        go_wp2
        go_ret
        rw [hl.out]; exact ⟨rfl, rfl⟩
      · have hl := Lib.hid (show md y 2 = 29 by simp [md, hL])
        have HL := Lib.hid hL
        clear hL
        go_enter Tryz.func72, Tryz.ntmps72
        go_wp2_with fail
        refine (rleap_any y _ h0 h1).mono ?_
        rintro e w' ⟨rfl, rfl⟩
        rw [HL.out]
        go_wp2
        go_ret
        rw [hl.out]; exact ⟨rfl, rfl⟩
    · have hl := Lib.hid (md_yes y hm)
      rcases hm with rfl | rfl | rfl | rfl | rfl | rfl | rfl <;>
      · go_enter Tryz.func72, Tryz.ntmps72
        go_wp2
        go_ret
        rw [hl.out]; exact ⟨rfl, rfl⟩
    · have hl := Lib.hid (md_30 y hm)
      rcases hm with rfl | rfl | rfl | rfl <;>
      · go_enter Tryz.func72, Tryz.ntmps72
        go_wp2
        go_ret
        rw [hl.out]; exact ⟨rfl, rfl⟩

theorem ryd_any (y : Int) (w : World) (h0 : -9223372036854775808 ≤ y) (h1 : y ≤ 9223372036854775807) :
    Calls Tryz.prog 71 #[.int .i64 y] w fun e w' => e = .returned (.int .i64 (yd y)) ∧ w = w' := by
  rcases isL_cases y with ⟨hL, hl, -⟩ | ⟨hL, hl, -⟩ <;>
  · have HL := Lib.hid hL
    have Hl := Lib.hid hl
    clear hL hl
    go_enter Tryz.func71, Tryz.ntmps71
    go_wp2_with fail
    refine (rleap_any y _ h0 h1).mono ?_
    rintro e w' ⟨rfl, rfl⟩
    rw [HL.out]
    go_wp2
    go_ret
    rw [Hl.out]; exact ⟨rfl, rfl⟩

theorem Cv.flo_86400 (s : Int) : flo s 86400 = s / 86400 := by unfold flo; simp
theorem rday_any (s : Int) (w : World) (h0 : -9223372036854775808 ≤ s) (h1 : s ≤ 9223372036854775807) :
    Calls Tryz.prog 70 #[.int .i64 s] w fun e w' => e = .returned (.int .i64 (s / 86400)) ∧ w = w' := by
  have hq := Lib.hid (show qok s 86400 = true by rw [qok_okI (by decide), flo_86400]; exact okI_yes (by omega) (by omega))
  have hf := Lib.hid (flo_86400 s)
  go_enter Tryz.func70, Tryz.ntmps70
  go_wp2_with fail
  refine (rfloor_yes s 86400 _ h0 h1 (by decide) (by decide) hq.out).mono ?_
  rintro e w' ⟨rfl, rfl⟩
  rw [hf.out]
  go_wp2
  go_ret
  exact ⟨rfl, rfl⟩
end Go.Proofs.YtegpajdahanhfaaGreatDoor
