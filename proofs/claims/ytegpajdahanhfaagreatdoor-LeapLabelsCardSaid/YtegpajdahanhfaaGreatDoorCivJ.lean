/- Contracts of layer 5: the program's small functions. -/
import Derived.Test.YtegpajdahanhfaaGreatDoorCivE
import Derived.Lib.LaidTab
import Derived.BigQuiet
namespace Go.Proofs.YtegpajdahanhfaaGreatDoor
open Go.RowKit Fx Cv

theorem pleap_any (y : Int) (w : World) (_h0 : -9223372036854775808 ≤ y) (_h1 : y ≤ 9223372036854775807) :
    Calls Tryz.prog 90 #[.int .i64 y] w fun e w' => e = .returned (.bool (isL y)) ∧ w = w' := by
  have e4 := tmod_zero y (k := 4)
  have e100 := tmod_zero y (k := 100)
  have e400 := tmod_zero y (k := 400)
  by_cases a : y % 4 = 0
  · by_cases b : y % 100 = 0
    · by_cases c : y % 400 = 0
      · have hl := Lib.hid ((isL_iff y).2 ⟨a, Or.inr c⟩)
        have A := e4.2 a
        have B := e100.2 b
        have C := e400.2 c
        clear e4 e100 e400 a b c
        go_enter Tryz.func90, Tryz.ntmps90
        go_wp2
        go_ret
        rw [hl.out]; exact ⟨rfl, rfl⟩
      · have hl := Lib.hid (show isL y = false by simp [isL, a, b, c])
        have A := e4.2 a
        have B := e100.2 b
        have C := fun h => c (e400.1 h)
        clear e4 e100 e400 a b c
        go_enter Tryz.func90, Tryz.ntmps90
        go_wp2
        go_ret
        rw [hl.out]; exact ⟨congrArg (fun b => Ending.returned (.bool b)) (show (y.tmod 400 == 0) = false by simpa using C), rfl⟩
    · have hl := Lib.hid ((isL_iff y).2 ⟨a, Or.inl b⟩)
      have A := e4.2 a
      have B := fun h => b (e100.1 h)
      clear e4 e100 e400 a b
      go_enter Tryz.func90, Tryz.ntmps90
      go_wp2
      go_ret
      rw [hl.out]; exact ⟨rfl, rfl⟩
  · have hl := Lib.hid (show isL y = false by simp [isL, a])
    have A := fun h => a (e4.1 h)
    clear e4 e100 e400 a
    go_enter Tryz.func90, Tryz.ntmps90
    go_wp2
    go_ret
    rw [hl.out]; exact ⟨rfl, rfl⟩


theorem within_yes (n lo hi : Int) (w : World) (a : lo ≤ n) (b : n ≤ hi) :
    Calls Tryz.prog 66 #[.int .i64 n, .int .i64 lo, .int .i64 hi] w fun e w' => e = .returned (.bool true) ∧ w' = w := by
  go_enter Tryz.func66, Tryz.ntmps66
  go_wp2
  go_ret
  exact ⟨rfl, rfl⟩
theorem within_no (n lo hi : Int) (w : World) (h : n < lo ∨ hi < n) :
    Calls Tryz.prog 66 #[.int .i64 n, .int .i64 lo, .int .i64 hi] w fun e w' => e = .returned (.bool false) ∧ w' = w := by
  by_cases a : lo ≤ n
  · have b : ¬ n ≤ hi := by omega
    clear h
    go_enter Tryz.func66, Tryz.ntmps66
    go_wp2
    go_ret
    exact ⟨rfl, rfl⟩
  · clear h
    go_enter Tryz.func66, Tryz.ntmps66
    go_wp2
    go_ret
    exact ⟨rfl, rfl⟩
theorem within_any (n lo hi : Int) (w : World) :
    Calls Tryz.prog 66 #[.int .i64 n, .int .i64 lo, .int .i64 hi] w fun e w' => e = .returned (.bool (decide (lo ≤ n ∧ n ≤ hi))) ∧ w' = w := by
  by_cases h : lo ≤ n ∧ n ≤ hi
  · rw [decide_eq_true h]; exact within_yes n lo hi w h.1 h.2
  · rw [decide_eq_false h]; exact within_no n lo hi w (by omega)
theorem issec_any (t : Int) (w : World) :
    Calls Tryz.prog 48 #[.int .i64 t] w fun e w' => e = .returned (.bool (inS t)) ∧ w' = w := by
  obtain ⟨b, hb⟩ : ∃ b, inS t = b := ⟨_, rfl⟩
  have HB := Lib.hid (show decide (-8000000000 ≤ t ∧ t ≤ 8000000000) = b from hb)
  rw [hb]
  clear hb
  go_enter Tryz.func48, Tryz.ntmps48
  go_wp2_with fail
  refine (within_any t _ _ _).mono ?_
  rintro e w' ⟨rfl, rfl⟩
  rw [HB.out]
  go_wp2_with fail
  go_ret
  exact ⟨rfl, rfl⟩

/-- The table of the months' days, as its variable holds it. -/
def Cv.mtab : List Int := [31, 28, 31, 30, 31, 30, 31, 31, 30, 31, 30, 31]
def Cv.MT (w : World) : Prop := Lib.TabIs Tryz.prog w "timesync/civil.monthDays" .i64 mtab
theorem Cv.var_keep {P : Program} {w w' : World} {n : String} {cs : Array Value} (hv : w.var? P n = some cs) (hb : Below w.heap.size w w') : w'.var? P n = some cs := by
  unfold World.var? at hv ⊢
  rcases hg : P.globalNamed n with _ | g
  · rw [hg] at hv; cases hv
  · rw [hg] at hv
    have hlt : g < w.heap.size := by
      rcases Nat.lt_or_ge g w.heap.size with h | h
      · exact h
      · simp only [Option.bind_some] at hv
        rw [Array.getElem?_eq_none h] at hv
        cases hv
    simp only [Option.bind_some] at hv ⊢
    rw [hb.block g hlt]
    exact hv
theorem Cv.MT.below {w w' : World} (h : MT w) (hb : Below w.heap.size w w') : MT w' := var_keep h hb
theorem Cv.MT.at {w : World} (h : MT w) (i : Nat) (hi : i < 12) : w.cell? ⟨0, i, none⟩ = some (.int .i64 (mtab.getD i 0)) :=
  Lib.TabIs.cell h (by kernel_rfl) i hi

theorem pmd_any (y m : Int) (w : World) (ht : MT w) (h0 : -9223372036854775808 ≤ y) (h1 : y ≤ 9223372036854775807) :
    Calls Tryz.prog 69 #[.int .i64 y, .int .i64 m] w fun e w' => e = .returned (.int .i64 (md y m)) ∧ w' = w := by
  by_cases hr : m < 1 ∨ 12 < m
  · have hl := Lib.hid (md_zero (y := y) hr)
    have hR := Lib.hid hr
    clear hr ht
    go_enter Tryz.func69, Tryz.ntmps69
    go_wp2_with fail
    refine (within_no m 1 12 _ hR.out).mono ?_
    rintro e w' ⟨rfl, rfl⟩
    go_wp2
    go_ret
    rw [hl.out]; exact ⟨rfl, rfl⟩
  · have hm : m = 2 ∨ (m = 1 ∨ m = 3 ∨ m = 5 ∨ m = 7 ∨ m = 8 ∨ m = 10 ∨ m = 12) ∨ (m = 4 ∨ m = 6 ∨ m = 9 ∨ m = 11) := by omega
    clear hr
    have c0 := ht.at 0 (by decide)
    have c1 := ht.at 1 (by decide)
    have c2 := ht.at 2 (by decide)
    have c3 := ht.at 3 (by decide)
    have c4 := ht.at 4 (by decide)
    have c5 := ht.at 5 (by decide)
    have c6 := ht.at 6 (by decide)
    have c7 := ht.at 7 (by decide)
    have c8 := ht.at 8 (by decide)
    have c9 := ht.at 9 (by decide)
    have c10 := ht.at 10 (by decide)
    have c11 := ht.at 11 (by decide)
    simp only [mtab, List.getD_cons_zero, List.getD_cons_succ] at c0 c1 c2 c3 c4 c5 c6 c7 c8 c9 c10 c11
    clear ht
    rcases hm with rfl | hm | hm
    · cases hL : isL y
      · have hl := Lib.hid (show md y 2 = 28 by simp [md, hL])
        have HL := Lib.hid hL
        clear hL
        go_enter Tryz.func69, Tryz.ntmps69
        go_wp2_with fail
        refine (within_yes 2 1 12 _ (by decide) (by decide)).mono ?_
        rintro e w' ⟨rfl, rfl⟩
        go_wp2_with fail
        refine (pleap_any y _ h0 h1).mono ?_
        rintro e w' ⟨rfl, rfl⟩
        rw [HL.out]
        go_wp2
        go_ret
        rw [hl.out]; exact ⟨rfl, rfl⟩
      · have hl := Lib.hid (show md y 2 = 29 by simp [md, hL])
        have HL := Lib.hid hL
        clear hL
        go_enter Tryz.func69, Tryz.ntmps69
        go_wp2_with fail
        refine (within_yes 2 1 12 _ (by decide) (by decide)).mono ?_
        rintro e w' ⟨rfl, rfl⟩
        go_wp2_with fail
        refine (pleap_any y _ h0 h1).mono ?_
        rintro e w' ⟨rfl, rfl⟩
        rw [HL.out]
        go_wp2
        go_ret
        rw [hl.out]; exact ⟨rfl, rfl⟩
    · have hl := Lib.hid (md_yes y hm)
      rcases hm with rfl | rfl | rfl | rfl | rfl | rfl | rfl <;>
      · go_enter Tryz.func69, Tryz.ntmps69
        go_wp2_with fail
        refine (within_yes _ 1 12 _ (by decide) (by decide)).mono ?_
        rintro e w' ⟨rfl, rfl⟩
        go_wp2
        go_ret
        rw [hl.out]; exact ⟨rfl, rfl⟩
    · have hl := Lib.hid (md_30 y hm)
      rcases hm with rfl | rfl | rfl | rfl <;>
      · go_enter Tryz.func69, Tryz.ntmps69
        go_wp2_with fail
        refine (within_yes _ 1 12 _ (by decide) (by decide)).mono ?_
        rintro e w' ⟨rfl, rfl⟩
        go_wp2
        go_ret
        rw [hl.out]; exact ⟨rfl, rfl⟩

theorem pday_any (s : Int) (w : World) (h0 : -9223372036854775808 ≤ s) (h1 : s ≤ 9223372036854775807) :
    Calls Tryz.prog 49 #[.int .i64 s] w fun e w' => e = .returned (.int .i64 (s / 86400)) ∧ w' = w := by
  have hq := Lib.hid (show qok s 86400 = true by rw [qok_okI (by decide), flo_86400]; exact okI_yes (by omega) (by omega))
  have hf := Lib.hid (flo_86400 s)
  go_enter Tryz.func49, Tryz.ntmps49
  go_wp2_with fail
  refine (floor_yes s 86400 _ h0 h1 (by decide) (by decide) hq.out).mono ?_
  rintro e w' ⟨rfl, rfl⟩
  rw [hf.out]
  go_wp2
  go_ret
  exact ⟨rfl, rfl⟩

/-- The leap years before a year. -/
def Cv.lys (y : Int) : Int := (y - 1) / 4 - (y - 1) / 100 + (y - 1) / 400
theorem leapyears_any (y : Int) (w : World) (h0 : 1 ≤ y) (h1 : y ≤ 100000) :
    Calls Tryz.prog 89 #[.int .i64 y] w fun e w' => e = .returned (.int .i64 (lys y)) ∧ w' = w := by
  obtain ⟨z, rfl⟩ : ∃ z, y = z + 1 := ⟨y - 1, by omega⟩
  have hz : Hid (lys (z + 1) = z / 4 - z / 100 + z / 400) := Lib.hid (by unfold lys; rw [show z + 1 - 1 = z by omega])
  have z0 : 0 ≤ z := by omega
  have z1 : z ≤ 100000 := by omega
  rw [hz.out]
  go_enter Tryz.func89, Tryz.ntmps89
  go_wp2
  go_ret
  exact ⟨rfl, rfl⟩
theorem Cv.lys_1900 : lys 1900 = 460 := by decide
theorem Cv.ys_lys (y : Int) : ys y = (y - 1900) * 365 + lys y - 460 := by simp only [ys, lys]; omega
theorem Cv.lys_bound {y : Int} (h0 : 1 ≤ y) (h1 : y ≤ 100000) : 0 ≤ lys y ∧ lys y ≤ 100000 := by simp only [lys]; omega
theorem ybegin_any (y : Int) (w : World) (h0 : 1 ≤ y) (h1 : y ≤ 100000) :
    Calls Tryz.prog 68 #[.int .i64 y] w fun e w' => e = .returned (.int .i64 (ys y)) ∧ w' = w := by
  have hb := lys_bound h0 h1
  have HY := Lib.hid (ys_lys y)
  obtain ⟨L, hL⟩ : ∃ L, lys y = L := ⟨_, rfl⟩
  rw [hL] at hb HY
  have HL := Lib.hid hL
  clear hL
  rw [HY.out]
  go_enter Tryz.func68, Tryz.ntmps68
  go_wp2_with fail
  refine (leapyears_any y _ h0 h1).mono ?_
  rintro e w' ⟨rfl, rfl⟩
  rw [HL.out]
  go_wp2_with fail
  refine (leapyears_any 1900 _ (by decide) (by decide)).mono ?_
  rintro e w' ⟨rfl, rfl⟩
  rw [lys_1900]
  go_wp2_with fail
  go_ret
  exact ⟨rfl, rfl⟩
end Go.Proofs.YtegpajdahanhfaaGreatDoor
