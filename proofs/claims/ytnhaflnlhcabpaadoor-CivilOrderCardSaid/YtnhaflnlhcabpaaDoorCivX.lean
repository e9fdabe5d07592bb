/- Layer 5: CivilOrder. -/
import Derived.Test.YtnhaflnlhcabpaaDoorCivO
import Derived.Test.YtnhaflnlhcabpaaDoorCivV
import Derived.Deep.RegionHeld3
namespace Go.Proofs.YtnhaflnlhcabpaaDoor
open Go.RowKit Fx Cv Pt

/-- Nano, as the statement makes it out of any int. -/
def Cv.nanoOf (c : Int) : Int := c % 18446744073709551616 % 1000000000
theorem Cv.nano_walk (c : Int) : wrap64 ((IntKind.u64.wrap c).tmod 1000000000) = nanoOf c := by
  rw [IntKind.wrap_u64, Int.tmod_eq_emod_of_nonneg (by omega)]
  unfold nanoOf wrap64; omega
theorem Cv.nano_bounds (c : Int) : 0 ≤ nanoOf c ∧ nanoOf c ≤ 999999999 := by unfold nanoOf; omega

set_option maxRecDepth 100000 in
set_option maxHeartbeats 4000000 in
theorem order_out (a b c : Int) (w : World) (ht : MT w) (hp : Tab w) (h : inS a = false ∨ inS b = false) :
    Calls Tryd.prog 9 #[.int .i64 a, .int .i64 b, .int .i64 c] w fun e w' => e = .returned (.bool true) ∧ Below w.heap.size w w' := by
  have HT := Lib.hid ht
  have HP := Lib.hid hp
  have BB0 := Lib.hid (Below.refl w.heap.size w)
  clear ht hp
  have HA : Hid (∃ y m d hh mi s n E : Int, (∀ u : World, MT u → Calls Tryd.prog 16 #[.int .i64 a] u fun e w' => e = .returned (.tuple #[.agg #[.int .i64 y, .int .i64 m, .int .i64 d, .int .i64 hh, .int .i64 mi, .int .i64 s, .int .i64 n], .int .i64 E]) ∧ Below u.heap.size u w') ∧ (E = 0 ↔ inS a = true)) := Lib.hid ⟨_, _, _, _, _, _, _, _, fun u hu => pof_any a u hu, by unfold ofE; split <;> simp_all⟩
  have HB : Hid (∃ y m d hh mi s n E : Int, (∀ u : World, MT u → Calls Tryd.prog 16 #[.int .i64 b] u fun e w' => e = .returned (.tuple #[.agg #[.int .i64 y, .int .i64 m, .int .i64 d, .int .i64 hh, .int .i64 mi, .int .i64 s, .int .i64 n], .int .i64 E]) ∧ Below u.heap.size u w') ∧ (E = 0 ↔ inS b = true)) := Lib.hid ⟨_, _, _, _, _, _, _, _, fun u hu => pof_any b u hu, by unfold ofE; split <;> simp_all⟩
  obtain ⟨y, m, d, hh, mi, s, n, E, ha, ea⟩ := HA.out
  obtain ⟨y2, m2, d2, hh2, mi2, s2, n2, E2, hb, eb⟩ := HB.out
  have HA' := Lib.hid ha
  have HB' := Lib.hid hb
  have hE : E ≠ 0 ∨ E2 ≠ 0 := by
    rcases h with h | h
    · left; intro hc; rw [ea.1 hc] at h; cases h
    · right; intro hc; rw [eb.1 hc] at h; cases h
  clear HA HB ha hb ea eb h
  by_cases e1 : E = 0
  · have e2 : E2 ≠ 0 := by omega
    subst e1
    clear hE
    have f1 : decide (E2 = 0) = false := decide_eq_false e2
    have f2 : (E2 == 0) = false := by simpa using e2
    have f3 : (E2 != 0) = true := by simp [bne, f2]
    go_enter Tryd.func9, Tryd.ntmps9
    go_wp2_with fail
    refine (HA'.out _ (show MT w from HT.out.below BB0.out)).mono ?_
    rintro e w1 ⟨rfl, hb⟩
    have B1 := Lib.hid (BB0.out.trans (hb.mono BB0.out.size))
    have hz1 := hb.size
    clear hb BB0
    have Yx2 := Lib.hid (bx7_new w1 0 0 0 0 0 0 0)
    have D2 := Lib.hid (B1.out.alloc B1.out.size (.cells #[.int .i64 0, .int .i64 0, .int .i64 0, .int .i64 0, .int .i64 0, .int .i64 0, .int .i64 0] 23))
    have hs2 := B1.out.size
    have r2_0 := Yx2.out.cells.1
    have g2_0 := Yx2.out.thaw.1
    have Nx2_0 := Lib.hid (Yx2.out.set0 y)
    have E2_0 := Lib.hid (below_set (C := w1.heap.size) (i := 0) D2.out (by omega) (.int .i64 y))
    obtain ⟨S2_0, hS2_0⟩ : ∃ W, (w1.alloc (.cells #[.int .i64 0, .int .i64 0, .int .i64 0, .int .i64 0, .int .i64 0, .int .i64 0, .int .i64 0] 23)).setCell ⟨w1.heap.size, 0, none⟩ (.int .i64 y) = W := ⟨_, rfl⟩
    rw [hS2_0] at Nx2_0 E2_0
    clear Yx2 D2
    have r2_1 := Nx2_0.out.cells.2.1
    have g2_1 := Nx2_0.out.thaw.2.1
    have Nx2_1 := Lib.hid (Nx2_0.out.set1 m)
    have E2_1 := Lib.hid (below_set (C := w1.heap.size) (i := 1) E2_0.out (by omega) (.int .i64 m))
    obtain ⟨S2_1, hS2_1⟩ : ∃ W, S2_0.setCell ⟨w1.heap.size, 1, none⟩ (.int .i64 m) = W := ⟨_, rfl⟩
    rw [hS2_1] at Nx2_1 E2_1
    clear Nx2_0 E2_0
    have r2_2 := Nx2_1.out.cells.2.2.1
    have g2_2 := Nx2_1.out.thaw.2.2.1
    have Nx2_2 := Lib.hid (Nx2_1.out.set2 d)
    have E2_2 := Lib.hid (below_set (C := w1.heap.size) (i := 2) E2_1.out (by omega) (.int .i64 d))
    obtain ⟨S2_2, hS2_2⟩ : ∃ W, S2_1.setCell ⟨w1.heap.size, 2, none⟩ (.int .i64 d) = W := ⟨_, rfl⟩
    rw [hS2_2] at Nx2_2 E2_2
    clear Nx2_1 E2_1
    have r2_3 := Nx2_2.out.cells.2.2.2.1
    have g2_3 := Nx2_2.out.thaw.2.2.2.1
    have Nx2_3 := Lib.hid (Nx2_2.out.set3 hh)
    have E2_3 := Lib.hid (below_set (C := w1.heap.size) (i := 3) E2_2.out (by omega) (.int .i64 hh))
    obtain ⟨S2_3, hS2_3⟩ : ∃ W, S2_2.setCell ⟨w1.heap.size, 3, none⟩ (.int .i64 hh) = W := ⟨_, rfl⟩
    rw [hS2_3] at Nx2_3 E2_3
    clear Nx2_2 E2_2
    have r2_4 := Nx2_3.out.cells.2.2.2.2.1
    have g2_4 := Nx2_3.out.thaw.2.2.2.2.1
    have Nx2_4 := Lib.hid (Nx2_3.out.set4 mi)
    have E2_4 := Lib.hid (below_set (C := w1.heap.size) (i := 4) E2_3.out (by omega) (.int .i64 mi))
    obtain ⟨S2_4, hS2_4⟩ : ∃ W, S2_3.setCell ⟨w1.heap.size, 4, none⟩ (.int .i64 mi) = W := ⟨_, rfl⟩
    rw [hS2_4] at Nx2_4 E2_4
    clear Nx2_3 E2_3
    have r2_5 := Nx2_4.out.cells.2.2.2.2.2.1
    have g2_5 := Nx2_4.out.thaw.2.2.2.2.2.1
    have Nx2_5 := Lib.hid (Nx2_4.out.set5 s)
    have E2_5 := Lib.hid (below_set (C := w1.heap.size) (i := 5) E2_4.out (by omega) (.int .i64 s))
    obtain ⟨S2_5, hS2_5⟩ : ∃ W, S2_4.setCell ⟨w1.heap.size, 5, none⟩ (.int .i64 s) = W := ⟨_, rfl⟩
    rw [hS2_5] at Nx2_5 E2_5
    clear Nx2_4 E2_4
    have r2_6 := Nx2_5.out.cells.2.2.2.2.2.2
    have g2_6 := Nx2_5.out.thaw.2.2.2.2.2.2
    have Nx2_6 := Lib.hid (Nx2_5.out.set6 n)
    have E2_6 := Lib.hid (below_set (C := w1.heap.size) (i := 6) E2_5.out (by omega) (.int .i64 n))
    obtain ⟨S2_6, hS2_6⟩ : ∃ W, S2_5.setCell ⟨w1.heap.size, 6, none⟩ (.int .i64 n) = W := ⟨_, rfl⟩
    rw [hS2_6] at Nx2_6 E2_6
    clear Nx2_5 E2_5
    clear B1
    go_wp2_with fail
    clear hs2 r2_0 g2_0 hS2_0 r2_1 g2_1 hS2_1 r2_2 g2_2 hS2_2 r2_3 g2_3 hS2_3 r2_4 g2_4 hS2_4 r2_5 g2_5 hS2_5 r2_6 g2_6 hS2_6
    refine (HB'.out _ (show MT S2_6 from HT.out.below E2_6.out)).mono ?_
    rintro e w3 ⟨rfl, hb⟩
    have Xx3 := Lib.hid (Nx2_6.out.below hb Nx2_6.out.lt)
    have B3 := Lib.hid (E2_6.out.trans (hb.mono E2_6.out.size))
    have hz3 := hb.size
    clear hb Nx2_6 E2_6
    have Yy4 := Lib.hid (bx7_new w3 0 0 0 0 0 0 0)
    have lx4 := Xx3.out.lt
    have Yx4 := Lib.hid (Xx3.out.alloc (.cells #[.int .i64 0, .int .i64 0, .int .i64 0, .int .i64 0, .int .i64 0, .int .i64 0, .int .i64 0] 23))
    have D4 := Lib.hid (B3.out.alloc B3.out.size (.cells #[.int .i64 0, .int .i64 0, .int .i64 0, .int .i64 0, .int .i64 0, .int .i64 0, .int .i64 0] 23))
    have hs4 := B3.out.size
    have r4_0 := Yy4.out.cells.1
    have g4_0 := Yy4.out.thaw.1
    have Ny4_0 := Lib.hid (Yy4.out.set0 y2)
    have Nx4_0 := Lib.hid (Yx4.out.other (C := w3.heap.size) (i := 0) (by omega) (.int .i64 y2))
    have E4_0 := Lib.hid (below_set (C := w3.heap.size) (i := 0) D4.out (by omega) (.int .i64 y2))
    obtain ⟨S4_0, hS4_0⟩ : ∃ W, (w3.alloc (.cells #[.int .i64 0, .int .i64 0, .int .i64 0, .int .i64 0, .int .i64 0, .int .i64 0, .int .i64 0] 23)).setCell ⟨w3.heap.size, 0, none⟩ (.int .i64 y2) = W := ⟨_, rfl⟩
    rw [hS4_0] at Ny4_0 Nx4_0 E4_0
    clear Yy4 Yx4 D4
    have r4_1 := Ny4_0.out.cells.2.1
    have g4_1 := Ny4_0.out.thaw.2.1
    have Ny4_1 := Lib.hid (Ny4_0.out.set1 m2)
    have Nx4_1 := Lib.hid (Nx4_0.out.other (C := w3.heap.size) (i := 1) (by omega) (.int .i64 m2))
    have E4_1 := Lib.hid (below_set (C := w3.heap.size) (i := 1) E4_0.out (by omega) (.int .i64 m2))
    obtain ⟨S4_1, hS4_1⟩ : ∃ W, S4_0.setCell ⟨w3.heap.size, 1, none⟩ (.int .i64 m2) = W := ⟨_, rfl⟩
    rw [hS4_1] at Ny4_1 Nx4_1 E4_1
    clear Ny4_0 Nx4_0 E4_0
    have r4_2 := Ny4_1.out.cells.2.2.1
    have g4_2 := Ny4_1.out.thaw.2.2.1
    have Ny4_2 := Lib.hid (Ny4_1.out.set2 d2)
    have Nx4_2 := Lib.hid (Nx4_1.out.other (C := w3.heap.size) (i := 2) (by omega) (.int .i64 d2))
    have E4_2 := Lib.hid (below_set (C := w3.heap.size) (i := 2) E4_1.out (by omega) (.int .i64 d2))
    obtain ⟨S4_2, hS4_2⟩ : ∃ W, S4_1.setCell ⟨w3.heap.size, 2, none⟩ (.int .i64 d2) = W := ⟨_, rfl⟩
    rw [hS4_2] at Ny4_2 Nx4_2 E4_2
    clear Ny4_1 Nx4_1 E4_1
    have r4_3 := Ny4_2.out.cells.2.2.2.1
    have g4_3 := Ny4_2.out.thaw.2.2.2.1
    have Ny4_3 := Lib.hid (Ny4_2.out.set3 hh2)
    have Nx4_3 := Lib.hid (Nx4_2.out.other (C := w3.heap.size) (i := 3) (by omega) (.int .i64 hh2))
    have E4_3 := Lib.hid (below_set (C := w3.heap.size) (i := 3) E4_2.out (by omega) (.int .i64 hh2))
    obtain ⟨S4_3, hS4_3⟩ : ∃ W, S4_2.setCell ⟨w3.heap.size, 3, none⟩ (.int .i64 hh2) = W := ⟨_, rfl⟩
    rw [hS4_3] at Ny4_3 Nx4_3 E4_3
    clear Ny4_2 Nx4_2 E4_2
    have r4_4 := Ny4_3.out.cells.2.2.2.2.1
    have g4_4 := Ny4_3.out.thaw.2.2.2.2.1
    have Ny4_4 := Lib.hid (Ny4_3.out.set4 mi2)
    have Nx4_4 := Lib.hid (Nx4_3.out.other (C := w3.heap.size) (i := 4) (by omega) (.int .i64 mi2))
    have E4_4 := Lib.hid (below_set (C := w3.heap.size) (i := 4) E4_3.out (by omega) (.int .i64 mi2))
    obtain ⟨S4_4, hS4_4⟩ : ∃ W, S4_3.setCell ⟨w3.heap.size, 4, none⟩ (.int .i64 mi2) = W := ⟨_, rfl⟩
    rw [hS4_4] at Ny4_4 Nx4_4 E4_4
    clear Ny4_3 Nx4_3 E4_3
    have r4_5 := Ny4_4.out.cells.2.2.2.2.2.1
    have g4_5 := Ny4_4.out.thaw.2.2.2.2.2.1
    have Ny4_5 := Lib.hid (Ny4_4.out.set5 s2)
    have Nx4_5 := Lib.hid (Nx4_4.out.other (C := w3.heap.size) (i := 5) (by omega) (.int .i64 s2))
    have E4_5 := Lib.hid (below_set (C := w3.heap.size) (i := 5) E4_4.out (by omega) (.int .i64 s2))
    obtain ⟨S4_5, hS4_5⟩ : ∃ W, S4_4.setCell ⟨w3.heap.size, 5, none⟩ (.int .i64 s2) = W := ⟨_, rfl⟩
    rw [hS4_5] at Ny4_5 Nx4_5 E4_5
    clear Ny4_4 Nx4_4 E4_4
    have r4_6 := Ny4_5.out.cells.2.2.2.2.2.2
    have g4_6 := Ny4_5.out.thaw.2.2.2.2.2.2
    have Ny4_6 := Lib.hid (Ny4_5.out.set6 n2)
    have Nx4_6 := Lib.hid (Nx4_5.out.other (C := w3.heap.size) (i := 6) (by omega) (.int .i64 n2))
    have E4_6 := Lib.hid (below_set (C := w3.heap.size) (i := 6) E4_5.out (by omega) (.int .i64 n2))
    obtain ⟨S4_6, hS4_6⟩ : ∃ W, S4_5.setCell ⟨w3.heap.size, 6, none⟩ (.int .i64 n2) = W := ⟨_, rfl⟩
    rw [hS4_6] at Ny4_6 Nx4_6 E4_6
    clear Ny4_5 Nx4_5 E4_5
    clear Xx3 B3
    go_wp2_with fail
    clear hs4 r4_0 g4_0 hS4_0 r4_1 g4_1 hS4_1 r4_2 g4_2 hS4_2 r4_3 g4_3 hS4_3 r4_4 g4_4 hS4_4 r4_5 g4_5 hS4_5 r4_6 g4_6 hS4_6
    refine (awake5_any _ (show MT S4_6 from HT.out.below E4_6.out) (show Tab S4_6 from HP.out.below E4_6.out)).mono ?_
    rintro e w5 ⟨rfl, hb⟩
    have Xx5 := Lib.hid (Nx4_6.out.below hb Nx4_6.out.lt)
    have Xy5 := Lib.hid (Ny4_6.out.below hb Ny4_6.out.lt)
    have B5 := Lib.hid (E4_6.out.trans (hb.mono E4_6.out.size))
    have hz5 := hb.size
    clear hb Nx4_6 Ny4_6 E4_6
    go_wp2_with fail
    go_ret
    exact ⟨rfl, B5.out⟩
  · clear hE
    have f1 : decide (E = 0) = false := decide_eq_false e1
    have f2 : (E == 0) = false := by simpa using e1
    have f3 : (E != 0) = true := by simp [bne, f2]
    go_enter Tryd.func9, Tryd.ntmps9
    go_wp2_with fail
    refine (HA'.out _ (show MT w from HT.out.below BB0.out)).mono ?_
    rintro e w1 ⟨rfl, hb⟩
    have B1 := Lib.hid (BB0.out.trans (hb.mono BB0.out.size))
    have hz1 := hb.size
    clear hb BB0
    have Yx2 := Lib.hid (bx7_new w1 0 0 0 0 0 0 0)
    have D2 := Lib.hid (B1.out.alloc B1.out.size (.cells #[.int .i64 0, .int .i64 0, .int .i64 0, .int .i64 0, .int .i64 0, .int .i64 0, .int .i64 0] 23))
    have hs2 := B1.out.size
    have r2_0 := Yx2.out.cells.1
    have g2_0 := Yx2.out.thaw.1
    have Nx2_0 := Lib.hid (Yx2.out.set0 y)
    have E2_0 := Lib.hid (below_set (C := w1.heap.size) (i := 0) D2.out (by omega) (.int .i64 y))
    obtain ⟨S2_0, hS2_0⟩ : ∃ W, (w1.alloc (.cells #[.int .i64 0, .int .i64 0, .int .i64 0, .int .i64 0, .int .i64 0, .int .i64 0, .int .i64 0] 23)).setCell ⟨w1.heap.size, 0, none⟩ (.int .i64 y) = W := ⟨_, rfl⟩
    rw [hS2_0] at Nx2_0 E2_0
    clear Yx2 D2
    have r2_1 := Nx2_0.out.cells.2.1
    have g2_1 := Nx2_0.out.thaw.2.1
    have Nx2_1 := Lib.hid (Nx2_0.out.set1 m)
    have E2_1 := Lib.hid (below_set (C := w1.heap.size) (i := 1) E2_0.out (by omega) (.int .i64 m))
    obtain ⟨S2_1, hS2_1⟩ : ∃ W, S2_0.setCell ⟨w1.heap.size, 1, none⟩ (.int .i64 m) = W := ⟨_, rfl⟩
    rw [hS2_1] at Nx2_1 E2_1
    clear Nx2_0 E2_0
    have r2_2 := Nx2_1.out.cells.2.2.1
    have g2_2 := Nx2_1.out.thaw.2.2.1
    have Nx2_2 := Lib.hid (Nx2_1.out.set2 d)
    have E2_2 := Lib.hid (below_set (C := w1.heap.size) (i := 2) E2_1.out (by omega) (.int .i64 d))
    obtain ⟨S2_2, hS2_2⟩ : ∃ W, S2_1.setCell ⟨w1.heap.size, 2, none⟩ (.int .i64 d) = W := ⟨_, rfl⟩
    rw [hS2_2] at Nx2_2 E2_2
    clear Nx2_1 E2_1
    have r2_3 := Nx2_2.out.cells.2.2.2.1
    have g2_3 := Nx2_2.out.thaw.2.2.2.1
    have Nx2_3 := Lib.hid (Nx2_2.out.set3 hh)
    have E2_3 := Lib.hid (below_set (C := w1.heap.size) (i := 3) E2_2.out (by omega) (.int .i64 hh))
    obtain ⟨S2_3, hS2_3⟩ : ∃ W, S2_2.setCell ⟨w1.heap.size, 3, none⟩ (.int .i64 hh) = W := ⟨_, rfl⟩
    rw [hS2_3] at Nx2_3 E2_3
    clear Nx2_2 E2_2
    have r2_4 := Nx2_3.out.cells.2.2.2.2.1
    have g2_4 := Nx2_3.out.thaw.2.2.2.2.1
    have Nx2_4 := Lib.hid (Nx2_3.out.set4 mi)
    have E2_4 := Lib.hid (below_set (C := w1.heap.size) (i := 4) E2_3.out (by omega) (.int .i64 mi))
    obtain ⟨S2_4, hS2_4⟩ : ∃ W, S2_3.setCell ⟨w1.heap.size, 4, none⟩ (.int .i64 mi) = W := ⟨_, rfl⟩
    rw [hS2_4] at Nx2_4 E2_4
    clear Nx2_3 E2_3
    have r2_5 := Nx2_4.out.cells.2.2.2.2.2.1
    have g2_5 := Nx2_4.out.thaw.2.2.2.2.2.1
    have Nx2_5 := Lib.hid (Nx2_4.out.set5 s)
    have E2_5 := Lib.hid (below_set (C := w1.heap.size) (i := 5) E2_4.out (by omega) (.int .i64 s))
    obtain ⟨S2_5, hS2_5⟩ : ∃ W, S2_4.setCell ⟨w1.heap.size, 5, none⟩ (.int .i64 s) = W := ⟨_, rfl⟩
    rw [hS2_5] at Nx2_5 E2_5
    clear Nx2_4 E2_4
    have r2_6 := Nx2_5.out.cells.2.2.2.2.2.2
    have g2_6 := Nx2_5.out.thaw.2.2.2.2.2.2
    have Nx2_6 := Lib.hid (Nx2_5.out.set6 n)
    have E2_6 := Lib.hid (below_set (C := w1.heap.size) (i := 6) E2_5.out (by omega) (.int .i64 n))
    obtain ⟨S2_6, hS2_6⟩ : ∃ W, S2_5.setCell ⟨w1.heap.size, 6, none⟩ (.int .i64 n) = W := ⟨_, rfl⟩
    rw [hS2_6] at Nx2_6 E2_6
    clear Nx2_5 E2_5
    clear B1
    go_wp2_with fail
    clear hs2 r2_0 g2_0 hS2_0 r2_1 g2_1 hS2_1 r2_2 g2_2 hS2_2 r2_3 g2_3 hS2_3 r2_4 g2_4 hS2_4 r2_5 g2_5 hS2_5 r2_6 g2_6 hS2_6
    refine (HB'.out _ (show MT S2_6 from HT.out.below E2_6.out)).mono ?_
    rintro e w3 ⟨rfl, hb⟩
    have Xx3 := Lib.hid (Nx2_6.out.below hb Nx2_6.out.lt)
    have B3 := Lib.hid (E2_6.out.trans (hb.mono E2_6.out.size))
    have hz3 := hb.size
    clear hb Nx2_6 E2_6
    have Yy4 := Lib.hid (bx7_new w3 0 0 0 0 0 0 0)
    have lx4 := Xx3.out.lt
    have Yx4 := Lib.hid (Xx3.out.alloc (.cells #[.int .i64 0, .int .i64 0, .int .i64 0, .int .i64 0, .int .i64 0, .int .i64 0, .int .i64 0] 23))
    have D4 := Lib.hid (B3.out.alloc B3.out.size (.cells #[.int .i64 0, .int .i64 0, .int .i64 0, .int .i64 0, .int .i64 0, .int .i64 0, .int .i64 0] 23))
    have hs4 := B3.out.size
    have r4_0 := Yy4.out.cells.1
    have g4_0 := Yy4.out.thaw.1
    have Ny4_0 := Lib.hid (Yy4.out.set0 y2)
    have Nx4_0 := Lib.hid (Yx4.out.other (C := w3.heap.size) (i := 0) (by omega) (.int .i64 y2))
    have E4_0 := Lib.hid (below_set (C := w3.heap.size) (i := 0) D4.out (by omega) (.int .i64 y2))
    obtain ⟨S4_0, hS4_0⟩ : ∃ W, (w3.alloc (.cells #[.int .i64 0, .int .i64 0, .int .i64 0, .int .i64 0, .int .i64 0, .int .i64 0, .int .i64 0] 23)).setCell ⟨w3.heap.size, 0, none⟩ (.int .i64 y2) = W := ⟨_, rfl⟩
    rw [hS4_0] at Ny4_0 Nx4_0 E4_0
    clear Yy4 Yx4 D4
    have r4_1 := Ny4_0.out.cells.2.1
    have g4_1 := Ny4_0.out.thaw.2.1
    have Ny4_1 := Lib.hid (Ny4_0.out.set1 m2)
    have Nx4_1 := Lib.hid (Nx4_0.out.other (C := w3.heap.size) (i := 1) (by omega) (.int .i64 m2))
    have E4_1 := Lib.hid (below_set (C := w3.heap.size) (i := 1) E4_0.out (by omega) (.int .i64 m2))
    obtain ⟨S4_1, hS4_1⟩ : ∃ W, S4_0.setCell ⟨w3.heap.size, 1, none⟩ (.int .i64 m2) = W := ⟨_, rfl⟩
    rw [hS4_1] at Ny4_1 Nx4_1 E4_1
    clear Ny4_0 Nx4_0 E4_0
    have r4_2 := Ny4_1.out.cells.2.2.1
    have g4_2 := Ny4_1.out.thaw.2.2.1
    have Ny4_2 := Lib.hid (Ny4_1.out.set2 d2)
    have Nx4_2 := Lib.hid (Nx4_1.out.other (C := w3.heap.size) (i := 2) (by omega) (.int .i64 d2))
    have E4_2 := Lib.hid (below_set (C := w3.heap.size) (i := 2) E4_1.out (by omega) (.int .i64 d2))
    obtain ⟨S4_2, hS4_2⟩ : ∃ W, S4_1.setCell ⟨w3.heap.size, 2, none⟩ (.int .i64 d2) = W := ⟨_, rfl⟩
    rw [hS4_2] at Ny4_2 Nx4_2 E4_2
    clear Ny4_1 Nx4_1 E4_1
    have r4_3 := Ny4_2.out.cells.2.2.2.1
    have g4_3 := Ny4_2.out.thaw.2.2.2.1
    have Ny4_3 := Lib.hid (Ny4_2.out.set3 hh2)
    have Nx4_3 := Lib.hid (Nx4_2.out.other (C := w3.heap.size) (i := 3) (by omega) (.int .i64 hh2))
    have E4_3 := Lib.hid (below_set (C := w3.heap.size) (i := 3) E4_2.out (by omega) (.int .i64 hh2))
    obtain ⟨S4_3, hS4_3⟩ : ∃ W, S4_2.setCell ⟨w3.heap.size, 3, none⟩ (.int .i64 hh2) = W := ⟨_, rfl⟩
    rw [hS4_3] at Ny4_3 Nx4_3 E4_3
    clear Ny4_2 Nx4_2 E4_2
    have r4_4 := Ny4_3.out.cells.2.2.2.2.1
    have g4_4 := Ny4_3.out.thaw.2.2.2.2.1
    have Ny4_4 := Lib.hid (Ny4_3.out.set4 mi2)
    have Nx4_4 := Lib.hid (Nx4_3.out.other (C := w3.heap.size) (i := 4) (by omega) (.int .i64 mi2))
    have E4_4 := Lib.hid (below_set (C := w3.heap.size) (i := 4) E4_3.out (by omega) (.int .i64 mi2))
    obtain ⟨S4_4, hS4_4⟩ : ∃ W, S4_3.setCell ⟨w3.heap.size, 4, none⟩ (.int .i64 mi2) = W := ⟨_, rfl⟩
    rw [hS4_4] at Ny4_4 Nx4_4 E4_4
    clear Ny4_3 Nx4_3 E4_3
    have r4_5 := Ny4_4.out.cells.2.2.2.2.2.1
    have g4_5 := Ny4_4.out.thaw.2.2.2.2.2.1
    have Ny4_5 := Lib.hid (Ny4_4.out.set5 s2)
    have Nx4_5 := Lib.hid (Nx4_4.out.other (C := w3.heap.size) (i := 5) (by omega) (.int .i64 s2))
    have E4_5 := Lib.hid (below_set (C := w3.heap.size) (i := 5) E4_4.out (by omega) (.int .i64 s2))
    obtain ⟨S4_5, hS4_5⟩ : ∃ W, S4_4.setCell ⟨w3.heap.size, 5, none⟩ (.int .i64 s2) = W := ⟨_, rfl⟩
    rw [hS4_5] at Ny4_5 Nx4_5 E4_5
    clear Ny4_4 Nx4_4 E4_4
    have r4_6 := Ny4_5.out.cells.2.2.2.2.2.2
    have g4_6 := Ny4_5.out.thaw.2.2.2.2.2.2
    have Ny4_6 := Lib.hid (Ny4_5.out.set6 n2)
    have Nx4_6 := Lib.hid (Nx4_5.out.other (C := w3.heap.size) (i := 6) (by omega) (.int .i64 n2))
    have E4_6 := Lib.hid (below_set (C := w3.heap.size) (i := 6) E4_5.out (by omega) (.int .i64 n2))
    obtain ⟨S4_6, hS4_6⟩ : ∃ W, S4_5.setCell ⟨w3.heap.size, 6, none⟩ (.int .i64 n2) = W := ⟨_, rfl⟩
    rw [hS4_6] at Ny4_6 Nx4_6 E4_6
    clear Ny4_5 Nx4_5 E4_5
    clear Xx3 B3
    go_wp2_with fail
    clear hs4 r4_0 g4_0 hS4_0 r4_1 g4_1 hS4_1 r4_2 g4_2 hS4_2 r4_3 g4_3 hS4_3 r4_4 g4_4 hS4_4 r4_5 g4_5 hS4_5 r4_6 g4_6 hS4_6
    refine (awake5_any _ (show MT S4_6 from HT.out.below E4_6.out) (show Tab S4_6 from HP.out.below E4_6.out)).mono ?_
    rintro e w5 ⟨rfl, hb⟩
    have Xx5 := Lib.hid (Nx4_6.out.below hb Nx4_6.out.lt)
    have Xy5 := Lib.hid (Ny4_6.out.below hb Ny4_6.out.lt)
    have B5 := Lib.hid (E4_6.out.trans (hb.mono E4_6.out.size))
    have hz5 := hb.size
    clear hb Nx4_6 Ny4_6 E4_6
    go_wp2_with fail
    go_ret
    exact ⟨rfl, B5.out⟩

set_option maxRecDepth 100000 in
set_option maxHeartbeats 4000000 in
theorem order_in (a b c : Int) (w : World) (ht : MT w) (hp : Tab w) (ha : inS a = true) (hb : inS b = true) :
    Calls Tryd.prog 9 #[.int .i64 a, .int .i64 b, .int .i64 c] w fun e w' => e = .returned (.bool true) ∧ Below w.heap.size w w' := by
  have HT := Lib.hid ht
  have HP := Lib.hid hp
  have BB0 := Lib.hid (Below.refl w.heap.size w)
  have hn := nano_bounds c
  have hka := okC_iff.1 (of_ok ha)
  have hok : okC (oY a) (oM a) (oD a) (oH a) (oI a) (oS a) (nanoOf c) = true := okC_iff.2 (by omega)
  have HL := Lib.hid (text_less ha hb hn.1 hn.2)
  have HS := Lib.hid (text_size hok)
  have HPT := Lib.hid (parse_text hok)
  have HIA := Lib.hid ha
  have HIB := Lib.hid hb
  obtain ⟨T, hT⟩ : ∃ T, txtC (oY a) (oM a) (oD a) (oH a) (oI a) (oS a) (nanoOf c) = T := ⟨_, rfl⟩
  obtain ⟨T2, hT2⟩ : ∃ T, txtC (oY b) (oM b) (oD b) (oH b) (oI b) (oS b) 0 = T := ⟨_, rfl⟩
  rw [hT] at HS HPT
  rw [hT, hT2] at HL
  obtain ⟨N, hN⟩ : ∃ N, nanoOf c = N := ⟨_, rfl⟩
  rw [hN] at hn HPT hT
  obtain ⟨n0, n1⟩ := hn
  have hcv : wrap64 ((IntKind.u64.wrap c).tmod 1000000000) = N := (nano_walk c).trans hN
  obtain ⟨Y, hY⟩ : ∃ z, oY a = z := ⟨_, rfl⟩
  obtain ⟨M, hM⟩ : ∃ z, oM a = z := ⟨_, rfl⟩
  obtain ⟨D, hD⟩ : ∃ z, oD a = z := ⟨_, rfl⟩
  obtain ⟨H, hH⟩ : ∃ z, oH a = z := ⟨_, rfl⟩
  obtain ⟨I, hI⟩ : ∃ z, oI a = z := ⟨_, rfl⟩
  obtain ⟨S, hS⟩ : ∃ z, oS a = z := ⟨_, rfl⟩
  obtain ⟨Y2, hY2⟩ : ∃ z, oY b = z := ⟨_, rfl⟩
  obtain ⟨M2, hM2⟩ : ∃ z, oM b = z := ⟨_, rfl⟩
  obtain ⟨D2, hD2⟩ : ∃ z, oD b = z := ⟨_, rfl⟩
  obtain ⟨H2, hH2⟩ : ∃ z, oH b = z := ⟨_, rfl⟩
  obtain ⟨I2, hI2⟩ : ∃ z, oI b = z := ⟨_, rfl⟩
  obtain ⟨S2, hS2⟩ : ∃ z, oS b = z := ⟨_, rfl⟩
  rw [hY, hM, hD, hH, hI, hS] at HPT hT
  rw [hY2, hM2, hD2, hH2, hI2, hS2] at hT2
  have HO1 : Hid (∀ u : World, MT u → Calls Tryd.prog 16 #[.int .i64 a] u fun e w' => e = .returned (.tuple #[.agg #[.int .i64 Y, .int .i64 M, .int .i64 D, .int .i64 H, .int .i64 I, .int .i64 S, .int .i64 0], .int .i64 0]) ∧ Below u.heap.size u w') := Lib.hid (fun u hu => by
    have h := of_in a u hu HIA.out
    rw [hY, hM, hD, hH, hI, hS] at h; exact h)
  have HO2 : Hid (∀ u : World, MT u → Calls Tryd.prog 16 #[.int .i64 b] u fun e w' => e = .returned (.tuple #[.agg #[.int .i64 Y2, .int .i64 M2, .int .i64 D2, .int .i64 H2, .int .i64 I2, .int .i64 S2, .int .i64 0], .int .i64 0]) ∧ Below u.heap.size u w') := Lib.hid (fun u hu => by
    have h := of_in b u hu HIB.out
    rw [hY2, hM2, hD2, hH2, hI2, hS2] at h; exact h)
  have HPA : Hid (∀ u : World, MT u → Calls Tryd.prog 24 #[.string T] u fun e w' => e = .returned (.tuple #[.agg #[.int .i64 Y, .int .i64 M, .int .i64 D, .int .i64 H, .int .i64 I, .int .i64 S, .int .i64 N], .int .i64 0]) ∧ Below u.heap.size u w') := Lib.hid (fun u hu => by
    have h := pparse_any T u hu
    rw [HPT.out.1, HPT.out.2.1, HPT.out.2.2.1, HPT.out.2.2.2.1, HPT.out.2.2.2.2.1, HPT.out.2.2.2.2.2.1, HPT.out.2.2.2.2.2.2.1, HPT.out.2.2.2.2.2.2.2] at h; exact h)
  have HTX := Lib.hid hT
  have HTX2 := Lib.hid hT2
  have hs30 : T.size = 30 := HS.out
  have hab : a < b ∨ ¬ a < b := by omega
  have HAB := Lib.hid hab
  clear ht hp hka hok ha hb hT hT2 hN hY hM hD hH hI hS hY2 hM2 hD2 hH2 hI2 hS2 HPT HS HIA HIB hab
  go_enter Tryd.func9, Tryd.ntmps9
  go_wp2_with fail
  refine (HO1.out _ (show MT w from HT.out.below BB0.out)).mono ?_
  rintro e w1 ⟨rfl, hb⟩
  have B1 := Lib.hid (BB0.out.trans (hb.mono BB0.out.size))
  have hz1 := hb.size
  clear hb BB0
  have Yx2 := Lib.hid (bx7_new w1 0 0 0 0 0 0 0)
  have D2 := Lib.hid (B1.out.alloc B1.out.size (.cells #[.int .i64 0, .int .i64 0, .int .i64 0, .int .i64 0, .int .i64 0, .int .i64 0, .int .i64 0] 23))
  have hs2 := B1.out.size
  have r2_0 := Yx2.out.cells.1
  have g2_0 := Yx2.out.thaw.1
  have Nx2_0 := Lib.hid (Yx2.out.set0 Y)
  have E2_0 := Lib.hid (below_set (C := w1.heap.size) (i := 0) D2.out (by omega) (.int .i64 Y))
  obtain ⟨S2_0, hS2_0⟩ : ∃ W, (w1.alloc (.cells #[.int .i64 0, .int .i64 0, .int .i64 0, .int .i64 0, .int .i64 0, .int .i64 0, .int .i64 0] 23)).setCell ⟨w1.heap.size, 0, none⟩ (.int .i64 Y) = W := ⟨_, rfl⟩
  rw [hS2_0] at Nx2_0 E2_0
  clear Yx2 D2
  have r2_1 := Nx2_0.out.cells.2.1
  have g2_1 := Nx2_0.out.thaw.2.1
  have Nx2_1 := Lib.hid (Nx2_0.out.set1 M)
  have E2_1 := Lib.hid (below_set (C := w1.heap.size) (i := 1) E2_0.out (by omega) (.int .i64 M))
  obtain ⟨S2_1, hS2_1⟩ : ∃ W, S2_0.setCell ⟨w1.heap.size, 1, none⟩ (.int .i64 M) = W := ⟨_, rfl⟩
  rw [hS2_1] at Nx2_1 E2_1
  clear Nx2_0 E2_0
  have r2_2 := Nx2_1.out.cells.2.2.1
  have g2_2 := Nx2_1.out.thaw.2.2.1
  have Nx2_2 := Lib.hid (Nx2_1.out.set2 D)
  have E2_2 := Lib.hid (below_set (C := w1.heap.size) (i := 2) E2_1.out (by omega) (.int .i64 D))
  obtain ⟨S2_2, hS2_2⟩ : ∃ W, S2_1.setCell ⟨w1.heap.size, 2, none⟩ (.int .i64 D) = W := ⟨_, rfl⟩
  rw [hS2_2] at Nx2_2 E2_2
  clear Nx2_1 E2_1
  have r2_3 := Nx2_2.out.cells.2.2.2.1
  have g2_3 := Nx2_2.out.thaw.2.2.2.1
  have Nx2_3 := Lib.hid (Nx2_2.out.set3 H)
  have E2_3 := Lib.hid (below_set (C := w1.heap.size) (i := 3) E2_2.out (by omega) (.int .i64 H))
  obtain ⟨S2_3, hS2_3⟩ : ∃ W, S2_2.setCell ⟨w1.heap.size, 3, none⟩ (.int .i64 H) = W := ⟨_, rfl⟩
  rw [hS2_3] at Nx2_3 E2_3
  clear Nx2_2 E2_2
  have r2_4 := Nx2_3.out.cells.2.2.2.2.1
  have g2_4 := Nx2_3.out.thaw.2.2.2.2.1
  have Nx2_4 := Lib.hid (Nx2_3.out.set4 I)
  have E2_4 := Lib.hid (below_set (C := w1.heap.size) (i := 4) E2_3.out (by omega) (.int .i64 I))
  obtain ⟨S2_4, hS2_4⟩ : ∃ W, S2_3.setCell ⟨w1.heap.size, 4, none⟩ (.int .i64 I) = W := ⟨_, rfl⟩
  rw [hS2_4] at Nx2_4 E2_4
  clear Nx2_3 E2_3
  have r2_5 := Nx2_4.out.cells.2.2.2.2.2.1
  have g2_5 := Nx2_4.out.thaw.2.2.2.2.2.1
  have Nx2_5 := Lib.hid (Nx2_4.out.set5 S)
  have E2_5 := Lib.hid (below_set (C := w1.heap.size) (i := 5) E2_4.out (by omega) (.int .i64 S))
  obtain ⟨S2_5, hS2_5⟩ : ∃ W, S2_4.setCell ⟨w1.heap.size, 5, none⟩ (.int .i64 S) = W := ⟨_, rfl⟩
  rw [hS2_5] at Nx2_5 E2_5
  clear Nx2_4 E2_4
  have r2_6 := Nx2_5.out.cells.2.2.2.2.2.2
  have g2_6 := Nx2_5.out.thaw.2.2.2.2.2.2
  have Nx2_6 := Lib.hid (Nx2_5.out.set6 0)
  have E2_6 := Lib.hid (below_set (C := w1.heap.size) (i := 6) E2_5.out (by omega) (.int .i64 0))
  obtain ⟨S2_6, hS2_6⟩ : ∃ W, S2_5.setCell ⟨w1.heap.size, 6, none⟩ (.int .i64 0) = W := ⟨_, rfl⟩
  rw [hS2_6] at Nx2_6 E2_6
  clear Nx2_5 E2_5
  clear B1
  go_wp2_with fail
  clear hs2 r2_0 g2_0 hS2_0 r2_1 g2_1 hS2_1 r2_2 g2_2 hS2_2 r2_3 g2_3 hS2_3 r2_4 g2_4 hS2_4 r2_5 g2_5 hS2_5 r2_6 g2_6 hS2_6
  refine (HO2.out _ (show MT S2_6 from HT.out.below E2_6.out)).mono ?_
  rintro e w3 ⟨rfl, hb⟩
  have Xx3 := Lib.hid (Nx2_6.out.below hb Nx2_6.out.lt)
  have B3 := Lib.hid (E2_6.out.trans (hb.mono E2_6.out.size))
  have hz3 := hb.size
  clear hb Nx2_6 E2_6
  have Yy4 := Lib.hid (bx7_new w3 0 0 0 0 0 0 0)
  have lx4 := Xx3.out.lt
  have Yx4 := Lib.hid (Xx3.out.alloc (.cells #[.int .i64 0, .int .i64 0, .int .i64 0, .int .i64 0, .int .i64 0, .int .i64 0, .int .i64 0] 23))
  have D4 := Lib.hid (B3.out.alloc B3.out.size (.cells #[.int .i64 0, .int .i64 0, .int .i64 0, .int .i64 0, .int .i64 0, .int .i64 0, .int .i64 0] 23))
  have hs4 := B3.out.size
  have r4_0 := Yy4.out.cells.1
  have g4_0 := Yy4.out.thaw.1
  have Ny4_0 := Lib.hid (Yy4.out.set0 Y2)
  have Nx4_0 := Lib.hid (Yx4.out.other (C := w3.heap.size) (i := 0) (by omega) (.int .i64 Y2))
  have E4_0 := Lib.hid (below_set (C := w3.heap.size) (i := 0) D4.out (by omega) (.int .i64 Y2))
  obtain ⟨S4_0, hS4_0⟩ : ∃ W, (w3.alloc (.cells #[.int .i64 0, .int .i64 0, .int .i64 0, .int .i64 0, .int .i64 0, .int .i64 0, .int .i64 0] 23)).setCell ⟨w3.heap.size, 0, none⟩ (.int .i64 Y2) = W := ⟨_, rfl⟩
  rw [hS4_0] at Ny4_0 Nx4_0 E4_0
  clear Yy4 Yx4 D4
  have r4_1 := Ny4_0.out.cells.2.1
  have g4_1 := Ny4_0.out.thaw.2.1
  have Ny4_1 := Lib.hid (Ny4_0.out.set1 M2)
  have Nx4_1 := Lib.hid (Nx4_0.out.other (C := w3.heap.size) (i := 1) (by omega) (.int .i64 M2))
  have E4_1 := Lib.hid (below_set (C := w3.heap.size) (i := 1) E4_0.out (by omega) (.int .i64 M2))
  obtain ⟨S4_1, hS4_1⟩ : ∃ W, S4_0.setCell ⟨w3.heap.size, 1, none⟩ (.int .i64 M2) = W := ⟨_, rfl⟩
  rw [hS4_1] at Ny4_1 Nx4_1 E4_1
  clear Ny4_0 Nx4_0 E4_0
  have r4_2 := Ny4_1.out.cells.2.2.1
  have g4_2 := Ny4_1.out.thaw.2.2.1
  have Ny4_2 := Lib.hid (Ny4_1.out.set2 D2)
  have Nx4_2 := Lib.hid (Nx4_1.out.other (C := w3.heap.size) (i := 2) (by omega) (.int .i64 D2))
  have E4_2 := Lib.hid (below_set (C := w3.heap.size) (i := 2) E4_1.out (by omega) (.int .i64 D2))
  obtain ⟨S4_2, hS4_2⟩ : ∃ W, S4_1.setCell ⟨w3.heap.size, 2, none⟩ (.int .i64 D2) = W := ⟨_, rfl⟩
  rw [hS4_2] at Ny4_2 Nx4_2 E4_2
  clear Ny4_1 Nx4_1 E4_1
  have r4_3 := Ny4_2.out.cells.2.2.2.1
  have g4_3 := Ny4_2.out.thaw.2.2.2.1
  have Ny4_3 := Lib.hid (Ny4_2.out.set3 H2)
  have Nx4_3 := Lib.hid (Nx4_2.out.other (C := w3.heap.size) (i := 3) (by omega) (.int .i64 H2))
  have E4_3 := Lib.hid (below_set (C := w3.heap.size) (i := 3) E4_2.out (by omega) (.int .i64 H2))
  obtain ⟨S4_3, hS4_3⟩ : ∃ W, S4_2.setCell ⟨w3.heap.size, 3, none⟩ (.int .i64 H2) = W := ⟨_, rfl⟩
  rw [hS4_3] at Ny4_3 Nx4_3 E4_3
  clear Ny4_2 Nx4_2 E4_2
  have r4_4 := Ny4_3.out.cells.2.2.2.2.1
  have g4_4 := Ny4_3.out.thaw.2.2.2.2.1
  have Ny4_4 := Lib.hid (Ny4_3.out.set4 I2)
  have Nx4_4 := Lib.hid (Nx4_3.out.other (C := w3.heap.size) (i := 4) (by omega) (.int .i64 I2))
  have E4_4 := Lib.hid (below_set (C := w3.heap.size) (i := 4) E4_3.out (by omega) (.int .i64 I2))
  obtain ⟨S4_4, hS4_4⟩ : ∃ W, S4_3.setCell ⟨w3.heap.size, 4, none⟩ (.int .i64 I2) = W := ⟨_, rfl⟩
  rw [hS4_4] at Ny4_4 Nx4_4 E4_4
  clear Ny4_3 Nx4_3 E4_3
  have r4_5 := Ny4_4.out.cells.2.2.2.2.2.1
  have g4_5 := Ny4_4.out.thaw.2.2.2.2.2.1
  have Ny4_5 := Lib.hid (Ny4_4.out.set5 S2)
  have Nx4_5 := Lib.hid (Nx4_4.out.other (C := w3.heap.size) (i := 5) (by omega) (.int .i64 S2))
  have E4_5 := Lib.hid (below_set (C := w3.heap.size) (i := 5) E4_4.out (by omega) (.int .i64 S2))
  obtain ⟨S4_5, hS4_5⟩ : ∃ W, S4_4.setCell ⟨w3.heap.size, 5, none⟩ (.int .i64 S2) = W := ⟨_, rfl⟩
  rw [hS4_5] at Ny4_5 Nx4_5 E4_5
  clear Ny4_4 Nx4_4 E4_4
  have r4_6 := Ny4_5.out.cells.2.2.2.2.2.2
  have g4_6 := Ny4_5.out.thaw.2.2.2.2.2.2
  have Ny4_6 := Lib.hid (Ny4_5.out.set6 0)
  have Nx4_6 := Lib.hid (Nx4_5.out.other (C := w3.heap.size) (i := 6) (by omega) (.int .i64 0))
  have E4_6 := Lib.hid (below_set (C := w3.heap.size) (i := 6) E4_5.out (by omega) (.int .i64 0))
  obtain ⟨S4_6, hS4_6⟩ : ∃ W, S4_5.setCell ⟨w3.heap.size, 6, none⟩ (.int .i64 0) = W := ⟨_, rfl⟩
  rw [hS4_6] at Ny4_6 Nx4_6 E4_6
  clear Ny4_5 Nx4_5 E4_5
  clear Xx3 B3
  have r5 := Nx4_6.out.cells.2.2.2.2.2.2
  have g5 := Nx4_6.out.thaw.2.2.2.2.2.2
  have Nx5 := Lib.hid (Nx4_6.out.set6 N)
  have Ny5 := Lib.hid (Ny4_6.out.other (C := w1.heap.size) (i := 6) (by omega) (.int .i64 N))
  have E5 := Lib.hid (below_set (C := w1.heap.size) (i := 6) E4_6.out (by omega) (.int .i64 N))
  obtain ⟨S5, hS5⟩ : ∃ W, S4_6.setCell ⟨w1.heap.size, 6, none⟩ (.int .i64 N) = W := ⟨_, rfl⟩
  rw [hS5] at Nx5 Ny5 E5
  clear Nx4_6 Ny4_6 E4_6
  obtain ⟨c6_0, c6_1, c6_2, c6_3, c6_4, c6_5, c6_6⟩ := Nx5.out.cells
  skip
  go_wp2_with fail
  clear hs4 r4_0 g4_0 hS4_0 r4_1 g4_1 hS4_1 r4_2 g4_2 hS4_2 r4_3 g4_3 hS4_3 r4_4 g4_4 hS4_4 r4_5 g4_5 hS4_5 r4_6 g4_6 hS4_6 r5 g5 hS5 c6_0 c6_1 c6_2 c6_3 c6_4 c6_5 c6_6
  refine (ctext_any Y M D H I S N _ (show MT S5 from HT.out.below E5.out) (show Tab S5 from HP.out.below E5.out)).mono ?_
  rintro e w7 ⟨rfl, hb⟩
  have Xx7 := Lib.hid (Nx5.out.below hb Nx5.out.lt)
  have Xy7 := Lib.hid (Ny5.out.below hb Ny5.out.lt)
  have B7 := Lib.hid (E5.out.trans (hb.mono E5.out.size))
  have hz7 := hb.size
  clear hb Nx5 Ny5 E5
  rw [HTX.out]
  go_wp2_with fail
  refine (HPA.out _ (show MT w7 from HT.out.below B7.out)).mono ?_
  rintro e w8 ⟨rfl, hb⟩
  have Xx8 := Lib.hid (Xx7.out.below hb Xx7.out.lt)
  have Xy8 := Lib.hid (Xy7.out.below hb Xy7.out.lt)
  have B8 := Lib.hid (B7.out.trans (hb.mono B7.out.size))
  have hz8 := hb.size
  clear hb Xx7 Xy7 B7
  have Yz9 := Lib.hid (bx7_new w8 0 0 0 0 0 0 0)
  have lx9 := Xx8.out.lt
  have Yx9 := Lib.hid (Xx8.out.alloc (.cells #[.int .i64 0, .int .i64 0, .int .i64 0, .int .i64 0, .int .i64 0, .int .i64 0, .int .i64 0] 23))
  have ly9 := Xy8.out.lt
  have Yy9 := Lib.hid (Xy8.out.alloc (.cells #[.int .i64 0, .int .i64 0, .int .i64 0, .int .i64 0, .int .i64 0, .int .i64 0, .int .i64 0] 23))
  have D9 := Lib.hid (B8.out.alloc B8.out.size (.cells #[.int .i64 0, .int .i64 0, .int .i64 0, .int .i64 0, .int .i64 0, .int .i64 0, .int .i64 0] 23))
  have hs9 := B8.out.size
  have r9_0 := Yz9.out.cells.1
  have g9_0 := Yz9.out.thaw.1
  have Nz9_0 := Lib.hid (Yz9.out.set0 Y)
  have Nx9_0 := Lib.hid (Yx9.out.other (C := w8.heap.size) (i := 0) (by omega) (.int .i64 Y))
  have Ny9_0 := Lib.hid (Yy9.out.other (C := w8.heap.size) (i := 0) (by omega) (.int .i64 Y))
  have E9_0 := Lib.hid (below_set (C := w8.heap.size) (i := 0) D9.out (by omega) (.int .i64 Y))
  obtain ⟨S9_0, hS9_0⟩ : ∃ W, (w8.alloc (.cells #[.int .i64 0, .int .i64 0, .int .i64 0, .int .i64 0, .int .i64 0, .int .i64 0, .int .i64 0] 23)).setCell ⟨w8.heap.size, 0, none⟩ (.int .i64 Y) = W := ⟨_, rfl⟩
  rw [hS9_0] at Nz9_0 Nx9_0 Ny9_0 E9_0
  clear Yz9 Yx9 Yy9 D9
  have r9_1 := Nz9_0.out.cells.2.1
  have g9_1 := Nz9_0.out.thaw.2.1
  have Nz9_1 := Lib.hid (Nz9_0.out.set1 M)
  have Nx9_1 := Lib.hid (Nx9_0.out.other (C := w8.heap.size) (i := 1) (by omega) (.int .i64 M))
  have Ny9_1 := Lib.hid (Ny9_0.out.other (C := w8.heap.size) (i := 1) (by omega) (.int .i64 M))
  have E9_1 := Lib.hid (below_set (C := w8.heap.size) (i := 1) E9_0.out (by omega) (.int .i64 M))
  obtain ⟨S9_1, hS9_1⟩ : ∃ W, S9_0.setCell ⟨w8.heap.size, 1, none⟩ (.int .i64 M) = W := ⟨_, rfl⟩
  rw [hS9_1] at Nz9_1 Nx9_1 Ny9_1 E9_1
  clear Nz9_0 Nx9_0 Ny9_0 E9_0
  have r9_2 := Nz9_1.out.cells.2.2.1
  have g9_2 := Nz9_1.out.thaw.2.2.1
  have Nz9_2 := Lib.hid (Nz9_1.out.set2 D)
  have Nx9_2 := Lib.hid (Nx9_1.out.other (C := w8.heap.size) (i := 2) (by omega) (.int .i64 D))
  have Ny9_2 := Lib.hid (Ny9_1.out.other (C := w8.heap.size) (i := 2) (by omega) (.int .i64 D))
  have E9_2 := Lib.hid (below_set (C := w8.heap.size) (i := 2) E9_1.out (by omega) (.int .i64 D))
  obtain ⟨S9_2, hS9_2⟩ : ∃ W, S9_1.setCell ⟨w8.heap.size, 2, none⟩ (.int .i64 D) = W := ⟨_, rfl⟩
  rw [hS9_2] at Nz9_2 Nx9_2 Ny9_2 E9_2
  clear Nz9_1 Nx9_1 Ny9_1 E9_1
  have r9_3 := Nz9_2.out.cells.2.2.2.1
  have g9_3 := Nz9_2.out.thaw.2.2.2.1
  have Nz9_3 := Lib.hid (Nz9_2.out.set3 H)
  have Nx9_3 := Lib.hid (Nx9_2.out.other (C := w8.heap.size) (i := 3) (by omega) (.int .i64 H))
  have Ny9_3 := Lib.hid (Ny9_2.out.other (C := w8.heap.size) (i := 3) (by omega) (.int .i64 H))
  have E9_3 := Lib.hid (below_set (C := w8.heap.size) (i := 3) E9_2.out (by omega) (.int .i64 H))
  obtain ⟨S9_3, hS9_3⟩ : ∃ W, S9_2.setCell ⟨w8.heap.size, 3, none⟩ (.int .i64 H) = W := ⟨_, rfl⟩
  rw [hS9_3] at Nz9_3 Nx9_3 Ny9_3 E9_3
  clear Nz9_2 Nx9_2 Ny9_2 E9_2
  have r9_4 := Nz9_3.out.cells.2.2.2.2.1
  have g9_4 := Nz9_3.out.thaw.2.2.2.2.1
  have Nz9_4 := Lib.hid (Nz9_3.out.set4 I)
  have Nx9_4 := Lib.hid (Nx9_3.out.other (C := w8.heap.size) (i := 4) (by omega) (.int .i64 I))
  have Ny9_4 := Lib.hid (Ny9_3.out.other (C := w8.heap.size) (i := 4) (by omega) (.int .i64 I))
  have E9_4 := Lib.hid (below_set (C := w8.heap.size) (i := 4) E9_3.out (by omega) (.int .i64 I))
  obtain ⟨S9_4, hS9_4⟩ : ∃ W, S9_3.setCell ⟨w8.heap.size, 4, none⟩ (.int .i64 I) = W := ⟨_, rfl⟩
  rw [hS9_4] at Nz9_4 Nx9_4 Ny9_4 E9_4
  clear Nz9_3 Nx9_3 Ny9_3 E9_3
  have r9_5 := Nz9_4.out.cells.2.2.2.2.2.1
  have g9_5 := Nz9_4.out.thaw.2.2.2.2.2.1
  have Nz9_5 := Lib.hid (Nz9_4.out.set5 S)
  have Nx9_5 := Lib.hid (Nx9_4.out.other (C := w8.heap.size) (i := 5) (by omega) (.int .i64 S))
  have Ny9_5 := Lib.hid (Ny9_4.out.other (C := w8.heap.size) (i := 5) (by omega) (.int .i64 S))
  have E9_5 := Lib.hid (below_set (C := w8.heap.size) (i := 5) E9_4.out (by omega) (.int .i64 S))
  obtain ⟨S9_5, hS9_5⟩ : ∃ W, S9_4.setCell ⟨w8.heap.size, 5, none⟩ (.int .i64 S) = W := ⟨_, rfl⟩
  rw [hS9_5] at Nz9_5 Nx9_5 Ny9_5 E9_5
  clear Nz9_4 Nx9_4 Ny9_4 E9_4
  have r9_6 := Nz9_5.out.cells.2.2.2.2.2.2
  have g9_6 := Nz9_5.out.thaw.2.2.2.2.2.2
  have Nz9_6 := Lib.hid (Nz9_5.out.set6 N)
  have Nx9_6 := Lib.hid (Nx9_5.out.other (C := w8.heap.size) (i := 6) (by omega) (.int .i64 N))
  have Ny9_6 := Lib.hid (Ny9_5.out.other (C := w8.heap.size) (i := 6) (by omega) (.int .i64 N))
  have E9_6 := Lib.hid (below_set (C := w8.heap.size) (i := 6) E9_5.out (by omega) (.int .i64 N))
  obtain ⟨S9_6, hS9_6⟩ : ∃ W, S9_5.setCell ⟨w8.heap.size, 6, none⟩ (.int .i64 N) = W := ⟨_, rfl⟩
  rw [hS9_6] at Nz9_6 Nx9_6 Ny9_6 E9_6
  clear Nz9_5 Nx9_5 Ny9_5 E9_5
  clear Xx8 Xy8 B8
  obtain ⟨c10_0, c10_1, c10_2, c10_3, c10_4, c10_5, c10_6⟩ := Nx9_6.out.cells
  obtain ⟨c11_0, c11_1, c11_2, c11_3, c11_4, c11_5, c11_6⟩ := Nz9_6.out.cells
  go_wp2_with fail
  clear hs9 r9_0 g9_0 hS9_0 r9_1 g9_1 hS9_1 r9_2 g9_2 hS9_2 r9_3 g9_3 hS9_3 r9_4 g9_4 hS9_4 r9_5 g9_5 hS9_5 r9_6 g9_6 hS9_6 c10_0 c10_1 c10_2 c10_3 c10_4 c10_5 c10_6 c11_0 c11_1 c11_2 c11_3 c11_4 c11_5 c11_6
  refine (ctext_any Y M D H I S N _ (show MT S9_6 from HT.out.below E9_6.out) (show Tab S9_6 from HP.out.below E9_6.out)).mono ?_
  rintro e w12 ⟨rfl, hb⟩
  have Xx12 := Lib.hid (Nx9_6.out.below hb Nx9_6.out.lt)
  have Xy12 := Lib.hid (Ny9_6.out.below hb Ny9_6.out.lt)
  have Xz12 := Lib.hid (Nz9_6.out.below hb Nz9_6.out.lt)
  have B12 := Lib.hid (E9_6.out.trans (hb.mono E9_6.out.size))
  have hz12 := hb.size
  clear hb Nx9_6 Ny9_6 Nz9_6 E9_6
  rw [HTX.out]
  obtain ⟨c13_0, c13_1, c13_2, c13_3, c13_4, c13_5, c13_6⟩ := Xx12.out.cells
  obtain ⟨c14_0, c14_1, c14_2, c14_3, c14_4, c14_5, c14_6⟩ := Xy12.out.cells
  go_wp2_with fail
  rcases HAB.out with hab | hab
  · have g1 : Op.bytesLess T.toList T2.toList = true := by rw [HL.out, decide_eq_true (by omega)]
    have g2 : decide (a < b) = true := decide_eq_true (by omega)
    go_region_held3 (fun w' => w'.cell? ⟨w1.heap.size, 0, none⟩ = some (.int .i64 Y) ∧ w'.cell? ⟨w1.heap.size, 1, none⟩ = some (.int .i64 M) ∧ w'.cell? ⟨w1.heap.size, 2, none⟩ = some (.int .i64 D) ∧ w'.cell? ⟨w1.heap.size, 3, none⟩ = some (.int .i64 H) ∧ w'.cell? ⟨w1.heap.size, 4, none⟩ = some (.int .i64 I) ∧ w'.cell? ⟨w1.heap.size, 5, none⟩ = some (.int .i64 S) ∧ w'.cell? ⟨w1.heap.size, 6, none⟩ = some (.int .i64 N) ∧ w'.cell? ⟨w3.heap.size, 0, none⟩ = some (.int .i64 Y2) ∧ w'.cell? ⟨w3.heap.size, 1, none⟩ = some (.int .i64 M2) ∧ w'.cell? ⟨w3.heap.size, 2, none⟩ = some (.int .i64 D2) ∧ w'.cell? ⟨w3.heap.size, 3, none⟩ = some (.int .i64 H2) ∧ w'.cell? ⟨w3.heap.size, 4, none⟩ = some (.int .i64 I2) ∧ w'.cell? ⟨w3.heap.size, 5, none⟩ = some (.int .i64 S2) ∧ w'.cell? ⟨w3.heap.size, 6, none⟩ = some (.int .i64 0)) (go_keep)
        (first
          | (go_at_call_of 26 (Value.agg #[.int .i64 Y, .int .i64 M, .int .i64 D, .int .i64 H, .int .i64 I, .int .i64 S, .int .i64 N]); refine (ctext_any Y M D H I S N _ ?_ ?_).mono ?_; exact (show MT w12 from HT.out.below B12.out); exact (show Tab w12 from HP.out.below B12.out); rintro e w15 ⟨rfl, hw⟩; rw [HTX.out]; have hw' : Below w12.heap.size w12 w15 := ⟨hw.os, hw.tape, hw.output, hw.size, hw.block⟩; have Xx15 := Lib.hid (Xx12.out.below hw' Xx12.out.lt); obtain ⟨ax150, ax151, ax152, ax153, ax154, ax155, ax156⟩ := Xx15.out.cells; have Xy15 := Lib.hid (Xy12.out.below hw' Xy12.out.lt); obtain ⟨ay150, ay151, ay152, ay153, ay154, ay155, ay156⟩ := Xy15.out.cells; have Xz15 := Lib.hid (Xz12.out.below hw' Xz12.out.lt); obtain ⟨az150, az151, az152, az153, az154, az155, az156⟩ := Xz15.out.cells; have B15 := Lib.hid (B12.out.trans (hw'.mono B12.out.size)); clear hw hw' B12)
          | (go_at_call_of 26 (Value.agg #[.int .i64 Y2, .int .i64 M2, .int .i64 D2, .int .i64 H2, .int .i64 I2, .int .i64 S2, .int .i64 0]); refine (ctext_any Y2 M2 D2 H2 I2 S2 0 _ ?_ ?_).mono ?_; exact (show MT w15 from HT.out.below B15.out); exact (show Tab w15 from HP.out.below B15.out); rintro e w16 ⟨rfl, hw⟩; rw [HTX2.out]; have hw' := hw; have Xx16 := Lib.hid (Xx15.out.below hw' Xx15.out.lt); obtain ⟨ax160, ax161, ax162, ax163, ax164, ax165, ax166⟩ := Xx16.out.cells; have Xy16 := Lib.hid (Xy15.out.below hw' Xy15.out.lt); obtain ⟨ay160, ay161, ay162, ay163, ay164, ay165, ay166⟩ := Xy16.out.cells; have Xz16 := Lib.hid (Xz15.out.below hw' Xz15.out.lt); obtain ⟨az160, az161, az162, az163, az164, az165, az166⟩ := Xz16.out.cells; have B16 := Lib.hid (B15.out.trans (hw'.mono B15.out.size)); clear hw hw' B15)
          | (go_at_call 15; refine (awake5_any _ ?_ ?_).mono ?_; exact (show MT w16 from HT.out.below B16.out); exact (show Tab w16 from HP.out.below B16.out); rintro e w17 ⟨rfl, hw⟩; have hw' := hw; have Xx17 := Lib.hid (Xx16.out.below hw' Xx16.out.lt); obtain ⟨ax170, ax171, ax172, ax173, ax174, ax175, ax176⟩ := Xx17.out.cells; have Xy17 := Lib.hid (Xy16.out.below hw' Xy16.out.lt); obtain ⟨ay170, ay171, ay172, ay173, ay174, ay175, ay176⟩ := Xy17.out.cells; have Xz17 := Lib.hid (Xz16.out.below hw' Xz16.out.lt); obtain ⟨az170, az171, az172, az173, az174, az175, az176⟩ := Xz17.out.cells; have B17 := Lib.hid (B16.out.trans (hw'.mono B16.out.size)); clear hw hw' B16))
    go_wp2_with fail
    go_ret
    exact ⟨rfl, B17.out⟩
  · have g1 : Op.bytesLess T.toList T2.toList = false := by rw [HL.out, decide_eq_false (by omega)]
    have g2 : decide (a < b) = false := decide_eq_false (by omega)
    go_region_held3 (fun w' => w'.cell? ⟨w1.heap.size, 0, none⟩ = some (.int .i64 Y) ∧ w'.cell? ⟨w1.heap.size, 1, none⟩ = some (.int .i64 M) ∧ w'.cell? ⟨w1.heap.size, 2, none⟩ = some (.int .i64 D) ∧ w'.cell? ⟨w1.heap.size, 3, none⟩ = some (.int .i64 H) ∧ w'.cell? ⟨w1.heap.size, 4, none⟩ = some (.int .i64 I) ∧ w'.cell? ⟨w1.heap.size, 5, none⟩ = some (.int .i64 S) ∧ w'.cell? ⟨w1.heap.size, 6, none⟩ = some (.int .i64 N) ∧ w'.cell? ⟨w3.heap.size, 0, none⟩ = some (.int .i64 Y2) ∧ w'.cell? ⟨w3.heap.size, 1, none⟩ = some (.int .i64 M2) ∧ w'.cell? ⟨w3.heap.size, 2, none⟩ = some (.int .i64 D2) ∧ w'.cell? ⟨w3.heap.size, 3, none⟩ = some (.int .i64 H2) ∧ w'.cell? ⟨w3.heap.size, 4, none⟩ = some (.int .i64 I2) ∧ w'.cell? ⟨w3.heap.size, 5, none⟩ = some (.int .i64 S2) ∧ w'.cell? ⟨w3.heap.size, 6, none⟩ = some (.int .i64 0)) (go_keep)
        (first
          | (go_at_call_of 26 (Value.agg #[.int .i64 Y, .int .i64 M, .int .i64 D, .int .i64 H, .int .i64 I, .int .i64 S, .int .i64 N]); refine (ctext_any Y M D H I S N _ ?_ ?_).mono ?_; exact (show MT w12 from HT.out.below B12.out); exact (show Tab w12 from HP.out.below B12.out); rintro e w15 ⟨rfl, hw⟩; rw [HTX.out]; have hw' : Below w12.heap.size w12 w15 := ⟨hw.os, hw.tape, hw.output, hw.size, hw.block⟩; have Xx15 := Lib.hid (Xx12.out.below hw' Xx12.out.lt); obtain ⟨ax150, ax151, ax152, ax153, ax154, ax155, ax156⟩ := Xx15.out.cells; have Xy15 := Lib.hid (Xy12.out.below hw' Xy12.out.lt); obtain ⟨ay150, ay151, ay152, ay153, ay154, ay155, ay156⟩ := Xy15.out.cells; have Xz15 := Lib.hid (Xz12.out.below hw' Xz12.out.lt); obtain ⟨az150, az151, az152, az153, az154, az155, az156⟩ := Xz15.out.cells; have B15 := Lib.hid (B12.out.trans (hw'.mono B12.out.size)); clear hw hw' B12)
          | (go_at_call_of 26 (Value.agg #[.int .i64 Y2, .int .i64 M2, .int .i64 D2, .int .i64 H2, .int .i64 I2, .int .i64 S2, .int .i64 0]); refine (ctext_any Y2 M2 D2 H2 I2 S2 0 _ ?_ ?_).mono ?_; exact (show MT w15 from HT.out.below B15.out); exact (show Tab w15 from HP.out.below B15.out); rintro e w16 ⟨rfl, hw⟩; rw [HTX2.out]; have hw' := hw; have Xx16 := Lib.hid (Xx15.out.below hw' Xx15.out.lt); obtain ⟨ax160, ax161, ax162, ax163, ax164, ax165, ax166⟩ := Xx16.out.cells; have Xy16 := Lib.hid (Xy15.out.below hw' Xy15.out.lt); obtain ⟨ay160, ay161, ay162, ay163, ay164, ay165, ay166⟩ := Xy16.out.cells; have Xz16 := Lib.hid (Xz15.out.below hw' Xz15.out.lt); obtain ⟨az160, az161, az162, az163, az164, az165, az166⟩ := Xz16.out.cells; have B16 := Lib.hid (B15.out.trans (hw'.mono B15.out.size)); clear hw hw' B15)
          | (go_at_call 15; refine (awake5_any _ ?_ ?_).mono ?_; exact (show MT w16 from HT.out.below B16.out); exact (show Tab w16 from HP.out.below B16.out); rintro e w17 ⟨rfl, hw⟩; have hw' := hw; have Xx17 := Lib.hid (Xx16.out.below hw' Xx16.out.lt); obtain ⟨ax170, ax171, ax172, ax173, ax174, ax175, ax176⟩ := Xx17.out.cells; have Xy17 := Lib.hid (Xy16.out.below hw' Xy16.out.lt); obtain ⟨ay170, ay171, ay172, ay173, ay174, ay175, ay176⟩ := Xy17.out.cells; have Xz17 := Lib.hid (Xz16.out.below hw' Xz16.out.lt); obtain ⟨az170, az171, az172, az173, az174, az175, az176⟩ := Xz17.out.cells; have B17 := Lib.hid (B16.out.trans (hw'.mono B16.out.size)); clear hw hw' B16))
    go_wp2_with fail
    go_ret
    exact ⟨rfl, B17.out⟩
theorem order_law (a b c : Int) (w : World) (ht : MT w) (hp : Tab w) :
    Calls Tryd.prog 9 #[.int .i64 a, .int .i64 b, .int .i64 c] w fun e w' => e = .returned (.bool true) ∧ Below w.heap.size w w' := by
  cases ha : inS a
  · exact order_out a b c w ht hp (.inl ha)
  · cases hb : inS b
    · exact order_out a b c w ht hp (.inr hb)
    · exact order_in a b c w ht hp ha hb
end Go.Proofs.YtnhaflnlhcabpaaDoor
