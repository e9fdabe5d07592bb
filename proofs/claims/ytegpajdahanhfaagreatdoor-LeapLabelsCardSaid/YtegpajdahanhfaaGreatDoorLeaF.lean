/- Contracts of layer 6: the program's sameMonth, Indicator, Next. -/
import Derived.Test.YtegpajdahanhfaaGreatDoorLeaE
namespace Go.Proofs.YtegpajdahanhfaaGreatDoor
open Go.RowKit Fx Cv Lp

/-- Do both seconds lie in the same month? -/
def Lp.smo (a b : Int) : Bool := inS a && (inS b && (decide (oY a = oY b) && decide (oM a = oM b)))
/-- What Of returns, of any second. -/
theorem of_some (t : Int) : ∃ y m d hh mi s E : Int, (∀ u : World, MT u → Calls Tryz.prog 26 #[.int .i64 t] u fun e w' => e = .returned (.tuple #[.agg #[.int .i64 y, .int .i64 m, .int .i64 d, .int .i64 hh, .int .i64 mi, .int .i64 s, .int .i64 0], .int .i64 E]) ∧ Below u.heap.size u w') ∧
    (inS t = true → y = oY t ∧ m = oM t ∧ E = 0) ∧ (inS t = false → E = 3) := by
  cases h : inS t
  · exact ⟨0, 0, 0, 0, 0, 0, 3, fun u _ => pof_no t u h, fun h2 => (by cases h2), fun _ => rfl⟩
  · exact ⟨_, _, _, _, _, _, 0, fun u hu => pof_ok t u hu h, fun _ => ⟨rfl, rfl, rfl⟩, fun h2 => (by cases h2)⟩
set_option maxRecDepth 100000 in
set_option maxHeartbeats 1000000 in
theorem samemonth_any (a b : Int) (w : World) (ht : MT w) :
    Calls Tryz.prog 46 #[.int .i64 a, .int .i64 b] w fun e w' => e = .returned (.bool (smo a b)) ∧ Below w.heap.size w w' := by
  have HT := Lib.hid ht
  have BB0 := Lib.hid (Below.refl w.heap.size w)
  obtain ⟨y, m, d, hh, mi, s, E, h1, h2, h3⟩ := of_some a
  obtain ⟨y', m', d', hh', mi', s', E', k1, k2, k3⟩ := of_some b
  have H1 := Lib.hid h1
  have K1 := Lib.hid k1
  have H2 := Lib.hid h2
  have H3 := Lib.hid h3
  have K2 := Lib.hid k2
  have K3 := Lib.hid k3
  clear ht h1 h2 h3 k1 k2 k3
  cases ha : inS a
  · have hE := H3.out ha
    subst hE
    have HA := Lib.hid ha
    clear ha
    have HV : Hid (smo a b = false) := Lib.hid (by unfold smo; rw [HA.out]; rfl)
    go_enter Tryz.func46, Tryz.ntmps46
    go_wp2_with fail
    refine (H1.out _ (HT.out.below BB0.out)).mono ?_
    rintro e w1 ⟨rfl, hb⟩
    have B1 := Lib.hid (BB0.out.trans (hb.mono BB0.out.size))
    have hz1 := hb.size
    clear hb BB0
    have Yx2 := Lib.hid (bx7_new w1 0 0 0 0 0 0 0)
    have D2 := Lib.hid (B1.out.alloc B1.out.size (.cells #[.int .i64 0, .int .i64 0, .int .i64 0, .int .i64 0, .int .i64 0, .int .i64 0, .int .i64 0] 48))
    have hs2 := B1.out.size
    have r2_0 := Yx2.out.cells.1
    have g2_0 := Yx2.out.thaw.1
    have Nx2_0 := Lib.hid (Yx2.out.set0 y)
    have E2_0 := Lib.hid (below_set (C := w1.heap.size) (i := 0) D2.out (by omega) (.int .i64 y))
    obtain ⟨S2_0, hS2_0⟩ : ∃ W, (w1.alloc (.cells #[.int .i64 0, .int .i64 0, .int .i64 0, .int .i64 0, .int .i64 0, .int .i64 0, .int .i64 0] 48)).setCell ⟨w1.heap.size, 0, none⟩ (.int .i64 y) = W := ⟨_, rfl⟩
    rw [hS2_0] at Nx2_0 E2_0
    clear Yx2 D2
    have r2_1 := Nx2_0.out.cells.2.1
    have g2_1 := Nx2_0.out.thaw.2.1
    have Nx2_1 := Lib.hid (Nx2_0.out.set1 m)
    have E2_1 := Lib.hid (below_set (C := w1.heap.size) (i := 1) E2_0.out (by omega) (.int .i64 m))
    obtain ⟨S2_1, hS2_1⟩ : ∃ W, S2_0.setCell ⟨w1.heap.size, 1, none⟩ (.int .i64 m) = W := ⟨_, rfl⟩
    rw [hS2_1] at Nx2_1 E2_1
    clear Nx2_0 E2_0
    have r2_2 := Nx2_1.out.cells.2.2.1
    have g2_2 := Nx2_1.out.thaw.2.2.1
    have Nx2_2 := Lib.hid (Nx2_1.out.set2 d)
    have E2_2 := Lib.hid (below_set (C := w1.heap.size) (i := 2) E2_1.out (by omega) (.int .i64 d))
    obtain ⟨S2_2, hS2_2⟩ : ∃ W, S2_1.setCell ⟨w1.heap.size, 2, none⟩ (.int .i64 d) = W := ⟨_, rfl⟩
    rw [hS2_2] at Nx2_2 E2_2
    clear Nx2_1 E2_1
    have r2_3 := Nx2_2.out.cells.2.2.2.1
    have g2_3 := Nx2_2.out.thaw.2.2.2.1
    have Nx2_3 := Lib.hid (Nx2_2.out.set3 hh)
    have E2_3 := Lib.hid (below_set (C := w1.heap.size) (i := 3) E2_2.out (by omega) (.int .i64 hh))
    obtain ⟨S2_3, hS2_3⟩ : ∃ W, S2_2.setCell ⟨w1.heap.size, 3, none⟩ (.int .i64 hh) = W := ⟨_, rfl⟩
    rw [hS2_3] at Nx2_3 E2_3
    clear Nx2_2 E2_2
    have r2_4 := Nx2_3.out.cells.2.2.2.2.1
    have g2_4 := Nx2_3.out.thaw.2.2.2.2.1
    have Nx2_4 := Lib.hid (Nx2_3.out.set4 mi)
    have E2_4 := Lib.hid (below_set (C := w1.heap.size) (i := 4) E2_3.out (by omega) (.int .i64 mi))
    obtain ⟨S2_4, hS2_4⟩ : ∃ W, S2_3.setCell ⟨w1.heap.size, 4, none⟩ (.int .i64 mi) = W := ⟨_, rfl⟩
    rw [hS2_4] at Nx2_4 E2_4
    clear Nx2_3 E2_3
    have r2_5 := Nx2_4.out.cells.2.2.2.2.2.1
    have g2_5 := Nx2_4.out.thaw.2.2.2.2.2.1
    have Nx2_5 := Lib.hid (Nx2_4.out.set5 s)
    have E2_5 := Lib.hid (below_set (C := w1.heap.size) (i := 5) E2_4.out (by omega) (.int .i64 s))
    obtain ⟨S2_5, hS2_5⟩ : ∃ W, S2_4.setCell ⟨w1.heap.size, 5, none⟩ (.int .i64 s) = W := ⟨_, rfl⟩
    rw [hS2_5] at Nx2_5 E2_5
    clear Nx2_4 E2_4
    have r2_6 := Nx2_5.out.cells.2.2.2.2.2.2
    have g2_6 := Nx2_5.out.thaw.2.2.2.2.2.2
    have Nx2_6 := Lib.hid (Nx2_5.out.set6 0)
    have E2_6 := Lib.hid (below_set (C := w1.heap.size) (i := 6) E2_5.out (by omega) (.int .i64 0))
    obtain ⟨S2_6, hS2_6⟩ : ∃ W, S2_5.setCell ⟨w1.heap.size, 6, none⟩ (.int .i64 0) = W := ⟨_, rfl⟩
    rw [hS2_6] at Nx2_6 E2_6
    clear Nx2_5 E2_5
    clear B1
    go_wp2_with fail
    clear hs2 r2_0 g2_0 hS2_0 r2_1 g2_1 hS2_1 r2_2 g2_2 hS2_2 r2_3 g2_3 hS2_3 r2_4 g2_4 hS2_4 r2_5 g2_5 hS2_5 r2_6 g2_6 hS2_6
    refine (K1.out _ (HT.out.below E2_6.out)).mono ?_
    rintro e w3 ⟨rfl, hb⟩
    have Xx3 := Lib.hid (Nx2_6.out.below hb Nx2_6.out.lt)
    have B3 := Lib.hid (E2_6.out.trans (hb.mono E2_6.out.size))
    have hz3 := hb.size
    clear hb Nx2_6 E2_6
    have Yy4 := Lib.hid (bx7_new w3 0 0 0 0 0 0 0)
    have lx4 := Xx3.out.lt
    have Yx4 := Lib.hid (Xx3.out.alloc (.cells #[.int .i64 0, .int .i64 0, .int .i64 0, .int .i64 0, .int .i64 0, .int .i64 0, .int .i64 0] 48))
    have D4 := Lib.hid (B3.out.alloc B3.out.size (.cells #[.int .i64 0, .int .i64 0, .int .i64 0, .int .i64 0, .int .i64 0, .int .i64 0, .int .i64 0] 48))
    have hs4 := B3.out.size
    have r4_0 := Yy4.out.cells.1
    have g4_0 := Yy4.out.thaw.1
    have Ny4_0 := Lib.hid (Yy4.out.set0 y')
    have Nx4_0 := Lib.hid (Yx4.out.other (C := w3.heap.size) (i := 0) (by omega) (.int .i64 y'))
    have E4_0 := Lib.hid (below_set (C := w3.heap.size) (i := 0) D4.out (by omega) (.int .i64 y'))
    obtain ⟨S4_0, hS4_0⟩ : ∃ W, (w3.alloc (.cells #[.int .i64 0, .int .i64 0, .int .i64 0, .int .i64 0, .int .i64 0, .int .i64 0, .int .i64 0] 48)).setCell ⟨w3.heap.size, 0, none⟩ (.int .i64 y') = W := ⟨_, rfl⟩
    rw [hS4_0] at Ny4_0 Nx4_0 E4_0
    clear Yy4 Yx4 D4
    have r4_1 := Ny4_0.out.cells.2.1
    have g4_1 := Ny4_0.out.thaw.2.1
    have Ny4_1 := Lib.hid (Ny4_0.out.set1 m')
    have Nx4_1 := Lib.hid (Nx4_0.out.other (C := w3.heap.size) (i := 1) (by omega) (.int .i64 m'))
    have E4_1 := Lib.hid (below_set (C := w3.heap.size) (i := 1) E4_0.out (by omega) (.int .i64 m'))
    obtain ⟨S4_1, hS4_1⟩ : ∃ W, S4_0.setCell ⟨w3.heap.size, 1, none⟩ (.int .i64 m') = W := ⟨_, rfl⟩
    rw [hS4_1] at Ny4_1 Nx4_1 E4_1
    clear Ny4_0 Nx4_0 E4_0
    have r4_2 := Ny4_1.out.cells.2.2.1
    have g4_2 := Ny4_1.out.thaw.2.2.1
    have Ny4_2 := Lib.hid (Ny4_1.out.set2 d')
    have Nx4_2 := Lib.hid (Nx4_1.out.other (C := w3.heap.size) (i := 2) (by omega) (.int .i64 d'))
    have E4_2 := Lib.hid (below_set (C := w3.heap.size) (i := 2) E4_1.out (by omega) (.int .i64 d'))
    obtain ⟨S4_2, hS4_2⟩ : ∃ W, S4_1.setCell ⟨w3.heap.size, 2, none⟩ (.int .i64 d') = W := ⟨_, rfl⟩
    rw [hS4_2] at Ny4_2 Nx4_2 E4_2
    clear Ny4_1 Nx4_1 E4_1
    have r4_3 := Ny4_2.out.cells.2.2.2.1
    have g4_3 := Ny4_2.out.thaw.2.2.2.1
    have Ny4_3 := Lib.hid (Ny4_2.out.set3 hh')
    have Nx4_3 := Lib.hid (Nx4_2.out.other (C := w3.heap.size) (i := 3) (by omega) (.int .i64 hh'))
    have E4_3 := Lib.hid (below_set (C := w3.heap.size) (i := 3) E4_2.out (by omega) (.int .i64 hh'))
    obtain ⟨S4_3, hS4_3⟩ : ∃ W, S4_2.setCell ⟨w3.heap.size, 3, none⟩ (.int .i64 hh') = W := ⟨_, rfl⟩
    rw [hS4_3] at Ny4_3 Nx4_3 E4_3
    clear Ny4_2 Nx4_2 E4_2
    have r4_4 := Ny4_3.out.cells.2.2.2.2.1
    have g4_4 := Ny4_3.out.thaw.2.2.2.2.1
    have Ny4_4 := Lib.hid (Ny4_3.out.set4 mi')
    have Nx4_4 := Lib.hid (Nx4_3.out.other (C := w3.heap.size) (i := 4) (by omega) (.int .i64 mi'))
    have E4_4 := Lib.hid (below_set (C := w3.heap.size) (i := 4) E4_3.out (by omega) (.int .i64 mi'))
    obtain ⟨S4_4, hS4_4⟩ : ∃ W, S4_3.setCell ⟨w3.heap.size, 4, none⟩ (.int .i64 mi') = W := ⟨_, rfl⟩
    rw [hS4_4] at Ny4_4 Nx4_4 E4_4
    clear Ny4_3 Nx4_3 E4_3
    have r4_5 := Ny4_4.out.cells.2.2.2.2.2.1
    have g4_5 := Ny4_4.out.thaw.2.2.2.2.2.1
    have Ny4_5 := Lib.hid (Ny4_4.out.set5 s')
    have Nx4_5 := Lib.hid (Nx4_4.out.other (C := w3.heap.size) (i := 5) (by omega) (.int .i64 s'))
    have E4_5 := Lib.hid (below_set (C := w3.heap.size) (i := 5) E4_4.out (by omega) (.int .i64 s'))
    obtain ⟨S4_5, hS4_5⟩ : ∃ W, S4_4.setCell ⟨w3.heap.size, 5, none⟩ (.int .i64 s') = W := ⟨_, rfl⟩
    rw [hS4_5] at Ny4_5 Nx4_5 E4_5
    clear Ny4_4 Nx4_4 E4_4
    have r4_6 := Ny4_5.out.cells.2.2.2.2.2.2
    have g4_6 := Ny4_5.out.thaw.2.2.2.2.2.2
    have Ny4_6 := Lib.hid (Ny4_5.out.set6 0)
    have Nx4_6 := Lib.hid (Nx4_5.out.other (C := w3.heap.size) (i := 6) (by omega) (.int .i64 0))
    have E4_6 := Lib.hid (below_set (C := w3.heap.size) (i := 6) E4_5.out (by omega) (.int .i64 0))
    obtain ⟨S4_6, hS4_6⟩ : ∃ W, S4_5.setCell ⟨w3.heap.size, 6, none⟩ (.int .i64 0) = W := ⟨_, rfl⟩
    rw [hS4_6] at Ny4_6 Nx4_6 E4_6
    clear Ny4_5 Nx4_5 E4_5
    clear Xx3 B3
    obtain ⟨c5_0, c5_1, c5_2, c5_3, c5_4, c5_5, c5_6⟩ := Nx4_6.out.cells
    obtain ⟨c6_0, c6_1, c6_2, c6_3, c6_4, c6_5, c6_6⟩ := Ny4_6.out.cells
    go_wp2_with fail
    clear hs4 r4_0 g4_0 hS4_0 r4_1 g4_1 hS4_1 r4_2 g4_2 hS4_2 r4_3 g4_3 hS4_3 r4_4 g4_4 hS4_4 r4_5 g4_5 hS4_5 r4_6 g4_6 hS4_6 c5_0 c5_1 c5_2 c5_3 c5_4 c5_5 c5_6 c6_0 c6_1 c6_2 c6_3 c6_4 c6_5 c6_6
    go_ret
    exact ⟨by rw [HV.out]; rfl, E4_6.out⟩
  cases hb : inS b
  · have hE := K3.out hb
    subst hE
    have hE := (H2.out ha).2.2
    subst hE
    have HA := Lib.hid ha
    have HB := Lib.hid hb
    clear ha hb
    have HV : Hid (smo a b = false) := Lib.hid (by unfold smo; rw [HA.out, HB.out]; rfl)
    go_enter Tryz.func46, Tryz.ntmps46
    go_wp2_with fail
    refine (H1.out _ (HT.out.below BB0.out)).mono ?_
    rintro e w1 ⟨rfl, hb⟩
    have B1 := Lib.hid (BB0.out.trans (hb.mono BB0.out.size))
    have hz1 := hb.size
    clear hb BB0
    have Yx2 := Lib.hid (bx7_new w1 0 0 0 0 0 0 0)
    have D2 := Lib.hid (B1.out.alloc B1.out.size (.cells #[.int .i64 0, .int .i64 0, .int .i64 0, .int .i64 0, .int .i64 0, .int .i64 0, .int .i64 0] 48))
    have hs2 := B1.out.size
    have r2_0 := Yx2.out.cells.1
    have g2_0 := Yx2.out.thaw.1
    have Nx2_0 := Lib.hid (Yx2.out.set0 y)
    have E2_0 := Lib.hid (below_set (C := w1.heap.size) (i := 0) D2.out (by omega) (.int .i64 y))
    obtain ⟨S2_0, hS2_0⟩ : ∃ W, (w1.alloc (.cells #[.int .i64 0, .int .i64 0, .int .i64 0, .int .i64 0, .int .i64 0, .int .i64 0, .int .i64 0] 48)).setCell ⟨w1.heap.size, 0, none⟩ (.int .i64 y) = W := ⟨_, rfl⟩
    rw [hS2_0] at Nx2_0 E2_0
    clear Yx2 D2
    have r2_1 := Nx2_0.out.cells.2.1
    have g2_1 := Nx2_0.out.thaw.2.1
    have Nx2_1 := Lib.hid (Nx2_0.out.set1 m)
    have E2_1 := Lib.hid (below_set (C := w1.heap.size) (i := 1) E2_0.out (by omega) (.int .i64 m))
    obtain ⟨S2_1, hS2_1⟩ : ∃ W, S2_0.setCell ⟨w1.heap.size, 1, none⟩ (.int .i64 m) = W := ⟨_, rfl⟩
    rw [hS2_1] at Nx2_1 E2_1
    clear Nx2_0 E2_0
    have r2_2 := Nx2_1.out.cells.2.2.1
    have g2_2 := Nx2_1.out.thaw.2.2.1
    have Nx2_2 := Lib.hid (Nx2_1.out.set2 d)
    have E2_2 := Lib.hid (below_set (C := w1.heap.size) (i := 2) E2_1.out (by omega) (.int .i64 d))
    obtain ⟨S2_2, hS2_2⟩ : ∃ W, S2_1.setCell ⟨w1.heap.size, 2, none⟩ (.int .i64 d) = W := ⟨_, rfl⟩
    rw [hS2_2] at Nx2_2 E2_2
    clear Nx2_1 E2_1
    have r2_3 := Nx2_2.out.cells.2.2.2.1
    have g2_3 := Nx2_2.out.thaw.2.2.2.1
    have Nx2_3 := Lib.hid (Nx2_2.out.set3 hh)
    have E2_3 := Lib.hid (below_set (C := w1.heap.size) (i := 3) E2_2.out (by omega) (.int .i64 hh))
    obtain ⟨S2_3, hS2_3⟩ : ∃ W, S2_2.setCell ⟨w1.heap.size, 3, none⟩ (.int .i64 hh) = W := ⟨_, rfl⟩
    rw [hS2_3] at Nx2_3 E2_3
    clear Nx2_2 E2_2
    have r2_4 := Nx2_3.out.cells.2.2.2.2.1
    have g2_4 := Nx2_3.out.thaw.2.2.2.2.1
    have Nx2_4 := Lib.hid (Nx2_3.out.set4 mi)
    have E2_4 := Lib.hid (below_set (C := w1.heap.size) (i := 4) E2_3.out (by omega) (.int .i64 mi))
    obtain ⟨S2_4, hS2_4⟩ : ∃ W, S2_3.setCell ⟨w1.heap.size, 4, none⟩ (.int .i64 mi) = W := ⟨_, rfl⟩
    rw [hS2_4] at Nx2_4 E2_4
    clear Nx2_3 E2_3
    have r2_5 := Nx2_4.out.cells.2.2.2.2.2.1
    have g2_5 := Nx2_4.out.thaw.2.2.2.2.2.1
    have Nx2_5 := Lib.hid (Nx2_4.out.set5 s)
    have E2_5 := Lib.hid (below_set (C := w1.heap.size) (i := 5) E2_4.out (by omega) (.int .i64 s))
    obtain ⟨S2_5, hS2_5⟩ : ∃ W, S2_4.setCell ⟨w1.heap.size, 5, none⟩ (.int .i64 s) = W := ⟨_, rfl⟩
    rw [hS2_5] at Nx2_5 E2_5
    clear Nx2_4 E2_4
    have r2_6 := Nx2_5.out.cells.2.2.2.2.2.2
    have g2_6 := Nx2_5.out.thaw.2.2.2.2.2.2
    have Nx2_6 := Lib.hid (Nx2_5.out.set6 0)
    have E2_6 := Lib.hid (below_set (C := w1.heap.size) (i := 6) E2_5.out (by omega) (.int .i64 0))
    obtain ⟨S2_6, hS2_6⟩ : ∃ W, S2_5.setCell ⟨w1.heap.size, 6, none⟩ (.int .i64 0) = W := ⟨_, rfl⟩
    rw [hS2_6] at Nx2_6 E2_6
    clear Nx2_5 E2_5
    clear B1
    go_wp2_with fail
    clear hs2 r2_0 g2_0 hS2_0 r2_1 g2_1 hS2_1 r2_2 g2_2 hS2_2 r2_3 g2_3 hS2_3 r2_4 g2_4 hS2_4 r2_5 g2_5 hS2_5 r2_6 g2_6 hS2_6
    refine (K1.out _ (HT.out.below E2_6.out)).mono ?_
    rintro e w3 ⟨rfl, hb⟩
    have Xx3 := Lib.hid (Nx2_6.out.below hb Nx2_6.out.lt)
    have B3 := Lib.hid (E2_6.out.trans (hb.mono E2_6.out.size))
    have hz3 := hb.size
    clear hb Nx2_6 E2_6
    have Yy4 := Lib.hid (bx7_new w3 0 0 0 0 0 0 0)
    have lx4 := Xx3.out.lt
    have Yx4 := Lib.hid (Xx3.out.alloc (.cells #[.int .i64 0, .int .i64 0, .int .i64 0, .int .i64 0, .int .i64 0, .int .i64 0, .int .i64 0] 48))
    have D4 := Lib.hid (B3.out.alloc B3.out.size (.cells #[.int .i64 0, .int .i64 0, .int .i64 0, .int .i64 0, .int .i64 0, .int .i64 0, .int .i64 0] 48))
    have hs4 := B3.out.size
    have r4_0 := Yy4.out.cells.1
    have g4_0 := Yy4.out.thaw.1
    have Ny4_0 := Lib.hid (Yy4.out.set0 y')
    have Nx4_0 := Lib.hid (Yx4.out.other (C := w3.heap.size) (i := 0) (by omega) (.int .i64 y'))
    have E4_0 := Lib.hid (below_set (C := w3.heap.size) (i := 0) D4.out (by omega) (.int .i64 y'))
    obtain ⟨S4_0, hS4_0⟩ : ∃ W, (w3.alloc (.cells #[.int .i64 0, .int .i64 0, .int .i64 0, .int .i64 0, .int .i64 0, .int .i64 0, .int .i64 0] 48)).setCell ⟨w3.heap.size, 0, none⟩ (.int .i64 y') = W := ⟨_, rfl⟩
    rw [hS4_0] at Ny4_0 Nx4_0 E4_0
    clear Yy4 Yx4 D4
    have r4_1 := Ny4_0.out.cells.2.1
    have g4_1 := Ny4_0.out.thaw.2.1
    have Ny4_1 := Lib.hid (Ny4_0.out.set1 m')
    have Nx4_1 := Lib.hid (Nx4_0.out.other (C := w3.heap.size) (i := 1) (by omega) (.int .i64 m'))
    have E4_1 := Lib.hid (below_set (C := w3.heap.size) (i := 1) E4_0.out (by omega) (.int .i64 m'))
    obtain ⟨S4_1, hS4_1⟩ : ∃ W, S4_0.setCell ⟨w3.heap.size, 1, none⟩ (.int .i64 m') = W := ⟨_, rfl⟩
    rw [hS4_1] at Ny4_1 Nx4_1 E4_1
    clear Ny4_0 Nx4_0 E4_0
    have r4_2 := Ny4_1.out.cells.2.2.1
    have g4_2 := Ny4_1.out.thaw.2.2.1
    have Ny4_2 := Lib.hid (Ny4_1.out.set2 d')
    have Nx4_2 := Lib.hid (Nx4_1.out.other (C := w3.heap.size) (i := 2) (by omega) (.int .i64 d'))
    have E4_2 := Lib.hid (below_set (C := w3.heap.size) (i := 2) E4_1.out (by omega) (.int .i64 d'))
    obtain ⟨S4_2, hS4_2⟩ : ∃ W, S4_1.setCell ⟨w3.heap.size, 2, none⟩ (.int .i64 d') = W := ⟨_, rfl⟩
    rw [hS4_2] at Ny4_2 Nx4_2 E4_2
    clear Ny4_1 Nx4_1 E4_1
    have r4_3 := Ny4_2.out.cells.2.2.2.1
    have g4_3 := Ny4_2.out.thaw.2.2.2.1
    have Ny4_3 := Lib.hid (Ny4_2.out.set3 hh')
    have Nx4_3 := Lib.hid (Nx4_2.out.other (C := w3.heap.size) (i := 3) (by omega) (.int .i64 hh'))
    have E4_3 := Lib.hid (below_set (C := w3.heap.size) (i := 3) E4_2.out (by omega) (.int .i64 hh'))
    obtain ⟨S4_3, hS4_3⟩ : ∃ W, S4_2.setCell ⟨w3.heap.size, 3, none⟩ (.int .i64 hh') = W := ⟨_, rfl⟩
    rw [hS4_3] at Ny4_3 Nx4_3 E4_3
    clear Ny4_2 Nx4_2 E4_2
    have r4_4 := Ny4_3.out.cells.2.2.2.2.1
    have g4_4 := Ny4_3.out.thaw.2.2.2.2.1
    have Ny4_4 := Lib.hid (Ny4_3.out.set4 mi')
    have Nx4_4 := Lib.hid (Nx4_3.out.other (C := w3.heap.size) (i := 4) (by omega) (.int .i64 mi'))
    have E4_4 := Lib.hid (below_set (C := w3.heap.size) (i := 4) E4_3.out (by omega) (.int .i64 mi'))
    obtain ⟨S4_4, hS4_4⟩ : ∃ W, S4_3.setCell ⟨w3.heap.size, 4, none⟩ (.int .i64 mi') = W := ⟨_, rfl⟩
    rw [hS4_4] at Ny4_4 Nx4_4 E4_4
    clear Ny4_3 Nx4_3 E4_3
    have r4_5 := Ny4_4.out.cells.2.2.2.2.2.1
    have g4_5 := Ny4_4.out.thaw.2.2.2.2.2.1
    have Ny4_5 := Lib.hid (Ny4_4.out.set5 s')
    have Nx4_5 := Lib.hid (Nx4_4.out.other (C := w3.heap.size) (i := 5) (by omega) (.int .i64 s'))
    have E4_5 := Lib.hid (below_set (C := w3.heap.size) (i := 5) E4_4.out (by omega) (.int .i64 s'))
    obtain ⟨S4_5, hS4_5⟩ : ∃ W, S4_4.setCell ⟨w3.heap.size, 5, none⟩ (.int .i64 s') = W := ⟨_, rfl⟩
    rw [hS4_5] at Ny4_5 Nx4_5 E4_5
    clear Ny4_4 Nx4_4 E4_4
    have r4_6 := Ny4_5.out.cells.2.2.2.2.2.2
    have g4_6 := Ny4_5.out.thaw.2.2.2.2.2.2
    have Ny4_6 := Lib.hid (Ny4_5.out.set6 0)
    have Nx4_6 := Lib.hid (Nx4_5.out.other (C := w3.heap.size) (i := 6) (by omega) (.int .i64 0))
    have E4_6 := Lib.hid (below_set (C := w3.heap.size) (i := 6) E4_5.out (by omega) (.int .i64 0))
    obtain ⟨S4_6, hS4_6⟩ : ∃ W, S4_5.setCell ⟨w3.heap.size, 6, none⟩ (.int .i64 0) = W := ⟨_, rfl⟩
    rw [hS4_6] at Ny4_6 Nx4_6 E4_6
    clear Ny4_5 Nx4_5 E4_5
    clear Xx3 B3
    obtain ⟨c5_0, c5_1, c5_2, c5_3, c5_4, c5_5, c5_6⟩ := Nx4_6.out.cells
    obtain ⟨c6_0, c6_1, c6_2, c6_3, c6_4, c6_5, c6_6⟩ := Ny4_6.out.cells
    go_wp2_with fail
    clear hs4 r4_0 g4_0 hS4_0 r4_1 g4_1 hS4_1 r4_2 g4_2 hS4_2 r4_3 g4_3 hS4_3 r4_4 g4_4 hS4_4 r4_5 g4_5 hS4_5 r4_6 g4_6 hS4_6 c5_0 c5_1 c5_2 c5_3 c5_4 c5_5 c5_6 c6_0 c6_1 c6_2 c6_3 c6_4 c6_5 c6_6
    go_ret
    exact ⟨by rw [HV.out]; rfl, E4_6.out⟩
  obtain ⟨e1, e2, e3⟩ := H2.out ha
  obtain ⟨f1, f2, f3⟩ := K2.out hb
  subst e3 f3
  have HA := Lib.hid ha
  have HB := Lib.hid hb
  have E1 := Lib.hid e1
  have E2 := Lib.hid e2
  have F1 := Lib.hid f1
  have F2 := Lib.hid f2
  clear ha hb e1 e2 f1 f2
  by_cases hy : y = y'
  case neg =>
    have g1 : decide (y = y') = false := decide_eq_false hy
    have g2 : (y == y') = false := by simpa using hy
    have g3 : (y != y') = true := by simp [bne, g2]
    have HY := Lib.hid hy
    have HV : Hid (smo a b = false) := Lib.hid (by unfold smo; rw [← E1.out, ← F1.out, decide_eq_false HY.out]; simp)
    go_enter Tryz.func46, Tryz.ntmps46
    go_wp2_with fail
    refine (H1.out _ (HT.out.below BB0.out)).mono ?_
    rintro e w1 ⟨rfl, hb⟩
    have B1 := Lib.hid (BB0.out.trans (hb.mono BB0.out.size))
    have hz1 := hb.size
    clear hb BB0
    have Yx2 := Lib.hid (bx7_new w1 0 0 0 0 0 0 0)
    have D2 := Lib.hid (B1.out.alloc B1.out.size (.cells #[.int .i64 0, .int .i64 0, .int .i64 0, .int .i64 0, .int .i64 0, .int .i64 0, .int .i64 0] 48))
    have hs2 := B1.out.size
    have r2_0 := Yx2.out.cells.1
    have g2_0 := Yx2.out.thaw.1
    have Nx2_0 := Lib.hid (Yx2.out.set0 y)
    have E2_0 := Lib.hid (below_set (C := w1.heap.size) (i := 0) D2.out (by omega) (.int .i64 y))
    obtain ⟨S2_0, hS2_0⟩ : ∃ W, (w1.alloc (.cells #[.int .i64 0, .int .i64 0, .int .i64 0, .int .i64 0, .int .i64 0, .int .i64 0, .int .i64 0] 48)).setCell ⟨w1.heap.size, 0, none⟩ (.int .i64 y) = W := ⟨_, rfl⟩
    rw [hS2_0] at Nx2_0 E2_0
    clear Yx2 D2
    have r2_1 := Nx2_0.out.cells.2.1
    have g2_1 := Nx2_0.out.thaw.2.1
    have Nx2_1 := Lib.hid (Nx2_0.out.set1 m)
    have E2_1 := Lib.hid (below_set (C := w1.heap.size) (i := 1) E2_0.out (by omega) (.int .i64 m))
    obtain ⟨S2_1, hS2_1⟩ : ∃ W, S2_0.setCell ⟨w1.heap.size, 1, none⟩ (.int .i64 m) = W := ⟨_, rfl⟩
    rw [hS2_1] at Nx2_1 E2_1
    clear Nx2_0 E2_0
    have r2_2 := Nx2_1.out.cells.2.2.1
    have g2_2 := Nx2_1.out.thaw.2.2.1
    have Nx2_2 := Lib.hid (Nx2_1.out.set2 d)
    have E2_2 := Lib.hid (below_set (C := w1.heap.size) (i := 2) E2_1.out (by omega) (.int .i64 d))
    obtain ⟨S2_2, hS2_2⟩ : ∃ W, S2_1.setCell ⟨w1.heap.size, 2, none⟩ (.int .i64 d) = W := ⟨_, rfl⟩
    rw [hS2_2] at Nx2_2 E2_2
    clear Nx2_1 E2_1
    have r2_3 := Nx2_2.out.cells.2.2.2.1
    have g2_3 := Nx2_2.out.thaw.2.2.2.1
    have Nx2_3 := Lib.hid (Nx2_2.out.set3 hh)
    have E2_3 := Lib.hid (below_set (C := w1.heap.size) (i := 3) E2_2.out (by omega) (.int .i64 hh))
    obtain ⟨S2_3, hS2_3⟩ : ∃ W, S2_2.setCell ⟨w1.heap.size, 3, none⟩ (.int .i64 hh) = W := ⟨_, rfl⟩
    rw [hS2_3] at Nx2_3 E2_3
    clear Nx2_2 E2_2
    have r2_4 := Nx2_3.out.cells.2.2.2.2.1
    have g2_4 := Nx2_3.out.thaw.2.2.2.2.1
    have Nx2_4 := Lib.hid (Nx2_3.out.set4 mi)
    have E2_4 := Lib.hid (below_set (C := w1.heap.size) (i := 4) E2_3.out (by omega) (.int .i64 mi))
    obtain ⟨S2_4, hS2_4⟩ : ∃ W, S2_3.setCell ⟨w1.heap.size, 4, none⟩ (.int .i64 mi) = W := ⟨_, rfl⟩
    rw [hS2_4] at Nx2_4 E2_4
    clear Nx2_3 E2_3
    have r2_5 := Nx2_4.out.cells.2.2.2.2.2.1
    have g2_5 := Nx2_4.out.thaw.2.2.2.2.2.1
    have Nx2_5 := Lib.hid (Nx2_4.out.set5 s)
    have E2_5 := Lib.hid (below_set (C := w1.heap.size) (i := 5) E2_4.out (by omega) (.int .i64 s))
    obtain ⟨S2_5, hS2_5⟩ : ∃ W, S2_4.setCell ⟨w1.heap.size, 5, none⟩ (.int .i64 s) = W := ⟨_, rfl⟩
    rw [hS2_5] at Nx2_5 E2_5
    clear Nx2_4 E2_4
    have r2_6 := Nx2_5.out.cells.2.2.2.2.2.2
    have g2_6 := Nx2_5.out.thaw.2.2.2.2.2.2
    have Nx2_6 := Lib.hid (Nx2_5.out.set6 0)
    have E2_6 := Lib.hid (below_set (C := w1.heap.size) (i := 6) E2_5.out (by omega) (.int .i64 0))
    obtain ⟨S2_6, hS2_6⟩ : ∃ W, S2_5.setCell ⟨w1.heap.size, 6, none⟩ (.int .i64 0) = W := ⟨_, rfl⟩
    rw [hS2_6] at Nx2_6 E2_6
    clear Nx2_5 E2_5
    clear B1
    go_wp2_with fail
    clear hs2 r2_0 g2_0 hS2_0 r2_1 g2_1 hS2_1 r2_2 g2_2 hS2_2 r2_3 g2_3 hS2_3 r2_4 g2_4 hS2_4 r2_5 g2_5 hS2_5 r2_6 g2_6 hS2_6
    refine (K1.out _ (HT.out.below E2_6.out)).mono ?_
    rintro e w3 ⟨rfl, hb⟩
    have Xx3 := Lib.hid (Nx2_6.out.below hb Nx2_6.out.lt)
    have B3 := Lib.hid (E2_6.out.trans (hb.mono E2_6.out.size))
    have hz3 := hb.size
    clear hb Nx2_6 E2_6
    have Yy4 := Lib.hid (bx7_new w3 0 0 0 0 0 0 0)
    have lx4 := Xx3.out.lt
    have Yx4 := Lib.hid (Xx3.out.alloc (.cells #[.int .i64 0, .int .i64 0, .int .i64 0, .int .i64 0, .int .i64 0, .int .i64 0, .int .i64 0] 48))
    have D4 := Lib.hid (B3.out.alloc B3.out.size (.cells #[.int .i64 0, .int .i64 0, .int .i64 0, .int .i64 0, .int .i64 0, .int .i64 0, .int .i64 0] 48))
    have hs4 := B3.out.size
    have r4_0 := Yy4.out.cells.1
    have g4_0 := Yy4.out.thaw.1
    have Ny4_0 := Lib.hid (Yy4.out.set0 y')
    have Nx4_0 := Lib.hid (Yx4.out.other (C := w3.heap.size) (i := 0) (by omega) (.int .i64 y'))
    have E4_0 := Lib.hid (below_set (C := w3.heap.size) (i := 0) D4.out (by omega) (.int .i64 y'))
    obtain ⟨S4_0, hS4_0⟩ : ∃ W, (w3.alloc (.cells #[.int .i64 0, .int .i64 0, .int .i64 0, .int .i64 0, .int .i64 0, .int .i64 0, .int .i64 0] 48)).setCell ⟨w3.heap.size, 0, none⟩ (.int .i64 y') = W := ⟨_, rfl⟩
    rw [hS4_0] at Ny4_0 Nx4_0 E4_0
    clear Yy4 Yx4 D4
    have r4_1 := Ny4_0.out.cells.2.1
    have g4_1 := Ny4_0.out.thaw.2.1
    have Ny4_1 := Lib.hid (Ny4_0.out.set1 m')
    have Nx4_1 := Lib.hid (Nx4_0.out.other (C := w3.heap.size) (i := 1) (by omega) (.int .i64 m'))
    have E4_1 := Lib.hid (below_set (C := w3.heap.size) (i := 1) E4_0.out (by omega) (.int .i64 m'))
    obtain ⟨S4_1, hS4_1⟩ : ∃ W, S4_0.setCell ⟨w3.heap.size, 1, none⟩ (.int .i64 m') = W := ⟨_, rfl⟩
    rw [hS4_1] at Ny4_1 Nx4_1 E4_1
    clear Ny4_0 Nx4_0 E4_0
    have r4_2 := Ny4_1.out.cells.2.2.1
    have g4_2 := Ny4_1.out.thaw.2.2.1
    have Ny4_2 := Lib.hid (Ny4_1.out.set2 d')
    have Nx4_2 := Lib.hid (Nx4_1.out.other (C := w3.heap.size) (i := 2) (by omega) (.int .i64 d'))
    have E4_2 := Lib.hid (below_set (C := w3.heap.size) (i := 2) E4_1.out (by omega) (.int .i64 d'))
    obtain ⟨S4_2, hS4_2⟩ : ∃ W, S4_1.setCell ⟨w3.heap.size, 2, none⟩ (.int .i64 d') = W := ⟨_, rfl⟩
    rw [hS4_2] at Ny4_2 Nx4_2 E4_2
    clear Ny4_1 Nx4_1 E4_1
    have r4_3 := Ny4_2.out.cells.2.2.2.1
    have g4_3 := Ny4_2.out.thaw.2.2.2.1
    have Ny4_3 := Lib.hid (Ny4_2.out.set3 hh')
    have Nx4_3 := Lib.hid (Nx4_2.out.other (C := w3.heap.size) (i := 3) (by omega) (.int .i64 hh'))
    have E4_3 := Lib.hid (below_set (C := w3.heap.size) (i := 3) E4_2.out (by omega) (.int .i64 hh'))
    obtain ⟨S4_3, hS4_3⟩ : ∃ W, S4_2.setCell ⟨w3.heap.size, 3, none⟩ (.int .i64 hh') = W := ⟨_, rfl⟩
    rw [hS4_3] at Ny4_3 Nx4_3 E4_3
    clear Ny4_2 Nx4_2 E4_2
    have r4_4 := Ny4_3.out.cells.2.2.2.2.1
    have g4_4 := Ny4_3.out.thaw.2.2.2.2.1
    have Ny4_4 := Lib.hid (Ny4_3.out.set4 mi')
    have Nx4_4 := Lib.hid (Nx4_3.out.other (C := w3.heap.size) (i := 4) (by omega) (.int .i64 mi'))
    have E4_4 := Lib.hid (below_set (C := w3.heap.size) (i := 4) E4_3.out (by omega) (.int .i64 mi'))
    obtain ⟨S4_4, hS4_4⟩ : ∃ W, S4_3.setCell ⟨w3.heap.size, 4, none⟩ (.int .i64 mi') = W := ⟨_, rfl⟩
    rw [hS4_4] at Ny4_4 Nx4_4 E4_4
    clear Ny4_3 Nx4_3 E4_3
    have r4_5 := Ny4_4.out.cells.2.2.2.2.2.1
    have g4_5 := Ny4_4.out.thaw.2.2.2.2.2.1
    have Ny4_5 := Lib.hid (Ny4_4.out.set5 s')
    have Nx4_5 := Lib.hid (Nx4_4.out.other (C := w3.heap.size) (i := 5) (by omega) (.int .i64 s'))
    have E4_5 := Lib.hid (below_set (C := w3.heap.size) (i := 5) E4_4.out (by omega) (.int .i64 s'))
    obtain ⟨S4_5, hS4_5⟩ : ∃ W, S4_4.setCell ⟨w3.heap.size, 5, none⟩ (.int .i64 s') = W := ⟨_, rfl⟩
    rw [hS4_5] at Ny4_5 Nx4_5 E4_5
    clear Ny4_4 Nx4_4 E4_4
    have r4_6 := Ny4_5.out.cells.2.2.2.2.2.2
    have g4_6 := Ny4_5.out.thaw.2.2.2.2.2.2
    have Ny4_6 := Lib.hid (Ny4_5.out.set6 0)
    have Nx4_6 := Lib.hid (Nx4_5.out.other (C := w3.heap.size) (i := 6) (by omega) (.int .i64 0))
    have E4_6 := Lib.hid (below_set (C := w3.heap.size) (i := 6) E4_5.out (by omega) (.int .i64 0))
    obtain ⟨S4_6, hS4_6⟩ : ∃ W, S4_5.setCell ⟨w3.heap.size, 6, none⟩ (.int .i64 0) = W := ⟨_, rfl⟩
    rw [hS4_6] at Ny4_6 Nx4_6 E4_6
    clear Ny4_5 Nx4_5 E4_5
    clear Xx3 B3
    obtain ⟨c5_0, c5_1, c5_2, c5_3, c5_4, c5_5, c5_6⟩ := Nx4_6.out.cells
    obtain ⟨c6_0, c6_1, c6_2, c6_3, c6_4, c6_5, c6_6⟩ := Ny4_6.out.cells
    go_wp2_with fail
    clear hs4 r4_0 g4_0 hS4_0 r4_1 g4_1 hS4_1 r4_2 g4_2 hS4_2 r4_3 g4_3 hS4_3 r4_4 g4_4 hS4_4 r4_5 g4_5 hS4_5 r4_6 g4_6 hS4_6 c5_0 c5_1 c5_2 c5_3 c5_4 c5_5 c5_6 c6_0 c6_1 c6_2 c6_3 c6_4 c6_5 c6_6
    go_ret
    exact ⟨by rw [HV.out]; rfl, E4_6.out⟩
  by_cases hm : m = m'
  case neg =>
    have g1 : decide (m = m') = false := decide_eq_false hm
    have g2 : (m == m') = false := by simpa using hm
    have g3 : (m != m') = true := by simp [bne, g2]
    have HM := Lib.hid hm
    have HY := Lib.hid hy
    have y1 : decide (y = y') = true := decide_eq_true hy
    have y2 : (y == y') = true := by simpa using hy
    clear hy
    have HV : Hid (smo a b = false) := Lib.hid (by unfold smo; rw [← E2.out, ← F2.out, decide_eq_false HM.out]; simp)
    go_enter Tryz.func46, Tryz.ntmps46
    go_wp2_with fail
    refine (H1.out _ (HT.out.below BB0.out)).mono ?_
    rintro e w1 ⟨rfl, hb⟩
    have B1 := Lib.hid (BB0.out.trans (hb.mono BB0.out.size))
    have hz1 := hb.size
    clear hb BB0
    have Yx2 := Lib.hid (bx7_new w1 0 0 0 0 0 0 0)
    have D2 := Lib.hid (B1.out.alloc B1.out.size (.cells #[.int .i64 0, .int .i64 0, .int .i64 0, .int .i64 0, .int .i64 0, .int .i64 0, .int .i64 0] 48))
    have hs2 := B1.out.size
    have r2_0 := Yx2.out.cells.1
    have g2_0 := Yx2.out.thaw.1
    have Nx2_0 := Lib.hid (Yx2.out.set0 y)
    have E2_0 := Lib.hid (below_set (C := w1.heap.size) (i := 0) D2.out (by omega) (.int .i64 y))
    obtain ⟨S2_0, hS2_0⟩ : ∃ W, (w1.alloc (.cells #[.int .i64 0, .int .i64 0, .int .i64 0, .int .i64 0, .int .i64 0, .int .i64 0, .int .i64 0] 48)).setCell ⟨w1.heap.size, 0, none⟩ (.int .i64 y) = W := ⟨_, rfl⟩
    rw [hS2_0] at Nx2_0 E2_0
    clear Yx2 D2
    have r2_1 := Nx2_0.out.cells.2.1
    have g2_1 := Nx2_0.out.thaw.2.1
    have Nx2_1 := Lib.hid (Nx2_0.out.set1 m)
    have E2_1 := Lib.hid (below_set (C := w1.heap.size) (i := 1) E2_0.out (by omega) (.int .i64 m))
    obtain ⟨S2_1, hS2_1⟩ : ∃ W, S2_0.setCell ⟨w1.heap.size, 1, none⟩ (.int .i64 m) = W := ⟨_, rfl⟩
    rw [hS2_1] at Nx2_1 E2_1
    clear Nx2_0 E2_0
    have r2_2 := Nx2_1.out.cells.2.2.1
    have g2_2 := Nx2_1.out.thaw.2.2.1
    have Nx2_2 := Lib.hid (Nx2_1.out.set2 d)
    have E2_2 := Lib.hid (below_set (C := w1.heap.size) (i := 2) E2_1.out (by omega) (.int .i64 d))
    obtain ⟨S2_2, hS2_2⟩ : ∃ W, S2_1.setCell ⟨w1.heap.size, 2, none⟩ (.int .i64 d) = W := ⟨_, rfl⟩
    rw [hS2_2] at Nx2_2 E2_2
    clear Nx2_1 E2_1
    have r2_3 := Nx2_2.out.cells.2.2.2.1
    have g2_3 := Nx2_2.out.thaw.2.2.2.1
    have Nx2_3 := Lib.hid (Nx2_2.out.set3 hh)
    have E2_3 := Lib.hid (below_set (C := w1.heap.size) (i := 3) E2_2.out (by omega) (.int .i64 hh))
    obtain ⟨S2_3, hS2_3⟩ : ∃ W, S2_2.setCell ⟨w1.heap.size, 3, none⟩ (.int .i64 hh) = W := ⟨_, rfl⟩
    rw [hS2_3] at Nx2_3 E2_3
    clear Nx2_2 E2_2
    have r2_4 := Nx2_3.out.cells.2.2.2.2.1
    have g2_4 := Nx2_3.out.thaw.2.2.2.2.1
    have Nx2_4 := Lib.hid (Nx2_3.out.set4 mi)
    have E2_4 := Lib.hid (below_set (C := w1.heap.size) (i := 4) E2_3.out (by omega) (.int .i64 mi))
    obtain ⟨S2_4, hS2_4⟩ : ∃ W, S2_3.setCell ⟨w1.heap.size, 4, none⟩ (.int .i64 mi) = W := ⟨_, rfl⟩
    rw [hS2_4] at Nx2_4 E2_4
    clear Nx2_3 E2_3
    have r2_5 := Nx2_4.out.cells.2.2.2.2.2.1
    have g2_5 := Nx2_4.out.thaw.2.2.2.2.2.1
    have Nx2_5 := Lib.hid (Nx2_4.out.set5 s)
    have E2_5 := Lib.hid (below_set (C := w1.heap.size) (i := 5) E2_4.out (by omega) (.int .i64 s))
    obtain ⟨S2_5, hS2_5⟩ : ∃ W, S2_4.setCell ⟨w1.heap.size, 5, none⟩ (.int .i64 s) = W := ⟨_, rfl⟩
    rw [hS2_5] at Nx2_5 E2_5
    clear Nx2_4 E2_4
    have r2_6 := Nx2_5.out.cells.2.2.2.2.2.2
    have g2_6 := Nx2_5.out.thaw.2.2.2.2.2.2
    have Nx2_6 := Lib.hid (Nx2_5.out.set6 0)
    have E2_6 := Lib.hid (below_set (C := w1.heap.size) (i := 6) E2_5.out (by omega) (.int .i64 0))
    obtain ⟨S2_6, hS2_6⟩ : ∃ W, S2_5.setCell ⟨w1.heap.size, 6, none⟩ (.int .i64 0) = W := ⟨_, rfl⟩
    rw [hS2_6] at Nx2_6 E2_6
    clear Nx2_5 E2_5
    clear B1
    go_wp2_with fail
    clear hs2 r2_0 g2_0 hS2_0 r2_1 g2_1 hS2_1 r2_2 g2_2 hS2_2 r2_3 g2_3 hS2_3 r2_4 g2_4 hS2_4 r2_5 g2_5 hS2_5 r2_6 g2_6 hS2_6
    refine (K1.out _ (HT.out.below E2_6.out)).mono ?_
    rintro e w3 ⟨rfl, hb⟩
    have Xx3 := Lib.hid (Nx2_6.out.below hb Nx2_6.out.lt)
    have B3 := Lib.hid (E2_6.out.trans (hb.mono E2_6.out.size))
    have hz3 := hb.size
    clear hb Nx2_6 E2_6
    have Yy4 := Lib.hid (bx7_new w3 0 0 0 0 0 0 0)
    have lx4 := Xx3.out.lt
    have Yx4 := Lib.hid (Xx3.out.alloc (.cells #[.int .i64 0, .int .i64 0, .int .i64 0, .int .i64 0, .int .i64 0, .int .i64 0, .int .i64 0] 48))
    have D4 := Lib.hid (B3.out.alloc B3.out.size (.cells #[.int .i64 0, .int .i64 0, .int .i64 0, .int .i64 0, .int .i64 0, .int .i64 0, .int .i64 0] 48))
    have hs4 := B3.out.size
    have r4_0 := Yy4.out.cells.1
    have g4_0 := Yy4.out.thaw.1
    have Ny4_0 := Lib.hid (Yy4.out.set0 y')
    have Nx4_0 := Lib.hid (Yx4.out.other (C := w3.heap.size) (i := 0) (by omega) (.int .i64 y'))
    have E4_0 := Lib.hid (below_set (C := w3.heap.size) (i := 0) D4.out (by omega) (.int .i64 y'))
    obtain ⟨S4_0, hS4_0⟩ : ∃ W, (w3.alloc (.cells #[.int .i64 0, .int .i64 0, .int .i64 0, .int .i64 0, .int .i64 0, .int .i64 0, .int .i64 0] 48)).setCell ⟨w3.heap.size, 0, none⟩ (.int .i64 y') = W := ⟨_, rfl⟩
    rw [hS4_0] at Ny4_0 Nx4_0 E4_0
    clear Yy4 Yx4 D4
    have r4_1 := Ny4_0.out.cells.2.1
    have g4_1 := Ny4_0.out.thaw.2.1
    have Ny4_1 := Lib.hid (Ny4_0.out.set1 m')
    have Nx4_1 := Lib.hid (Nx4_0.out.other (C := w3.heap.size) (i := 1) (by omega) (.int .i64 m'))
    have E4_1 := Lib.hid (below_set (C := w3.heap.size) (i := 1) E4_0.out (by omega) (.int .i64 m'))
    obtain ⟨S4_1, hS4_1⟩ : ∃ W, S4_0.setCell ⟨w3.heap.size, 1, none⟩ (.int .i64 m') = W := ⟨_, rfl⟩
    rw [hS4_1] at Ny4_1 Nx4_1 E4_1
    clear Ny4_0 Nx4_0 E4_0
    have r4_2 := Ny4_1.out.cells.2.2.1
    have g4_2 := Ny4_1.out.thaw.2.2.1
    have Ny4_2 := Lib.hid (Ny4_1.out.set2 d')
    have Nx4_2 := Lib.hid (Nx4_1.out.other (C := w3.heap.size) (i := 2) (by omega) (.int .i64 d'))
    have E4_2 := Lib.hid (below_set (C := w3.heap.size) (i := 2) E4_1.out (by omega) (.int .i64 d'))
    obtain ⟨S4_2, hS4_2⟩ : ∃ W, S4_1.setCell ⟨w3.heap.size, 2, none⟩ (.int .i64 d') = W := ⟨_, rfl⟩
    rw [hS4_2] at Ny4_2 Nx4_2 E4_2
    clear Ny4_1 Nx4_1 E4_1
    have r4_3 := Ny4_2.out.cells.2.2.2.1
    have g4_3 := Ny4_2.out.thaw.2.2.2.1
    have Ny4_3 := Lib.hid (Ny4_2.out.set3 hh')
    have Nx4_3 := Lib.hid (Nx4_2.out.other (C := w3.heap.size) (i := 3) (by omega) (.int .i64 hh'))
    have E4_3 := Lib.hid (below_set (C := w3.heap.size) (i := 3) E4_2.out (by omega) (.int .i64 hh'))
    obtain ⟨S4_3, hS4_3⟩ : ∃ W, S4_2.setCell ⟨w3.heap.size, 3, none⟩ (.int .i64 hh') = W := ⟨_, rfl⟩
    rw [hS4_3] at Ny4_3 Nx4_3 E4_3
    clear Ny4_2 Nx4_2 E4_2
    have r4_4 := Ny4_3.out.cells.2.2.2.2.1
    have g4_4 := Ny4_3.out.thaw.2.2.2.2.1
    have Ny4_4 := Lib.hid (Ny4_3.out.set4 mi')
    have Nx4_4 := Lib.hid (Nx4_3.out.other (C := w3.heap.size) (i := 4) (by omega) (.int .i64 mi'))
    have E4_4 := Lib.hid (below_set (C := w3.heap.size) (i := 4) E4_3.out (by omega) (.int .i64 mi'))
    obtain ⟨S4_4, hS4_4⟩ : ∃ W, S4_3.setCell ⟨w3.heap.size, 4, none⟩ (.int .i64 mi') = W := ⟨_, rfl⟩
    rw [hS4_4] at Ny4_4 Nx4_4 E4_4
    clear Ny4_3 Nx4_3 E4_3
    have r4_5 := Ny4_4.out.cells.2.2.2.2.2.1
    have g4_5 := Ny4_4.out.thaw.2.2.2.2.2.1
    have Ny4_5 := Lib.hid (Ny4_4.out.set5 s')
    have Nx4_5 := Lib.hid (Nx4_4.out.other (C := w3.heap.size) (i := 5) (by omega) (.int .i64 s'))
    have E4_5 := Lib.hid (below_set (C := w3.heap.size) (i := 5) E4_4.out (by omega) (.int .i64 s'))
    obtain ⟨S4_5, hS4_5⟩ : ∃ W, S4_4.setCell ⟨w3.heap.size, 5, none⟩ (.int .i64 s') = W := ⟨_, rfl⟩
    rw [hS4_5] at Ny4_5 Nx4_5 E4_5
    clear Ny4_4 Nx4_4 E4_4
    have r4_6 := Ny4_5.out.cells.2.2.2.2.2.2
    have g4_6 := Ny4_5.out.thaw.2.2.2.2.2.2
    have Ny4_6 := Lib.hid (Ny4_5.out.set6 0)
    have Nx4_6 := Lib.hid (Nx4_5.out.other (C := w3.heap.size) (i := 6) (by omega) (.int .i64 0))
    have E4_6 := Lib.hid (below_set (C := w3.heap.size) (i := 6) E4_5.out (by omega) (.int .i64 0))
    obtain ⟨S4_6, hS4_6⟩ : ∃ W, S4_5.setCell ⟨w3.heap.size, 6, none⟩ (.int .i64 0) = W := ⟨_, rfl⟩
    rw [hS4_6] at Ny4_6 Nx4_6 E4_6
    clear Ny4_5 Nx4_5 E4_5
    clear Xx3 B3
    obtain ⟨c5_0, c5_1, c5_2, c5_3, c5_4, c5_5, c5_6⟩ := Nx4_6.out.cells
    obtain ⟨c6_0, c6_1, c6_2, c6_3, c6_4, c6_5, c6_6⟩ := Ny4_6.out.cells
    go_wp2_with fail
    clear hs4 r4_0 g4_0 hS4_0 r4_1 g4_1 hS4_1 r4_2 g4_2 hS4_2 r4_3 g4_3 hS4_3 r4_4 g4_4 hS4_4 r4_5 g4_5 hS4_5 r4_6 g4_6 hS4_6 c5_0 c5_1 c5_2 c5_3 c5_4 c5_5 c5_6 c6_0 c6_1 c6_2 c6_3 c6_4 c6_5 c6_6
    go_ret
    exact ⟨by rw [HV.out]; rfl, E4_6.out⟩
  have y1 : decide (y = y') = true := decide_eq_true hy
  have y2 : (y == y') = true := by simpa using hy
  have m1 : decide (m = m') = true := decide_eq_true hm
  have m2 : (m == m') = true := by simpa using hm
  have HY := Lib.hid hy
  have HM := Lib.hid hm
  clear hy hm
  have HV : Hid (smo a b = true) := Lib.hid (by unfold smo; rw [← E1.out, ← F1.out, ← E2.out, ← F2.out, HA.out, HB.out, decide_eq_true HY.out, decide_eq_true HM.out]; rfl)
  go_enter Tryz.func46, Tryz.ntmps46
  go_wp2_with fail
  refine (H1.out _ (HT.out.below BB0.out)).mono ?_
  rintro e w1 ⟨rfl, hb⟩
  have B1 := Lib.hid (BB0.out.trans (hb.mono BB0.out.size))
  have hz1 := hb.size
  clear hb BB0
  have Yx2 := Lib.hid (bx7_new w1 0 0 0 0 0 0 0)
  have D2 := Lib.hid (B1.out.alloc B1.out.size (.cells #[.int .i64 0, .int .i64 0, .int .i64 0, .int .i64 0, .int .i64 0, .int .i64 0, .int .i64 0] 48))
  have hs2 := B1.out.size
  have r2_0 := Yx2.out.cells.1
  have g2_0 := Yx2.out.thaw.1
  have Nx2_0 := Lib.hid (Yx2.out.set0 y)
  have E2_0 := Lib.hid (below_set (C := w1.heap.size) (i := 0) D2.out (by omega) (.int .i64 y))
  obtain ⟨S2_0, hS2_0⟩ : ∃ W, (w1.alloc (.cells #[.int .i64 0, .int .i64 0, .int .i64 0, .int .i64 0, .int .i64 0, .int .i64 0, .int .i64 0] 48)).setCell ⟨w1.heap.size, 0, none⟩ (.int .i64 y) = W := ⟨_, rfl⟩
  rw [hS2_0] at Nx2_0 E2_0
  clear Yx2 D2
  have r2_1 := Nx2_0.out.cells.2.1
  have g2_1 := Nx2_0.out.thaw.2.1
  have Nx2_1 := Lib.hid (Nx2_0.out.set1 m)
  have E2_1 := Lib.hid (below_set (C := w1.heap.size) (i := 1) E2_0.out (by omega) (.int .i64 m))
  obtain ⟨S2_1, hS2_1⟩ : ∃ W, S2_0.setCell ⟨w1.heap.size, 1, none⟩ (.int .i64 m) = W := ⟨_, rfl⟩
  rw [hS2_1] at Nx2_1 E2_1
  clear Nx2_0 E2_0
  have r2_2 := Nx2_1.out.cells.2.2.1
  have g2_2 := Nx2_1.out.thaw.2.2.1
  have Nx2_2 := Lib.hid (Nx2_1.out.set2 d)
  have E2_2 := Lib.hid (below_set (C := w1.heap.size) (i := 2) E2_1.out (by omega) (.int .i64 d))
  obtain ⟨S2_2, hS2_2⟩ : ∃ W, S2_1.setCell ⟨w1.heap.size, 2, none⟩ (.int .i64 d) = W := ⟨_, rfl⟩
  rw [hS2_2] at Nx2_2 E2_2
  clear Nx2_1 E2_1
  have r2_3 := Nx2_2.out.cells.2.2.2.1
  have g2_3 := Nx2_2.out.thaw.2.2.2.1
  have Nx2_3 := Lib.hid (Nx2_2.out.set3 hh)
  have E2_3 := Lib.hid (below_set (C := w1.heap.size) (i := 3) E2_2.out (by omega) (.int .i64 hh))
  obtain ⟨S2_3, hS2_3⟩ : ∃ W, S2_2.setCell ⟨w1.heap.size, 3, none⟩ (.int .i64 hh) = W := ⟨_, rfl⟩
  rw [hS2_3] at Nx2_3 E2_3
  clear Nx2_2 E2_2
  have r2_4 := Nx2_3.out.cells.2.2.2.2.1
  have g2_4 := Nx2_3.out.thaw.2.2.2.2.1
  have Nx2_4 := Lib.hid (Nx2_3.out.set4 mi)
  have E2_4 := Lib.hid (below_set (C := w1.heap.size) (i := 4) E2_3.out (by omega) (.int .i64 mi))
  obtain ⟨S2_4, hS2_4⟩ : ∃ W, S2_3.setCell ⟨w1.heap.size, 4, none⟩ (.int .i64 mi) = W := ⟨_, rfl⟩
  rw [hS2_4] at Nx2_4 E2_4
  clear Nx2_3 E2_3
  have r2_5 := Nx2_4.out.cells.2.2.2.2.2.1
  have g2_5 := Nx2_4.out.thaw.2.2.2.2.2.1
  have Nx2_5 := Lib.hid (Nx2_4.out.set5 s)
  have E2_5 := Lib.hid (below_set (C := w1.heap.size) (i := 5) E2_4.out (by omega) (.int .i64 s))
  obtain ⟨S2_5, hS2_5⟩ : ∃ W, S2_4.setCell ⟨w1.heap.size, 5, none⟩ (.int .i64 s) = W := ⟨_, rfl⟩
  rw [hS2_5] at Nx2_5 E2_5
  clear Nx2_4 E2_4
  have r2_6 := Nx2_5.out.cells.2.2.2.2.2.2
  have g2_6 := Nx2_5.out.thaw.2.2.2.2.2.2
  have Nx2_6 := Lib.hid (Nx2_5.out.set6 0)
  have E2_6 := Lib.hid (below_set (C := w1.heap.size) (i := 6) E2_5.out (by omega) (.int .i64 0))
  obtain ⟨S2_6, hS2_6⟩ : ∃ W, S2_5.setCell ⟨w1.heap.size, 6, none⟩ (.int .i64 0) = W := ⟨_, rfl⟩
  rw [hS2_6] at Nx2_6 E2_6
  clear Nx2_5 E2_5
  clear B1
  go_wp2_with fail
  clear hs2 r2_0 g2_0 hS2_0 r2_1 g2_1 hS2_1 r2_2 g2_2 hS2_2 r2_3 g2_3 hS2_3 r2_4 g2_4 hS2_4 r2_5 g2_5 hS2_5 r2_6 g2_6 hS2_6
  refine (K1.out _ (HT.out.below E2_6.out)).mono ?_
  rintro e w3 ⟨rfl, hb⟩
  have Xx3 := Lib.hid (Nx2_6.out.below hb Nx2_6.out.lt)
  have B3 := Lib.hid (E2_6.out.trans (hb.mono E2_6.out.size))
  have hz3 := hb.size
  clear hb Nx2_6 E2_6
  have Yy4 := Lib.hid (bx7_new w3 0 0 0 0 0 0 0)
  have lx4 := Xx3.out.lt
  have Yx4 := Lib.hid (Xx3.out.alloc (.cells #[.int .i64 0, .int .i64 0, .int .i64 0, .int .i64 0, .int .i64 0, .int .i64 0, .int .i64 0] 48))
  have D4 := Lib.hid (B3.out.alloc B3.out.size (.cells #[.int .i64 0, .int .i64 0, .int .i64 0, .int .i64 0, .int .i64 0, .int .i64 0, .int .i64 0] 48))
  have hs4 := B3.out.size
  have r4_0 := Yy4.out.cells.1
  have g4_0 := Yy4.out.thaw.1
  have Ny4_0 := Lib.hid (Yy4.out.set0 y')
  have Nx4_0 := Lib.hid (Yx4.out.other (C := w3.heap.size) (i := 0) (by omega) (.int .i64 y'))
  have E4_0 := Lib.hid (below_set (C := w3.heap.size) (i := 0) D4.out (by omega) (.int .i64 y'))
  obtain ⟨S4_0, hS4_0⟩ : ∃ W, (w3.alloc (.cells #[.int .i64 0, .int .i64 0, .int .i64 0, .int .i64 0, .int .i64 0, .int .i64 0, .int .i64 0] 48)).setCell ⟨w3.heap.size, 0, none⟩ (.int .i64 y') = W := ⟨_, rfl⟩
  rw [hS4_0] at Ny4_0 Nx4_0 E4_0
  clear Yy4 Yx4 D4
  have r4_1 := Ny4_0.out.cells.2.1
  have g4_1 := Ny4_0.out.thaw.2.1
  have Ny4_1 := Lib.hid (Ny4_0.out.set1 m')
  have Nx4_1 := Lib.hid (Nx4_0.out.other (C := w3.heap.size) (i := 1) (by omega) (.int .i64 m'))
  have E4_1 := Lib.hid (below_set (C := w3.heap.size) (i := 1) E4_0.out (by omega) (.int .i64 m'))
  obtain ⟨S4_1, hS4_1⟩ : ∃ W, S4_0.setCell ⟨w3.heap.size, 1, none⟩ (.int .i64 m') = W := ⟨_, rfl⟩
  rw [hS4_1] at Ny4_1 Nx4_1 E4_1
  clear Ny4_0 Nx4_0 E4_0
  have r4_2 := Ny4_1.out.cells.2.2.1
  have g4_2 := Ny4_1.out.thaw.2.2.1
  have Ny4_2 := Lib.hid (Ny4_1.out.set2 d')
  have Nx4_2 := Lib.hid (Nx4_1.out.other (C := w3.heap.size) (i := 2) (by omega) (.int .i64 d'))
  have E4_2 := Lib.hid (below_set (C := w3.heap.size) (i := 2) E4_1.out (by omega) (.int .i64 d'))
  obtain ⟨S4_2, hS4_2⟩ : ∃ W, S4_1.setCell ⟨w3.heap.size, 2, none⟩ (.int .i64 d') = W := ⟨_, rfl⟩
  rw [hS4_2] at Ny4_2 Nx4_2 E4_2
  clear Ny4_1 Nx4_1 E4_1
  have r4_3 := Ny4_2.out.cells.2.2.2.1
  have g4_3 := Ny4_2.out.thaw.2.2.2.1
  have Ny4_3 := Lib.hid (Ny4_2.out.set3 hh')
  have Nx4_3 := Lib.hid (Nx4_2.out.other (C := w3.heap.size) (i := 3) (by omega) (.int .i64 hh'))
  have E4_3 := Lib.hid (below_set (C := w3.heap.size) (i := 3) E4_2.out (by omega) (.int .i64 hh'))
  obtain ⟨S4_3, hS4_3⟩ : ∃ W, S4_2.setCell ⟨w3.heap.size, 3, none⟩ (.int .i64 hh') = W := ⟨_, rfl⟩
  rw [hS4_3] at Ny4_3 Nx4_3 E4_3
  clear Ny4_2 Nx4_2 E4_2
  have r4_4 := Ny4_3.out.cells.2.2.2.2.1
  have g4_4 := Ny4_3.out.thaw.2.2.2.2.1
  have Ny4_4 := Lib.hid (Ny4_3.out.set4 mi')
  have Nx4_4 := Lib.hid (Nx4_3.out.other (C := w3.heap.size) (i := 4) (by omega) (.int .i64 mi'))
  have E4_4 := Lib.hid (below_set (C := w3.heap.size) (i := 4) E4_3.out (by omega) (.int .i64 mi'))
  obtain ⟨S4_4, hS4_4⟩ : ∃ W, S4_3.setCell ⟨w3.heap.size, 4, none⟩ (.int .i64 mi') = W := ⟨_, rfl⟩
  rw [hS4_4] at Ny4_4 Nx4_4 E4_4
  clear Ny4_3 Nx4_3 E4_3
  have r4_5 := Ny4_4.out.cells.2.2.2.2.2.1
  have g4_5 := Ny4_4.out.thaw.2.2.2.2.2.1
  have Ny4_5 := Lib.hid (Ny4_4.out.set5 s')
  have Nx4_5 := Lib.hid (Nx4_4.out.other (C := w3.heap.size) (i := 5) (by omega) (.int .i64 s'))
  have E4_5 := Lib.hid (below_set (C := w3.heap.size) (i := 5) E4_4.out (by omega) (.int .i64 s'))
  obtain ⟨S4_5, hS4_5⟩ : ∃ W, S4_4.setCell ⟨w3.heap.size, 5, none⟩ (.int .i64 s') = W := ⟨_, rfl⟩
  rw [hS4_5] at Ny4_5 Nx4_5 E4_5
  clear Ny4_4 Nx4_4 E4_4
  have r4_6 := Ny4_5.out.cells.2.2.2.2.2.2
  have g4_6 := Ny4_5.out.thaw.2.2.2.2.2.2
  have Ny4_6 := Lib.hid (Ny4_5.out.set6 0)
  have Nx4_6 := Lib.hid (Nx4_5.out.other (C := w3.heap.size) (i := 6) (by omega) (.int .i64 0))
  have E4_6 := Lib.hid (below_set (C := w3.heap.size) (i := 6) E4_5.out (by omega) (.int .i64 0))
  obtain ⟨S4_6, hS4_6⟩ : ∃ W, S4_5.setCell ⟨w3.heap.size, 6, none⟩ (.int .i64 0) = W := ⟨_, rfl⟩
  rw [hS4_6] at Ny4_6 Nx4_6 E4_6
  clear Ny4_5 Nx4_5 E4_5
  clear Xx3 B3
  obtain ⟨c5_0, c5_1, c5_2, c5_3, c5_4, c5_5, c5_6⟩ := Nx4_6.out.cells
  obtain ⟨c6_0, c6_1, c6_2, c6_3, c6_4, c6_5, c6_6⟩ := Ny4_6.out.cells
  go_wp2_with fail
  clear hs4 r4_0 g4_0 hS4_0 r4_1 g4_1 hS4_1 r4_2 g4_2 hS4_2 r4_3 g4_3 hS4_3 r4_4 g4_4 hS4_4 r4_5 g4_5 hS4_5 r4_6 g4_6 hS4_6 c5_0 c5_1 c5_2 c5_3 c5_4 c5_5 c5_6 c6_0 c6_1 c6_2 c6_3 c6_4 c6_5 c6_6
  go_ret
  exact ⟨by rw [HV.out]; rfl, E4_6.out⟩

/-- What Indicator returns. -/
def Lp.indV (B E : Int) (f : Nat → Int × Int) (n : Nat) (u : Int) : Int :=
  if chkL B E f n ≠ 0 then 0 else if E ≤ u then 3
  else if psU f n u < n ∧ smo u ((f (psU f n u)).1 - 1) = true then (if (f (psU f n u)).2 - offA B f (psU f n u) = 1 then 1 else 2) else 0
set_option maxRecDepth 100000 in
set_option maxHeartbeats 1000000 in
theorem lind_any (B E : Int) (a : Option Addr) (n c : Nat) (f : Nat → Int × Int) (u : Int) (w : World) (ht : MT w) (hr : LRd w w.heap.size a n f) :
    Calls Tryz.prog 24 #[.agg #[.int .i64 B, .int .i64 E, .slice a n c], .int .i64 u] w fun e w' => e = .returned (.int .i64 (indV B E f n u)) ∧ Below w.heap.size w w' := by
  have HR := Lib.hid hr
  have HT := Lib.hid ht
  by_cases hz : chkL B E f n = 0
  case neg =>
    obtain ⟨v, hv⟩ : ∃ v, chkL B E f n = v := ⟨_, rfl⟩
    have h0 : v ≠ 0 := by rw [← hv]; exact hz
    have HC := Lib.hid hv
    have HV : Hid (indV B E f n u = 0) := Lib.hid (by unfold indV; rw [if_pos hz])
    have g1 : decide (v = 0) = false := decide_eq_false h0
    have g2 : (v == 0) = false := by simpa using h0
    have g3 : (v != 0) = true := by simp [bne, g2]
    clear hr ht hv hz
    have BB0 := Lib.hid ((Below.refl w.heap.size w).alloc (Nat.le_refl _) (.cells #[.int .i64 B, .int .i64 E, .slice a n c] 24))
    have X0 := Lib.hid (tbx_new w B E a n c)
    obtain ⟨W0, hW0⟩ : ∃ W, w.alloc (.cells #[.int .i64 B, .int .i64 E, .slice a n c] 24) = W := ⟨_, rfl⟩
    rw [hW0] at BB0 X0
    obtain ⟨t0, t1, t2⟩ := X0.out.cells
    go_enter Tryz.func24, Tryz.ntmps24
    go_wp2_with fail
    refine (lchk_any B E a n c f _ (HT.out.below BB0.out) (show LRd W0 W0.heap.size a n f from (HR.out.below BB0.out).mono BB0.out.size)).mono ?_
    rintro e w1 ⟨rfl, hb⟩
    have X1 := Lib.hid (X0.out.below hb X0.out.lt)
    have B1 := Lib.hid (BB0.out.trans (hb.mono BB0.out.size))
    clear hb X0 BB0
    rw [HC.out]
    obtain ⟨t2_0, t2_1, t2_2⟩ := X1.out.cells
    go_wp2_with fail
    clear t2_0 t2_1 t2_2
    go_ret
    exact ⟨ret1 HV.out.symm, B1.out⟩
  have HC := Lib.hid hz
  obtain ⟨hn, hR, _⟩ := chk_zero hz
  by_cases hE : E ≤ u
  case pos =>
    have HV : Hid (indV B E f n u = 3) := Lib.hid (by unfold indV; rw [if_neg (by rw [hz]; decide), if_pos hE])
    clear hr ht hz hR
    have BB0 := Lib.hid ((Below.refl w.heap.size w).alloc (Nat.le_refl _) (.cells #[.int .i64 B, .int .i64 E, .slice a n c] 24))
    have X0 := Lib.hid (tbx_new w B E a n c)
    obtain ⟨W0, hW0⟩ : ∃ W, w.alloc (.cells #[.int .i64 B, .int .i64 E, .slice a n c] 24) = W := ⟨_, rfl⟩
    rw [hW0] at BB0 X0
    obtain ⟨t0, t1, t2⟩ := X0.out.cells
    go_enter Tryz.func24, Tryz.ntmps24
    go_wp2_with fail
    refine (lchk_any B E a n c f _ (HT.out.below BB0.out) (show LRd W0 W0.heap.size a n f from (HR.out.below BB0.out).mono BB0.out.size)).mono ?_
    rintro e w1 ⟨rfl, hb⟩
    have X1 := Lib.hid (X0.out.below hb X0.out.lt)
    have B1 := Lib.hid (BB0.out.trans (hb.mono BB0.out.size))
    clear hb X0 BB0
    rw [HC.out]
    obtain ⟨t2_0, t2_1, t2_2⟩ := X1.out.cells
    go_wp2_with fail
    clear t2_0 t2_1 t2_2
    go_ret
    exact ⟨ret1 HV.out.symm, B1.out⟩
  have dE : decide (E ≤ u) = false := decide_eq_false hE
  obtain ⟨k, hkk⟩ : ∃ k, psU f n u = k := ⟨_, rfl⟩
  have HK := Lib.hid hkk
  have hk : k ≤ n := by rw [← hkk]; exact psU_le f n u
  have HEE : Hid (indV B E f n u = if k < n ∧ smo u ((f k).1 - 1) = true then (if (f k).2 - offA B f k = 1 then 1 else 2) else 0) := Lib.hid (by unfold indV; rw [if_neg (by rw [hz]; decide), if_neg hE, hkk])
  have HI := Lib.hid hR
  by_cases hlt : k < n
  case neg =>
    obtain rfl : k = n := by omega
    have HV : Hid (indV B E f k u = 0) := Lib.hid (by rw [HEE.out, if_neg (by omega)])
    clear hr ht hz hR hkk
    have BB0 := Lib.hid ((Below.refl w.heap.size w).alloc (Nat.le_refl _) (.cells #[.int .i64 B, .int .i64 E, .slice a k c] 24))
    have X0 := Lib.hid (tbx_new w B E a k c)
    obtain ⟨W0, hW0⟩ : ∃ W, w.alloc (.cells #[.int .i64 B, .int .i64 E, .slice a k c] 24) = W := ⟨_, rfl⟩
    rw [hW0] at BB0 X0
    obtain ⟨t0, t1, t2⟩ := X0.out.cells
    go_enter Tryz.func24, Tryz.ntmps24
    go_wp2_with fail
    refine (lchk_any B E a k c f _ (HT.out.below BB0.out) (show LRd W0 W0.heap.size a k f from (HR.out.below BB0.out).mono BB0.out.size)).mono ?_
    rintro e w1 ⟨rfl, hb⟩
    have X1 := Lib.hid (X0.out.below hb X0.out.lt)
    have B1 := Lib.hid (BB0.out.trans (hb.mono BB0.out.size))
    clear hb X0 BB0
    rw [HC.out]
    obtain ⟨t2_0, t2_1, t2_2⟩ := X1.out.cells
    go_wp2_with fail
    clear t2_0 t2_1 t2_2
    refine (passed_any B E a k c f u _ (show LRd w1 w1.heap.size a k f from (HR.out.below B1.out).mono B1.out.size) hn).mono ?_
    rintro e w3 ⟨rfl, hb⟩
    have X3 := Lib.hid (X1.out.below hb X1.out.lt)
    have B3 := Lib.hid (B1.out.trans (hb.mono B1.out.size))
    clear hb X1 B1
    rw [HK.out]
    obtain ⟨t4_0, t4_1, t4_2⟩ := X3.out.cells
    go_wp2_with fail
    clear t4_0 t4_1 t4_2
    go_ret
    exact ⟨ret1 HV.out.symm, B3.out⟩
  obtain ⟨b, off, rfl, hbl⟩ := hr.some (by omega)
  have hki : (k : Int) < n := by omega
  have hne : ¬ (k : Int) = n := by omega
  have hne2 : ((k : Int) == n) = false := by simpa using hne
  obtain ⟨x, hx⟩ : ∃ x, (f k).1 = x := ⟨_, rfl⟩
  have xb := (hR.2.2 k hlt).2
  rw [hx] at xb HEE
  obtain ⟨x0, x1⟩ := xb
  have HX := Lib.hid hx
  obtain ⟨v, hv⟩ : ∃ v, (f k).2 - offA B f k = v := ⟨_, rfl⟩
  have HW := Lib.hid hv
  rw [hv] at HEE
  obtain ⟨g, hg⟩ : ∃ g, smo u (x - 1) = g := ⟨_, rfl⟩
  have HG := Lib.hid hg
  rw [hg] at HEE
  clear hr ht hz hR hkk hx hg hv
  cases g
  · have HV : Hid (indV B E f n u = 0) := Lib.hid (by rw [HEE.out]; simp)
    have BB0 := Lib.hid ((Below.refl w.heap.size w).alloc (Nat.le_refl _) (.cells #[.int .i64 B, .int .i64 E, .slice (some ⟨b, off, none⟩) n c] 24))
    have X0 := Lib.hid (tbx_new w B E (some ⟨b, off, none⟩) n c)
    obtain ⟨W0, hW0⟩ : ∃ W, w.alloc (.cells #[.int .i64 B, .int .i64 E, .slice (some ⟨b, off, none⟩) n c] 24) = W := ⟨_, rfl⟩
    rw [hW0] at BB0 X0
    obtain ⟨t0, t1, t2⟩ := X0.out.cells
    go_enter Tryz.func24, Tryz.ntmps24
    go_wp2_with fail
    refine (lchk_any B E _ n c f _ (HT.out.below BB0.out) (show LRd W0 W0.heap.size (some ⟨b, off, none⟩) n f from (HR.out.below BB0.out).mono BB0.out.size)).mono ?_
    rintro e w1 ⟨rfl, hb⟩
    have X1 := Lib.hid (X0.out.below hb X0.out.lt)
    have B1 := Lib.hid (BB0.out.trans (hb.mono BB0.out.size))
    clear hb X0 BB0
    rw [HC.out]
    obtain ⟨t2_0, t2_1, t2_2⟩ := X1.out.cells
    go_wp2_with fail
    clear t2_0 t2_1 t2_2
    refine (passed_any B E _ n c f u _ (show LRd w1 w1.heap.size (some ⟨b, off, none⟩) n f from (HR.out.below B1.out).mono B1.out.size) hn).mono ?_
    rintro e w3 ⟨rfl, hb⟩
    have X3 := Lib.hid (X1.out.below hb X1.out.lt)
    have B3 := Lib.hid (B1.out.trans (hb.mono B1.out.size))
    clear hb X1 B1
    rw [HK.out]
    obtain ⟨t4_0, t4_1, t4_2⟩ := X3.out.cells
    obtain ⟨m1, _⟩ := (HR.out.below B3.out).at hlt
    rw [HX.out] at m1
    go_wp2_with fail
    clear t4_0 t4_1 t4_2 m1
    refine (samemonth_any u (x - 1) _ (HT.out.below B3.out)).mono ?_
    rintro e w5 ⟨rfl, hb⟩
    have X5 := Lib.hid (X3.out.below hb X3.out.lt)
    have B5 := Lib.hid (B3.out.trans (hb.mono B3.out.size))
    clear hb X3 B3
    rw [HG.out]
    obtain ⟨t6_0, t6_1, t6_2⟩ := X5.out.cells
    go_wp2_with fail
    clear t6_0 t6_1 t6_2
    go_ret
    exact ⟨ret1 HV.out.symm, B5.out⟩
  · by_cases h1 : v = 1
    · have HV : Hid (indV B E f n u = 1) := Lib.hid (by rw [HEE.out]; simp [hlt, h1])
      subst h1
      have BB0 := Lib.hid ((Below.refl w.heap.size w).alloc (Nat.le_refl _) (.cells #[.int .i64 B, .int .i64 E, .slice (some ⟨b, off, none⟩) n c] 24))
      have X0 := Lib.hid (tbx_new w B E (some ⟨b, off, none⟩) n c)
      obtain ⟨W0, hW0⟩ : ∃ W, w.alloc (.cells #[.int .i64 B, .int .i64 E, .slice (some ⟨b, off, none⟩) n c] 24) = W := ⟨_, rfl⟩
      rw [hW0] at BB0 X0
      obtain ⟨t0, t1, t2⟩ := X0.out.cells
      go_enter Tryz.func24, Tryz.ntmps24
      go_wp2_with fail
      refine (lchk_any B E _ n c f _ (HT.out.below BB0.out) (show LRd W0 W0.heap.size (some ⟨b, off, none⟩) n f from (HR.out.below BB0.out).mono BB0.out.size)).mono ?_
      rintro e w1 ⟨rfl, hb⟩
      have X1 := Lib.hid (X0.out.below hb X0.out.lt)
      have B1 := Lib.hid (BB0.out.trans (hb.mono BB0.out.size))
      clear hb X0 BB0
      rw [HC.out]
      obtain ⟨t2_0, t2_1, t2_2⟩ := X1.out.cells
      go_wp2_with fail
      clear t2_0 t2_1 t2_2
      refine (passed_any B E _ n c f u _ (show LRd w1 w1.heap.size (some ⟨b, off, none⟩) n f from (HR.out.below B1.out).mono B1.out.size) hn).mono ?_
      rintro e w3 ⟨rfl, hb⟩
      have X3 := Lib.hid (X1.out.below hb X1.out.lt)
      have B3 := Lib.hid (B1.out.trans (hb.mono B1.out.size))
      clear hb X1 B1
      rw [HK.out]
      obtain ⟨t4_0, t4_1, t4_2⟩ := X3.out.cells
      obtain ⟨m1, _⟩ := (HR.out.below B3.out).at hlt
      rw [HX.out] at m1
      go_wp2_with fail
      clear t4_0 t4_1 t4_2 m1
      refine (samemonth_any u (x - 1) _ (HT.out.below B3.out)).mono ?_
      rintro e w5 ⟨rfl, hb⟩
      have X5 := Lib.hid (X3.out.below hb X3.out.lt)
      have B5 := Lib.hid (B3.out.trans (hb.mono B3.out.size))
      clear hb X3 B3
      rw [HG.out]
      obtain ⟨t6_0, t6_1, t6_2⟩ := X5.out.cells
      go_wp2_with fail
      clear t6_0 t6_1 t6_2
      refine (change_any B E _ n c f k _ (show LRd w5 w5.heap.size (some ⟨b, off, none⟩) n f from (HR.out.below B5.out).mono B5.out.size) hlt hn HI.out).mono ?_
      rintro e w7 ⟨rfl, hb⟩
      have X7 := Lib.hid (X5.out.below hb X5.out.lt)
      have B7 := Lib.hid (B5.out.trans (hb.mono B5.out.size))
      clear hb X5 B5
      rw [HW.out]
      go_wp2_with fail
      go_ret
      exact ⟨ret1 HV.out.symm, B7.out⟩
    · have HV : Hid (indV B E f n u = 2) := Lib.hid (by rw [HEE.out]; simp [hlt, h1])
      have g1 : decide (v = 1) = false := decide_eq_false h1
      have g2 : (v == 1) = false := by simpa using h1
      have g3 : (v != 1) = true := by simp [bne, g2]
      have BB0 := Lib.hid ((Below.refl w.heap.size w).alloc (Nat.le_refl _) (.cells #[.int .i64 B, .int .i64 E, .slice (some ⟨b, off, none⟩) n c] 24))
      have X0 := Lib.hid (tbx_new w B E (some ⟨b, off, none⟩) n c)
      obtain ⟨W0, hW0⟩ : ∃ W, w.alloc (.cells #[.int .i64 B, .int .i64 E, .slice (some ⟨b, off, none⟩) n c] 24) = W := ⟨_, rfl⟩
      rw [hW0] at BB0 X0
      obtain ⟨t0, t1, t2⟩ := X0.out.cells
      go_enter Tryz.func24, Tryz.ntmps24
      go_wp2_with fail
      refine (lchk_any B E _ n c f _ (HT.out.below BB0.out) (show LRd W0 W0.heap.size (some ⟨b, off, none⟩) n f from (HR.out.below BB0.out).mono BB0.out.size)).mono ?_
      rintro e w1 ⟨rfl, hb⟩
      have X1 := Lib.hid (X0.out.below hb X0.out.lt)
      have B1 := Lib.hid (BB0.out.trans (hb.mono BB0.out.size))
      clear hb X0 BB0
      rw [HC.out]
      obtain ⟨t2_0, t2_1, t2_2⟩ := X1.out.cells
      go_wp2_with fail
      clear t2_0 t2_1 t2_2
      refine (passed_any B E _ n c f u _ (show LRd w1 w1.heap.size (some ⟨b, off, none⟩) n f from (HR.out.below B1.out).mono B1.out.size) hn).mono ?_
      rintro e w3 ⟨rfl, hb⟩
      have X3 := Lib.hid (X1.out.below hb X1.out.lt)
      have B3 := Lib.hid (B1.out.trans (hb.mono B1.out.size))
      clear hb X1 B1
      rw [HK.out]
      obtain ⟨t4_0, t4_1, t4_2⟩ := X3.out.cells
      obtain ⟨m1, _⟩ := (HR.out.below B3.out).at hlt
      rw [HX.out] at m1
      go_wp2_with fail
      clear t4_0 t4_1 t4_2 m1
      refine (samemonth_any u (x - 1) _ (HT.out.below B3.out)).mono ?_
      rintro e w5 ⟨rfl, hb⟩
      have X5 := Lib.hid (X3.out.below hb X3.out.lt)
      have B5 := Lib.hid (B3.out.trans (hb.mono B3.out.size))
      clear hb X3 B3
      rw [HG.out]
      obtain ⟨t6_0, t6_1, t6_2⟩ := X5.out.cells
      go_wp2_with fail
      clear t6_0 t6_1 t6_2
      refine (change_any B E _ n c f k _ (show LRd w5 w5.heap.size (some ⟨b, off, none⟩) n f from (HR.out.below B5.out).mono B5.out.size) hlt hn HI.out).mono ?_
      rintro e w7 ⟨rfl, hb⟩
      have X7 := Lib.hid (X5.out.below hb X5.out.lt)
      have B7 := Lib.hid (B5.out.trans (hb.mono B5.out.size))
      clear hb X5 B5
      rw [HW.out]
      go_wp2_with fail
      go_ret
      exact ⟨ret1 HV.out.symm, B7.out⟩

/-- What Next returns. -/
def Lp.nxK (B E : Int) (f : Nat → Int × Int) (n : Nat) (u : Int) : Bool := decide (chkL B E f n = 0) && decide (psU f n u < n)
def Lp.nxE (B E : Int) (f : Nat → Int × Int) (n : Nat) (u : Int) : Int × Int := if nxK B E f n u = true then f (psU f n u) else (0, 0)
theorem Lp.nx_no {B E : Int} {f : Nat → Int × Int} {n : Nat} {u : Int} (h : nxK B E f n u = false) : Ending.returned (.tuple #[.agg #[.int .i64 0, .int .i64 0], .bool false]) = .returned (.tuple #[.agg #[.int .i64 (nxE B E f n u).1, .int .i64 (nxE B E f n u).2], .bool (nxK B E f n u)]) := by
  unfold nxE; rw [h, if_neg (by decide)]
theorem Lp.nx_yes {B E : Int} {f : Nat → Int × Int} {n : Nat} {u x y : Int} (h : nxK B E f n u = true) (hx : (f (psU f n u)).1 = x) (hy : (f (psU f n u)).2 = y) : Ending.returned (.tuple #[.agg #[.int .i64 x, .int .i64 y], .bool true]) = .returned (.tuple #[.agg #[.int .i64 (nxE B E f n u).1, .int .i64 (nxE B E f n u).2], .bool (nxK B E f n u)]) := by
  unfold nxE; rw [h, if_pos rfl, hx, hy]
set_option maxRecDepth 100000 in
set_option maxHeartbeats 1000000 in
theorem lnext_any (B E : Int) (a : Option Addr) (n c : Nat) (f : Nat → Int × Int) (u : Int) (w : World) (ht : MT w) (hr : LRd w w.heap.size a n f) :
    Calls Tryz.prog 25 #[.agg #[.int .i64 B, .int .i64 E, .slice a n c], .int .i64 u] w fun e w' => e = .returned (.tuple #[.agg #[.int .i64 (nxE B E f n u).1, .int .i64 (nxE B E f n u).2], .bool (nxK B E f n u)]) ∧ Below w.heap.size w w' := by
  have HR := Lib.hid hr
  have HT := Lib.hid ht
  by_cases hz : chkL B E f n = 0
  case neg =>
    obtain ⟨v, hv⟩ : ∃ v, chkL B E f n = v := ⟨_, rfl⟩
    have h0 : v ≠ 0 := by rw [← hv]; exact hz
    have HC := Lib.hid hv
    have HV : Hid (nxK B E f n u = false) := Lib.hid (by unfold nxK; rw [decide_eq_false hz]; rfl)
    have g1 : decide (v = 0) = false := decide_eq_false h0
    have g2 : (v == 0) = false := by simpa using h0
    have g3 : (v != 0) = true := by simp [bne, g2]
    clear hr ht hv hz
    have BB0 := Lib.hid ((Below.refl w.heap.size w).alloc (Nat.le_refl _) (.cells #[.int .i64 B, .int .i64 E, .slice a n c] 24))
    have X0 := Lib.hid (tbx_new w B E a n c)
    obtain ⟨U0, hU0⟩ : ∃ W, w.alloc (.cells #[.int .i64 B, .int .i64 E, .slice a n c] 24) = W := ⟨_, rfl⟩
    rw [hU0] at BB0 X0
    have ux := X0.out.lt
    have us := BB0.out.size
    have P0 := Lib.hid (pbx_new U0 0 0)
    have X1 := Lib.hid (X0.out.alloc (.cells #[.int .i64 0, .int .i64 0] 44))
    have BB1 := Lib.hid (BB0.out.alloc us (.cells #[.int .i64 0, .int .i64 0] 44))
    obtain ⟨U1, hU1⟩ : ∃ W, U0.alloc (.cells #[.int .i64 0, .int .i64 0] 44) = W := ⟨_, rfl⟩
    rw [hU1] at P0 X1 BB1
    clear X0 BB0
    obtain ⟨t0, t1, t2⟩ := X1.out.cells
    go_enter Tryz.func25, Tryz.ntmps25
    go_wp2_with fail
    refine (lchk_any B E a n c f _ (HT.out.below BB1.out) (show LRd U1 U1.heap.size a n f from (HR.out.below BB1.out).mono BB1.out.size)).mono ?_
    rintro e w11 ⟨rfl, hb⟩
    have X11 := Lib.hid (X1.out.below hb X1.out.lt)
    have B11 := Lib.hid (BB1.out.trans (hb.mono BB1.out.size))
    have P11 := Lib.hid (P0.out.below hb P0.out.lt)
    clear hb X1 BB1 P0
    rw [HC.out]
    obtain ⟨t12_0, t12_1, t12_2⟩ := X11.out.cells
    obtain ⟨p0, p1, p2, p3⟩ := P11.out.cells
    have Q1 := Lib.hid (P11.out.set0 0)
    have C1 := Lib.hid (below_set (C := U0.heap.size) (i := 0) B11.out us (.int .i64 0))
    obtain ⟨N1, hN1⟩ : ∃ W, w11.setCell ⟨U0.heap.size, 0, none⟩ (.int .i64 0) = W := ⟨_, rfl⟩
    rw [hN1] at Q1 C1
    obtain ⟨q0, q1, q2, q3⟩ := Q1.out.cells
    have Q2 := Lib.hid (Q1.out.set1 0)
    have C2 := Lib.hid (below_set (C := U0.heap.size) (i := 1) C1.out us (.int .i64 0))
    obtain ⟨N2, hN2⟩ : ∃ W, N1.setCell ⟨U0.heap.size, 1, none⟩ (.int .i64 0) = W := ⟨_, rfl⟩
    rw [hN2] at Q2 C2
    obtain ⟨z0, z1, _, _⟩ := Q2.out.cells
    go_wp2_with fail
    exact bodyPost_ret (v := .tuple #[.agg #[.int .i64 0, .int .i64 0], .bool false]) (by simp [results, Tryz.results25, go_sem, z0, z1]) rfl ⟨nx_no HV.out, C2.out⟩
  have HC := Lib.hid hz
  obtain ⟨hn, hR, _⟩ := chk_zero hz
  obtain ⟨k, hkk⟩ : ∃ k, psU f n u = k := ⟨_, rfl⟩
  have HK := Lib.hid hkk
  have hk : k ≤ n := by rw [← hkk]; exact psU_le f n u
  by_cases hlt : k < n
  case neg =>
    have HV : Hid (nxK B E f n u = false) := Lib.hid (by unfold nxK; rw [hkk, decide_eq_false hlt, Bool.and_false])
    obtain rfl : k = n := by omega
    clear hr ht hz hR hkk
    have BB0 := Lib.hid ((Below.refl w.heap.size w).alloc (Nat.le_refl _) (.cells #[.int .i64 B, .int .i64 E, .slice a k c] 24))
    have X0 := Lib.hid (tbx_new w B E a k c)
    obtain ⟨U0, hU0⟩ : ∃ W, w.alloc (.cells #[.int .i64 B, .int .i64 E, .slice a k c] 24) = W := ⟨_, rfl⟩
    rw [hU0] at BB0 X0
    have ux := X0.out.lt
    have us := BB0.out.size
    have P0 := Lib.hid (pbx_new U0 0 0)
    have X1 := Lib.hid (X0.out.alloc (.cells #[.int .i64 0, .int .i64 0] 44))
    have BB1 := Lib.hid (BB0.out.alloc us (.cells #[.int .i64 0, .int .i64 0] 44))
    obtain ⟨U1, hU1⟩ : ∃ W, U0.alloc (.cells #[.int .i64 0, .int .i64 0] 44) = W := ⟨_, rfl⟩
    rw [hU1] at P0 X1 BB1
    clear X0 BB0
    obtain ⟨t0, t1, t2⟩ := X1.out.cells
    go_enter Tryz.func25, Tryz.ntmps25
    go_wp2_with fail
    refine (lchk_any B E a k c f _ (HT.out.below BB1.out) (show LRd U1 U1.heap.size a k f from (HR.out.below BB1.out).mono BB1.out.size)).mono ?_
    rintro e w11 ⟨rfl, hb⟩
    have X11 := Lib.hid (X1.out.below hb X1.out.lt)
    have B11 := Lib.hid (BB1.out.trans (hb.mono BB1.out.size))
    have P11 := Lib.hid (P0.out.below hb P0.out.lt)
    clear hb X1 BB1 P0
    rw [HC.out]
    obtain ⟨t12_0, t12_1, t12_2⟩ := X11.out.cells
    go_wp2_with fail
    clear t12_0 t12_1 t12_2
    refine (passed_any B E a k c f u _ (show LRd w11 w11.heap.size a k f from (HR.out.below B11.out).mono B11.out.size) hn).mono ?_
    rintro e w13 ⟨rfl, hb⟩
    have X13 := Lib.hid (X11.out.below hb X11.out.lt)
    have B13 := Lib.hid (B11.out.trans (hb.mono B11.out.size))
    have P13 := Lib.hid (P11.out.below hb P11.out.lt)
    clear hb X11 B11 P11
    rw [HK.out]
    obtain ⟨t14_0, t14_1, t14_2⟩ := X13.out.cells
    obtain ⟨p0, p1, p2, p3⟩ := P13.out.cells
    have Q1 := Lib.hid (P13.out.set0 0)
    have C1 := Lib.hid (below_set (C := U0.heap.size) (i := 0) B13.out us (.int .i64 0))
    obtain ⟨N1, hN1⟩ : ∃ W, w13.setCell ⟨U0.heap.size, 0, none⟩ (.int .i64 0) = W := ⟨_, rfl⟩
    rw [hN1] at Q1 C1
    obtain ⟨q0, q1, q2, q3⟩ := Q1.out.cells
    have Q2 := Lib.hid (Q1.out.set1 0)
    have C2 := Lib.hid (below_set (C := U0.heap.size) (i := 1) C1.out us (.int .i64 0))
    obtain ⟨N2, hN2⟩ : ∃ W, N1.setCell ⟨U0.heap.size, 1, none⟩ (.int .i64 0) = W := ⟨_, rfl⟩
    rw [hN2] at Q2 C2
    obtain ⟨z0, z1, _, _⟩ := Q2.out.cells
    go_wp2_with fail
    exact bodyPost_ret (v := .tuple #[.agg #[.int .i64 0, .int .i64 0], .bool false]) (by simp [results, Tryz.results25, go_sem, z0, z1]) rfl ⟨nx_no HV.out, C2.out⟩
  have HV : Hid (nxK B E f n u = true) := Lib.hid (by unfold nxK; rw [hkk, decide_eq_true hlt, decide_eq_true hz]; rfl)
  obtain ⟨b, off, rfl, hbl⟩ := hr.some (by omega)
  have hki : (k : Int) < n := by omega
  have hne : ¬ (k : Int) = n := by omega
  have hne2 : ((k : Int) == n) = false := by simpa using hne
  obtain ⟨x, hx⟩ : ∃ x, (f k).1 = x := ⟨_, rfl⟩
  obtain ⟨y, hy⟩ : ∃ y, (f k).2 = y := ⟨_, rfl⟩
  have HX := Lib.hid hx
  have HY := Lib.hid hy
  clear hr ht hz hR hx hy hkk
  have BB0 := Lib.hid ((Below.refl w.heap.size w).alloc (Nat.le_refl _) (.cells #[.int .i64 B, .int .i64 E, .slice (some ⟨b, off, none⟩) n c] 24))
  have X0 := Lib.hid (tbx_new w B E (some ⟨b, off, none⟩) n c)
  obtain ⟨U0, hU0⟩ : ∃ W, w.alloc (.cells #[.int .i64 B, .int .i64 E, .slice (some ⟨b, off, none⟩) n c] 24) = W := ⟨_, rfl⟩
  rw [hU0] at BB0 X0
  have ux := X0.out.lt
  have us := BB0.out.size
  have P0 := Lib.hid (pbx_new U0 0 0)
  have X1 := Lib.hid (X0.out.alloc (.cells #[.int .i64 0, .int .i64 0] 44))
  have BB1 := Lib.hid (BB0.out.alloc us (.cells #[.int .i64 0, .int .i64 0] 44))
  obtain ⟨U1, hU1⟩ : ∃ W, U0.alloc (.cells #[.int .i64 0, .int .i64 0] 44) = W := ⟨_, rfl⟩
  rw [hU1] at P0 X1 BB1
  clear X0 BB0
  obtain ⟨t0, t1, t2⟩ := X1.out.cells
  go_enter Tryz.func25, Tryz.ntmps25
  go_wp2_with fail
  refine (lchk_any B E _ n c f _ (HT.out.below BB1.out) (show LRd U1 U1.heap.size (some ⟨b, off, none⟩) n f from (HR.out.below BB1.out).mono BB1.out.size)).mono ?_
  rintro e w11 ⟨rfl, hb⟩
  have X11 := Lib.hid (X1.out.below hb X1.out.lt)
  have B11 := Lib.hid (BB1.out.trans (hb.mono BB1.out.size))
  have P11 := Lib.hid (P0.out.below hb P0.out.lt)
  clear hb X1 BB1 P0
  rw [HC.out]
  obtain ⟨t12_0, t12_1, t12_2⟩ := X11.out.cells
  go_wp2_with fail
  clear t12_0 t12_1 t12_2
  refine (passed_any B E _ n c f u _ (show LRd w11 w11.heap.size (some ⟨b, off, none⟩) n f from (HR.out.below B11.out).mono B11.out.size) hn).mono ?_
  rintro e w13 ⟨rfl, hb⟩
  have X13 := Lib.hid (X11.out.below hb X11.out.lt)
  have B13 := Lib.hid (B11.out.trans (hb.mono B11.out.size))
  have P13 := Lib.hid (P11.out.below hb P11.out.lt)
  clear hb X11 B11 P11
  rw [HK.out]
  obtain ⟨t14_0, t14_1, t14_2⟩ := X13.out.cells
  obtain ⟨m1, m2⟩ := (HR.out.below B13.out).at hlt
  rw [HX.out] at m1
  rw [HY.out] at m2
  obtain ⟨p0, p1, p2, p3⟩ := P13.out.cells
  have Q1 := Lib.hid (P13.out.set0 x)
  have C1 := Lib.hid (below_set (C := U0.heap.size) (i := 0) B13.out us (.int .i64 x))
  obtain ⟨N1, hN1⟩ : ∃ W, w13.setCell ⟨U0.heap.size, 0, none⟩ (.int .i64 x) = W := ⟨_, rfl⟩
  rw [hN1] at Q1 C1
  obtain ⟨q0, q1, q2, q3⟩ := Q1.out.cells
  have Q2 := Lib.hid (Q1.out.set1 y)
  have C2 := Lib.hid (below_set (C := U0.heap.size) (i := 1) C1.out us (.int .i64 y))
  obtain ⟨N2, hN2⟩ : ∃ W, N1.setCell ⟨U0.heap.size, 1, none⟩ (.int .i64 y) = W := ⟨_, rfl⟩
  rw [hN2] at Q2 C2
  obtain ⟨z0, z1, _, _⟩ := Q2.out.cells
  go_wp2_with fail
  exact bodyPost_ret (v := .tuple #[.agg #[.int .i64 x, .int .i64 y], .bool true]) (by simp [results, Tryz.results25, go_sem, z0, z1]) rfl ⟨nx_yes HV.out (by rw [HK.out]; exact HX.out) (by rw [HK.out]; exact HY.out), C2.out⟩
end Go.Proofs.YtegpajdahanhfaaGreatDoor
