/- The walk of LeapAnnounces. -/
import Derived.Test.YtegpajdahanhfaaGreatDoorLevB
import Derived.Deep.RegionHeld3
namespace Go.Proofs.YtegpajdahanhfaaGreatDoor
open Go.RowKit Go.Shelf Fx Cv Lp Pt

theorem Lp.next_month {q : Int} (h : cd q = 1) : 12 * cy q + cm q = 12 * cy (q - 1) + cm (q - 1) + 1 := by
  obtain ⟨⟨m1, m12, d1, dm⟩, hn⟩ := civ_dat (q - 1)
  generalize cy (q - 1) = y at *
  generalize cm (q - 1) = m at *
  generalize cd (q - 1) = d at *
  have hms := ms_succ (y := y) m1 m12
  by_cases c : d < md y m
  · have := civ_num (y := y) (m := m) (d := d + 1) ⟨m1, m12, by omega, by omega⟩
    have e : num y m (d + 1) = q := by simp only [num] at hn ⊢; omega
    rw [e] at this
    omega
  · by_cases e : m = 12
    · subst e
      have b := md_bound (y := y + 1) (m := 1) (by omega) (by omega)
      have := civ_num (y := y + 1) (m := 1) (d := 1) ⟨by omega, by omega, by omega, by omega⟩
      have hy := ys_succ y
      have h13 := ms_13 y
      have h1 := ms_one (y + 1)
      have e : num (y + 1) 1 1 = q := by
        simp only [num] at hn ⊢
        rw [hy, h1, ← h13, show (13 : Int) = 12 + 1 from rfl, hms]; omega
      rw [e] at this
      omega
    · have b := md_bound (y := y) (m := m + 1) (by omega) (by omega)
      have := civ_num (y := y) (m := m + 1) (d := 1) ⟨by omega, by omega, by omega, by omega⟩
      have e : num y (m + 1) 1 = q := by
        simp only [num] at hn ⊢
        rw [hms]; omega
      rw [e] at this
      omega
theorem Lp.same_month {p q : Int} (hy : cy p = cy q) (hm : cm p = cm q) : p - q ≤ 30 ∧ q - p ≤ 30 := by
  obtain ⟨⟨m1, m12, d1, dm⟩, hn⟩ := civ_dat p
  obtain ⟨⟨_, _, d2, dm2⟩, hn2⟩ := civ_dat q
  rw [← hy, ← hm] at dm2 hn2
  have b := md_bound (y := cy p) m1 m12
  simp only [num] at hn hn2
  omega
theorem Lp.year_in {t : Int} (h : inS t = true) : 1599 ≤ oY t ∧ oY t ≤ 2200 := by
  have hb : -8000000000 ≤ t ∧ t ≤ 8000000000 := of_decide_eq_true h
  obtain ⟨c1, c2⟩ := cy_in (t / 86400)
  have a := ys_high (y := oY t) (by unfold oY; omega)
  have b := ys_low (y := oY t + 1) (by unfold oY; omega)
  omega
theorem Lp.month_in (t : Int) : 1 ≤ oM t ∧ oM t ≤ 12 := by
  obtain ⟨⟨m1, m12, _, _⟩, _⟩ := civ_dat (t / 86400)
  exact ⟨m1, m12⟩
/-- What an indicator of 1 or 2 announces. -/
theorem Lp.ann {B E : Int} {f : Nat → Int × Int} {n : Nat} {u : Int} (h : indV B E f n u = 1 ∨ indV B E f n u = 2) :
    ∃ X Y : Int, nxK B E f n u = true ∧ nxE B E f n u = (X, Y) ∧ inS u = true ∧ inS X = true ∧ 1 ≤ X - u ∧ X - u ≤ 2678400 ∧ oD X = 1 ∧ 12 * oY X + oM X - (12 * oY u + oM u) = 1 ∧
      Y - offU B E f n u = 3 - 2 * indV B E f n u ∧ u < E ∧ -1000 ≤ Y ∧ Y ≤ 1000 := by
  have hz : chkL B E f n = 0 := by
    rcases Int.decEq (chkL B E f n) 0 with c | c
    · unfold indV at h; rw [if_pos c] at h; omega
    · exact c
  have hE : ¬ E ≤ u := by
    intro c
    unfold indV at h
    rw [if_neg (by rw [hz]; decide), if_pos c] at h
    omega
  have hv := val_of hz
  have hk : psU f n u < n ∧ smo u ((f (psU f n u)).1 - 1) = true := by
    rcases Classical.em (psU f n u < n ∧ smo u ((f (psU f n u)).1 - 1) = true) with c | c
    · exact c
    · unfold indV at h
      rw [if_neg (by rw [hz]; decide), if_neg hE, if_neg c] at h
      omega
  have hI : indV B E f n u = if (f (psU f n u)).2 - offA B f (psU f n u) = 1 then 1 else 2 := by
    unfold indV; rw [if_neg (by rw [hz]; decide), if_neg hE, if_pos hk]
  obtain ⟨hkn, hs⟩ := hk
  have hx := (psU_spec f n u).2 hkn
  have hst := hv.stp _ hkn
  have hday := hv.day _ hkn
  have hbeg := hv.beg _ hkn
  have hrg := hv.rng.2.2 _ hkn
  have hnK : nxK B E f n u = true := by unfold nxK; rw [decide_eq_true hz, decide_eq_true hkn]; rfl
  have hnE : nxE B E f n u = f (psU f n u) := if_pos hnK
  have hO : offU B E f n u = offA B f (psU f n u) := if_pos hz
  rw [hnE, hO, hI]
  generalize f (psU f n u) = xy at *
  obtain ⟨X, Y⟩ := xy
  generalize offA B f (psU f n u) = o at *
  simp only at hx hst hday hbeg hrg hs ⊢
  unfold smo at hs
  simp only [Bool.and_eq_true, decide_eq_true_eq] at hs
  obtain ⟨hu, hX1, hy, hm⟩ := hs
  have hub : -8000000000 ≤ u ∧ u ≤ 8000000000 := of_decide_eq_true hu
  have hXs : inS X = true := decide_eq_true hrg.2
  have hD : oD X = 1 := by
    unfold Lp.beg at hbeg
    simp only [Bool.and_eq_true, decide_eq_true_eq] at hbeg
    exact hbeg.2.1
  have hq : (X - 1) / 86400 = X / 86400 - 1 := by omega
  have hnm := next_month (q := X / 86400) hD
  rw [← hq] at hnm
  have hsm := same_month (p := u / 86400) (q := (X - 1) / 86400) hy hm
  refine ⟨X, Y, hnK, rfl, hu, hXs, by omega, by omega, hD, ?_, ?_, by omega, hrg.1.1, hrg.1.2⟩
  · unfold oY oM at *; omega
  · rcases hst with c | c
    · rw [if_pos c]; omega
    · rw [if_neg (by omega)]; omega
theorem Lp.ind_other {B E : Int} {f : Nat → Int × Int} {n : Nat} {u : Int} (h1 : indV B E f n u ≠ 1) (h2 : indV B E f n u ≠ 2) : indV B E f n u = 0 ∨ (indV B E f n u = 3 ∧ E ≤ u) := by
  unfold indV at *
  split
  · exact .inl rfl
  · split
    · exact .inr ⟨rfl, by assumption⟩
    · split
      · rename_i a b c
        rw [if_neg a, if_neg b, if_pos c] at h1 h2
        split at h1 <;> omega
      · exact .inl rfl
theorem lind_v {B E : Int} {a : Option Addr} {n c : Nat} {f : Nat → Int × Int} {u V : Int} (hV : indV B E f n u = V) (w : World) (ht : MT w) (hr : LRd w w.heap.size a n f) :
    Calls Tryz.prog 24 #[.agg #[.int .i64 B, .int .i64 E, .slice a n c], .int .i64 u] w fun e w' => e = .returned (.int .i64 V) ∧ Below w.heap.size w w' := by
  subst hV; exact lind_any B E a n c f u w ht hr
theorem lnext_v {B E : Int} {a : Option Addr} {n c : Nat} {f : Nat → Int × Int} {u X Y : Int} (hK : nxK B E f n u = true) (hE : nxE B E f n u = (X, Y)) (w : World) (ht : MT w) (hr : LRd w w.heap.size a n f) :
    Calls Tryz.prog 25 #[.agg #[.int .i64 B, .int .i64 E, .slice a n c], .int .i64 u] w fun e w' => e = .returned (.tuple #[.agg #[.int .i64 X, .int .i64 Y], .bool true]) ∧ Below w.heap.size w w' := by
  have := lnext_any B E a n c f u w ht hr
  rw [hK, hE] at this
  exact this
theorem Lp.Lw.drew' {w v : World} {G : Nat} {B E : Int} {a : Option Addr} {n c : Nat} {f : Nat → Int × Int} (h : Lw w v G B E a n c f) : Lw w v.drew G B E a n c f :=
  ⟨h.box, h.lrd, h.mt, h.tab, h.errs, h.bel.drew⟩

set_option maxRecDepth 100000 in
set_option linter.unusedVariables false in
theorem ann_large (B E : Int) (a : Option Addr) (n c : Nat) (f : Nat → Int × Int) (u : Int) (w : World) (ht : MT w) (hp : Tab w) (he : Errs w) (hr : LRd w w.heap.size a n f) (tb0 : -9223372036854775808 ≤ u) (tb1 : u ≤ 9223372036854775807) (hn : ¬ n ≤ 70) :
    Calls Tryz.prog 9 #[.agg #[.int .i64 B, .int .i64 E, .slice a n c], .int .i64 u] w fun e w' => e = .returned (.bool true) ∧ Below w.heap.size w w' := by
  have HN := Lib.hid (decide_eq_false hn)
  clear hn
  have S0' := Lib.hid (lw_new w B E a n c f hr ht hp he)
  clear ht hp he hr
  obtain ⟨v0, hv0⟩ : ∃ v, w.alloc (.cells #[.int .i64 B, .int .i64 E, .slice a n c] 24) = v := ⟨_, rfl⟩
  obtain ⟨G, hG⟩ : ∃ G, w.heap.size = G := ⟨_, rfl⟩
  have S0 : Hid (Lw w v0 G B E a n c f) := Lib.hid (by rw [← hv0, ← hG]; exact S0'.out)
  clear S0'
  obtain ⟨t0', t1', t2'⟩ := S0.out.cells
  go_enter Tryz.func9, Tryz.ntmps9
  go_wp2_with fail
  refine (small6_v HN.out v0).mono ?_
  rintro e v1 ⟨rfl, hbl⟩
  have S1 := Lib.hid (S0.out.below hbl)
  clear hbl S0 t0' t1' t2' hv0 hG
  obtain ⟨t0, t1, t2⟩ := S1.out.cells
  go_wp2_with fail
  refine (awake6_any v1 S1.out.mt S1.out.tab S1.out.errs).mono ?_
  rintro e v2 ⟨rfl, hbl⟩
  have S2 := Lib.hid (S1.out.below hbl)
  go_wp2_with fail
  go_ret
  exact ⟨rfl, S2.out.bel⟩

set_option maxRecDepth 100000 in
set_option linter.unusedVariables false in
theorem ann_0 (B E : Int) (a : Option Addr) (n c : Nat) (f : Nat → Int × Int) (u : Int) (w : World) (ht : MT w) (hp : Tab w) (he : Errs w) (hr : LRd w w.heap.size a n f) (tb0 : -9223372036854775808 ≤ u) (tb1 : u ≤ 9223372036854775807) (hn : n ≤ 70) (hi : indV B E f n u = 0) :
    Calls Tryz.prog 9 #[.agg #[.int .i64 B, .int .i64 E, .slice a n c], .int .i64 u] w fun e w' => e = .returned (.bool true) ∧ Below w.heap.size w w' := by
  have HN := Lib.hid (decide_eq_true hn)
  have HI := Lib.hid hi
  clear hn hi
  have S0' := Lib.hid (lw_new w B E a n c f hr ht hp he)
  clear ht hp he hr
  obtain ⟨v0, hv0⟩ : ∃ v, w.alloc (.cells #[.int .i64 B, .int .i64 E, .slice a n c] 24) = v := ⟨_, rfl⟩
  obtain ⟨G, hG⟩ : ∃ G, w.heap.size = G := ⟨_, rfl⟩
  have S0 : Hid (Lw w v0 G B E a n c f) := Lib.hid (by rw [← hv0, ← hG]; exact S0'.out)
  clear S0'
  obtain ⟨t0', t1', t2'⟩ := S0.out.cells
  go_enter Tryz.func9, Tryz.ntmps9
  go_wp2_with fail
  refine (small6_v HN.out v0).mono ?_
  rintro e v1 ⟨rfl, hbl⟩
  have S1 := Lib.hid (S0.out.below hbl)
  clear hbl S0 t0' t1' t2' hv0 hG
  obtain ⟨t0, t1, t2⟩ := S1.out.cells
  go_wp2_with fail
  refine (lind_v HI.out v1 S1.out.mt S1.out.lrd).mono ?_
  rintro e v2 ⟨rfl, hbl⟩
  have S2 := Lib.hid (S1.out.below hbl)
  clear hbl S1 t0 t1 t2
  obtain ⟨t0, t1, t2⟩ := S2.out.cells
  go_wp2_with fail
  refine (awake6_any v2 S2.out.mt S2.out.tab S2.out.errs).mono ?_
  rintro e v3 ⟨rfl, hbl⟩
  have S3 := Lib.hid (S2.out.below hbl)
  go_wp2_with fail
  go_ret
  exact ⟨rfl, S3.out.bel⟩

set_option maxRecDepth 100000 in
set_option linter.unusedVariables false in
theorem ann_3 (B E : Int) (a : Option Addr) (n c : Nat) (f : Nat → Int × Int) (u : Int) (w : World) (ht : MT w) (hp : Tab w) (he : Errs w) (hr : LRd w w.heap.size a n f) (tb0 : -9223372036854775808 ≤ u) (tb1 : u ≤ 9223372036854775807) (hn : n ≤ 70) (hi : indV B E f n u = 3) (hE : E ≤ u) :
    Calls Tryz.prog 9 #[.agg #[.int .i64 B, .int .i64 E, .slice a n c], .int .i64 u] w fun e w' => e = .returned (.bool true) ∧ Below w.heap.size w w' := by
  have HN := Lib.hid (decide_eq_true hn)
  have HI := Lib.hid hi
  clear hn hi
  have S0' := Lib.hid (lw_new w B E a n c f hr ht hp he)
  clear ht hp he hr
  obtain ⟨v0, hv0⟩ : ∃ v, w.alloc (.cells #[.int .i64 B, .int .i64 E, .slice a n c] 24) = v := ⟨_, rfl⟩
  obtain ⟨G, hG⟩ : ∃ G, w.heap.size = G := ⟨_, rfl⟩
  have S0 : Hid (Lw w v0 G B E a n c f) := Lib.hid (by rw [← hv0, ← hG]; exact S0'.out)
  clear S0'
  obtain ⟨t0', t1', t2'⟩ := S0.out.cells
  go_enter Tryz.func9, Tryz.ntmps9
  go_wp2_with fail
  refine (small6_v HN.out v0).mono ?_
  rintro e v1 ⟨rfl, hbl⟩
  have S1 := Lib.hid (S0.out.below hbl)
  clear hbl S0 t0' t1' t2' hv0 hG
  obtain ⟨t0, t1, t2⟩ := S1.out.cells
  go_wp2_with fail
  refine (lind_v HI.out v1 S1.out.mt S1.out.lrd).mono ?_
  rintro e v2 ⟨rfl, hbl⟩
  have S2 := Lib.hid (S1.out.below hbl)
  clear hbl S1 t0 t1 t2
  obtain ⟨t0, t1, t2⟩ := S2.out.cells
  go_wp2_with fail
  refine (awake6_any v2 S2.out.mt S2.out.tab S2.out.errs).mono ?_
  rintro e v3 ⟨rfl, hbl⟩
  have S3 := Lib.hid (S2.out.below hbl)
  go_wp2_with fail
  go_ret
  exact ⟨rfl, S3.out.bel⟩

set_option maxRecDepth 100000 in
set_option linter.unusedVariables false in
theorem ann_i1 (B E : Int) (a : Option Addr) (n c : Nat) (f : Nat → Int × Int) (u : Int) (w : World) (ht : MT w) (hp : Tab w) (he : Errs w) (hr : LRd w w.heap.size a n f) (tb0 : -9223372036854775808 ≤ u) (tb1 : u ≤ 9223372036854775807) (hn : n ≤ 70) (hi : indV B E f n u = 1) :
    Calls Tryz.prog 9 #[.agg #[.int .i64 B, .int .i64 E, .slice a n c], .int .i64 u] w fun e w' => e = .returned (.bool true) ∧ Below w.heap.size w w' := by
  have HN := Lib.hid (decide_eq_true hn)
  obtain ⟨X, Y, kK, kE, hu, hX, x1, x2, hD, hm, ho, hE, yb0, yb1⟩ := ann (B := B) (E := E) (f := f) (n := n) (u := u) (by omega)
  rw [hi] at ho
  have HI := Lib.hid hi
  have HKK := Lib.hid kK
  have HKE := Lib.hid kE
  have HSU := Lib.hid hu
  have HSX := Lib.hid hX
  have ub : -8000000000 ≤ u ∧ u ≤ 8000000000 := of_decide_eq_true hu
  have xb : -8000000000 ≤ X ∧ X ≤ 8000000000 := of_decide_eq_true hX
  obtain ⟨ub0, ub1⟩ := ub
  obtain ⟨xb0, xb1⟩ := xb
  have yu := year_in hu
  have yX := year_in hX
  have mu := month_in u
  have mX := month_in X
  obtain ⟨D1, hD1⟩ : ∃ D, oD u = D := ⟨_, rfl⟩
  obtain ⟨Y1, hY1⟩ : ∃ D, oY u = D := ⟨_, rfl⟩
  obtain ⟨M1, hM1⟩ : ∃ D, oM u = D := ⟨_, rfl⟩
  obtain ⟨Y2, hY2⟩ : ∃ D, oY X = D := ⟨_, rfl⟩
  obtain ⟨M2, hM2⟩ : ∃ D, oM X = D := ⟨_, rfl⟩
  have HOU : Hid (oD u = D1 ∧ oY u = Y1 ∧ oM u = M1) := Lib.hid ⟨hD1, hY1, hM1⟩
  have HOX : Hid (oD X = 1 ∧ oY X = Y2 ∧ oM X = M2) := Lib.hid ⟨hD, hY2, hM2⟩
  rw [hY1, hY2, hM1, hM2] at hm
  rw [hY1] at yu
  rw [hY2] at yX
  rw [hM1] at mu
  rw [hM2] at mX
  obtain ⟨yu0, yu1⟩ := yu
  obtain ⟨yX0, yX1⟩ := yX
  obtain ⟨mu0, mu1⟩ := mu
  obtain ⟨mX0, mX1⟩ := mX
  have km : (12 * Y2 + M2 - (12 * Y1 + M1) != 1) = false := by simp; omega
  have k1 : ¬ (2678400 : Int) < X - u := by omega
  have k1' : decide ((2678400 : Int) < X - u) = false := decide_eq_false k1
  have k2 : ¬ X - u < 1 := by omega
  have k2' : decide (X - u < 1) = false := decide_eq_false k2
  have k3 : ¬ u < -8000000000 := by omega
  have k3' : decide (u < -8000000000) = false := decide_eq_false k3
  have k4 : IntKind.i64.wrap (Y - offU B E f n u) = 1 := by rw [IntWalk.i64_in _ (by omega)]; omega
  have k5 : decide (u < E) = true := decide_eq_true hE
  clear hn hi kK kE hu hX hD hD1 hY1 hM1 hY2 hM2 ho hm
  have S0' := Lib.hid (lw_new w B E a n c f hr ht hp he)
  clear ht hp he hr
  obtain ⟨v0, hv0⟩ : ∃ v, w.alloc (.cells #[.int .i64 B, .int .i64 E, .slice a n c] 24) = v := ⟨_, rfl⟩
  obtain ⟨G, hG⟩ : ∃ G, w.heap.size = G := ⟨_, rfl⟩
  have S0 : Hid (Lw w v0 G B E a n c f) := Lib.hid (by rw [← hv0, ← hG]; exact S0'.out)
  clear S0'
  obtain ⟨t0', t1', t2'⟩ := S0.out.cells
  go_enter Tryz.func9, Tryz.ntmps9
  go_wp2_with fail
  refine (small6_v HN.out v0).mono ?_
  rintro e v1 ⟨rfl, hbl⟩
  have S1 := Lib.hid (S0.out.below hbl)
  clear hbl S0 t0' t1' t2' hv0 hG
  obtain ⟨t0, t1, t2⟩ := S1.out.cells
  go_wp2_with fail
  refine (lind_v HI.out v1 S1.out.mt S1.out.lrd).mono ?_
  rintro e v2 ⟨rfl, hbl⟩
  have S2 := Lib.hid (S1.out.below hbl)
  clear hbl S1 t0 t1 t2
  obtain ⟨t0, t1, t2⟩ := S2.out.cells
  go_wp2_with fail
  refine (lnext_v HKK.out HKE.out v2 S2.out.mt S2.out.lrd).mono ?_
  rintro e v3 ⟨rfl, hbl⟩
  have S3 := Lib.hid (S2.out.below hbl)
  clear hbl S2 t0 t1 t2
  obtain ⟨t0, t1, t2⟩ := S3.out.cells
  obtain ⟨g, hg⟩ : ∃ g, v3.heap.size = g := ⟨_, rfl⟩
  obtain ⟨V, hV⟩ : ∃ V, v3.alloc (.cells #[.int .i64 X, .int .i64 Y] 44) = V := ⟨_, rfl⟩
  have HP := Lib.hid (show PBx V g X Y by rw [← hV, ← hg]; exact pbx_new v3 X Y)
  have SV := Lib.hid (show Lw w V G B E a n c f by rw [← hV]; exact S3.out.below ((Below.refl _ _).alloc (Nat.le_refl _) _))
  obtain ⟨p0, p1, _, _⟩ := HP.out.cells
  go_wp2_with fail
  clear hV hg t0 t1 t2 p0 p1 S3
  refine (pof_ok u V SV.out.mt HSU.out).mono ?_
  rintro e x5 ⟨rfl, hb⟩
  rw [HOU.out.1, HOU.out.2.1, HOU.out.2.2]
  have S5 := Lib.hid (SV.out.below hb)
  have HP5 := Lib.hid (HP.out.below hb HP.out.lt)
  clear hb SV HP
  obtain ⟨hh, hhh⟩ : ∃ hh, oH u = hh := ⟨_, rfl⟩
  obtain ⟨mi, hmi⟩ : ∃ hh, oI u = hh := ⟨_, rfl⟩
  obtain ⟨ss, hss⟩ : ∃ hh, oS u = hh := ⟨_, rfl⟩
  rw [hhh, hmi, hss]
  clear hhh hmi hss
  obtain ⟨h, hh5⟩ : ∃ g, x5.heap.size = g := ⟨_, rfl⟩
  have hbU : Below x5.heap.size x5 (x5.alloc (.cells #[.int .i64 Y1, .int .i64 M1, .int .i64 D1, .int .i64 hh, .int .i64 mi, .int .i64 ss, .int .i64 0] 48)) := (Below.refl _ _).alloc (Nat.le_refl _) _
  have HQ := Lib.hid (show Bx7 (x5.alloc (.cells #[.int .i64 Y1, .int .i64 M1, .int .i64 D1, .int .i64 hh, .int .i64 mi, .int .i64 ss, .int .i64 0] 48)) h Y1 M1 D1 hh mi ss 0 by rw [← hh5]; exact bx7_new x5 _ _ _ _ _ _ _)
  have HPU := Lib.hid (HP5.out.below hbU HP5.out.lt)
  have SU := Lib.hid (S5.out.below hbU)
  obtain ⟨p0, p1, _, _⟩ := HPU.out.cells
  clear hbU
  go_wp2_with fail
  clear hh5 p0 p1 S5 HP5
  refine (pof_ok X _ SU.out.mt HSX.out).mono ?_
  rintro e x7 ⟨rfl, hb⟩
  rw [HOX.out.1, HOX.out.2.1, HOX.out.2.2]
  have S7 := Lib.hid (SU.out.below hb)
  have HP7 := Lib.hid (HPU.out.below hb HPU.out.lt)
  have HQ7 := Lib.hid (HQ.out.below hb HQ.out.lt)
  clear hb SU HPU HQ
  obtain ⟨h2, hhh⟩ : ∃ hh, oH X = hh := ⟨_, rfl⟩
  obtain ⟨mi2, hmi⟩ : ∃ hh, oI X = hh := ⟨_, rfl⟩
  obtain ⟨ss2, hss⟩ : ∃ hh, oS X = hh := ⟨_, rfl⟩
  rw [hhh, hmi, hss]
  clear hhh hmi hss
  obtain ⟨h7, hh7⟩ : ∃ g, x7.heap.size = g := ⟨_, rfl⟩
  obtain ⟨Z, hZ⟩ : ∃ V, x7.alloc (.cells #[.int .i64 Y2, .int .i64 M2, .int .i64 1, .int .i64 h2, .int .i64 mi2, .int .i64 ss2, .int .i64 0] 48) = V := ⟨_, rfl⟩
  have hbZ : Below x7.heap.size x7 Z := by rw [← hZ]; exact (Below.refl _ _).alloc (Nat.le_refl _) _
  have HR := Lib.hid (show Bx7 Z h7 Y2 M2 1 h2 mi2 ss2 0 by rw [← hZ, ← hh7]; exact bx7_new x7 _ _ _ _ _ _ _)
  have HZZ := Lib.hid hZ
  have HPZ := Lib.hid (HP7.out.below hbZ HP7.out.lt)
  have HQZ := Lib.hid (HQ7.out.below hbZ HQ7.out.lt)
  have SZ := Lib.hid (S7.out.below hbZ)
  have HPZ' := HPZ
  have HQZ' := HQZ
  have SZ' := SZ
  rw [← hZ] at HPZ' HQZ' SZ'
  obtain ⟨p0, p1, _, _⟩ := HPZ'.out.cells
  obtain ⟨q0, q1, q2, _, _, _, _⟩ := HQZ'.out.cells
  obtain ⟨t0, t1, t2⟩ := SZ'.out.cells
  clear hbZ hZ
  go_wp2_with fail
  rw [HZZ.out]
  clear hh7 q0 q1 q2 S7 HP7 HQ7 p0 p1 t0 t1 t2 HPZ' HQZ' SZ'
  obtain ⟨p0, p1, _, _⟩ := HPZ.out.cells
  obtain ⟨t0, t1, t2⟩ := SZ.out.cells
  have SZd := Lib.hid SZ.out.drew'
  go_region_held3 (fun w' => w'.cell? ⟨G, 0, none⟩ = some (.int .i64 B) ∧ w'.cell? ⟨G, 1, none⟩ = some (.int .i64 E) ∧ w'.cell? ⟨G, 2, none⟩ = some (.slice a n c) ∧ w'.cell? ⟨g, 1, none⟩ = some (.int .i64 Y)) (go_keep)
    (first
      | (go_at_call 18; refine (loffset_any B E a n c f _ _ ?_ ?_).mono ?_; exact SZd.out.mt; exact SZd.out.lrd; rintro e va ⟨rfl, hbl⟩; have SA := Lib.hid (SZd.out.below hbl); have HPA := Lib.hid (HPZ.out.below (show Below Z.heap.size Z va from ⟨hbl.os, hbl.tape, hbl.output, hbl.size, hbl.block⟩) HPZ.out.lt); clear hbl SZd HPZ; obtain ⟨y0, y1, y2⟩ := SA.out.cells; obtain ⟨z0, z1, _, _⟩ := HPA.out.cells; clear t0 t1 t2 p0 p1)
      | (go_at_call 11; refine (awake6_any _ ?_ ?_ ?_).mono ?_; exact SA.out.mt; exact SA.out.tab; exact SA.out.errs; rintro e vb ⟨rfl, hbl⟩; have SB2 := Lib.hid (SA.out.below hbl); have HPB := Lib.hid (HPA.out.below hbl HPA.out.lt); clear hbl; obtain ⟨x0, x1', x2'⟩ := SB2.out.cells; obtain ⟨s0, s1, _, _⟩ := HPB.out.cells; clear y0 y1 y2 z0 z1))
  go_wp2_with fail
  go_ret
  exact ⟨rfl, SB2.out.bel⟩

set_option maxRecDepth 100000 in
set_option linter.unusedVariables false in
theorem ann_i2 (B E : Int) (a : Option Addr) (n c : Nat) (f : Nat → Int × Int) (u : Int) (w : World) (ht : MT w) (hp : Tab w) (he : Errs w) (hr : LRd w w.heap.size a n f) (tb0 : -9223372036854775808 ≤ u) (tb1 : u ≤ 9223372036854775807) (hn : n ≤ 70) (hi : indV B E f n u = 2) :
    Calls Tryz.prog 9 #[.agg #[.int .i64 B, .int .i64 E, .slice a n c], .int .i64 u] w fun e w' => e = .returned (.bool true) ∧ Below w.heap.size w w' := by
  have HN := Lib.hid (decide_eq_true hn)
  obtain ⟨X, Y, kK, kE, hu, hX, x1, x2, hD, hm, ho, hE, yb0, yb1⟩ := ann (B := B) (E := E) (f := f) (n := n) (u := u) (by omega)
  rw [hi] at ho
  have HI := Lib.hid hi
  have HKK := Lib.hid kK
  have HKE := Lib.hid kE
  have HSU := Lib.hid hu
  have HSX := Lib.hid hX
  have ub : -8000000000 ≤ u ∧ u ≤ 8000000000 := of_decide_eq_true hu
  have xb : -8000000000 ≤ X ∧ X ≤ 8000000000 := of_decide_eq_true hX
  obtain ⟨ub0, ub1⟩ := ub
  obtain ⟨xb0, xb1⟩ := xb
  have yu := year_in hu
  have yX := year_in hX
  have mu := month_in u
  have mX := month_in X
  obtain ⟨D1, hD1⟩ : ∃ D, oD u = D := ⟨_, rfl⟩
  obtain ⟨Y1, hY1⟩ : ∃ D, oY u = D := ⟨_, rfl⟩
  obtain ⟨M1, hM1⟩ : ∃ D, oM u = D := ⟨_, rfl⟩
  obtain ⟨Y2, hY2⟩ : ∃ D, oY X = D := ⟨_, rfl⟩
  obtain ⟨M2, hM2⟩ : ∃ D, oM X = D := ⟨_, rfl⟩
  have HOU : Hid (oD u = D1 ∧ oY u = Y1 ∧ oM u = M1) := Lib.hid ⟨hD1, hY1, hM1⟩
  have HOX : Hid (oD X = 1 ∧ oY X = Y2 ∧ oM X = M2) := Lib.hid ⟨hD, hY2, hM2⟩
  rw [hY1, hY2, hM1, hM2] at hm
  rw [hY1] at yu
  rw [hY2] at yX
  rw [hM1] at mu
  rw [hM2] at mX
  obtain ⟨yu0, yu1⟩ := yu
  obtain ⟨yX0, yX1⟩ := yX
  obtain ⟨mu0, mu1⟩ := mu
  obtain ⟨mX0, mX1⟩ := mX
  have km : (12 * Y2 + M2 - (12 * Y1 + M1) != 1) = false := by simp; omega
  have k1 : ¬ (2678400 : Int) < X - u := by omega
  have k1' : decide ((2678400 : Int) < X - u) = false := decide_eq_false k1
  have k2 : ¬ X - u < 1 := by omega
  have k2' : decide (X - u < 1) = false := decide_eq_false k2
  have k3 : ¬ u < -8000000000 := by omega
  have k3' : decide (u < -8000000000) = false := decide_eq_false k3
  have k4 : IntKind.i64.wrap (Y - offU B E f n u) = -1 := by rw [IntWalk.i64_in _ (by omega)]; omega
  have k5 : decide (u < E) = true := decide_eq_true hE
  clear hn hi kK kE hu hX hD hD1 hY1 hM1 hY2 hM2 ho hm
  have S0' := Lib.hid (lw_new w B E a n c f hr ht hp he)
  clear ht hp he hr
  obtain ⟨v0, hv0⟩ : ∃ v, w.alloc (.cells #[.int .i64 B, .int .i64 E, .slice a n c] 24) = v := ⟨_, rfl⟩
  obtain ⟨G, hG⟩ : ∃ G, w.heap.size = G := ⟨_, rfl⟩
  have S0 : Hid (Lw w v0 G B E a n c f) := Lib.hid (by rw [← hv0, ← hG]; exact S0'.out)
  clear S0'
  obtain ⟨t0', t1', t2'⟩ := S0.out.cells
  go_enter Tryz.func9, Tryz.ntmps9
  go_wp2_with fail
  refine (small6_v HN.out v0).mono ?_
  rintro e v1 ⟨rfl, hbl⟩
  have S1 := Lib.hid (S0.out.below hbl)
  clear hbl S0 t0' t1' t2' hv0 hG
  obtain ⟨t0, t1, t2⟩ := S1.out.cells
  go_wp2_with fail
  refine (lind_v HI.out v1 S1.out.mt S1.out.lrd).mono ?_
  rintro e v2 ⟨rfl, hbl⟩
  have S2 := Lib.hid (S1.out.below hbl)
  clear hbl S1 t0 t1 t2
  obtain ⟨t0, t1, t2⟩ := S2.out.cells
  go_wp2_with fail
  refine (lnext_v HKK.out HKE.out v2 S2.out.mt S2.out.lrd).mono ?_
  rintro e v3 ⟨rfl, hbl⟩
  have S3 := Lib.hid (S2.out.below hbl)
  clear hbl S2 t0 t1 t2
  obtain ⟨t0, t1, t2⟩ := S3.out.cells
  obtain ⟨g, hg⟩ : ∃ g, v3.heap.size = g := ⟨_, rfl⟩
  obtain ⟨V, hV⟩ : ∃ V, v3.alloc (.cells #[.int .i64 X, .int .i64 Y] 44) = V := ⟨_, rfl⟩
  have HP := Lib.hid (show PBx V g X Y by rw [← hV, ← hg]; exact pbx_new v3 X Y)
  have SV := Lib.hid (show Lw w V G B E a n c f by rw [← hV]; exact S3.out.below ((Below.refl _ _).alloc (Nat.le_refl _) _))
  obtain ⟨p0, p1, _, _⟩ := HP.out.cells
  go_wp2_with fail
  clear hV hg t0 t1 t2 p0 p1 S3
  refine (pof_ok u V SV.out.mt HSU.out).mono ?_
  rintro e x5 ⟨rfl, hb⟩
  rw [HOU.out.1, HOU.out.2.1, HOU.out.2.2]
  have S5 := Lib.hid (SV.out.below hb)
  have HP5 := Lib.hid (HP.out.below hb HP.out.lt)
  clear hb SV HP
  obtain ⟨hh, hhh⟩ : ∃ hh, oH u = hh := ⟨_, rfl⟩
  obtain ⟨mi, hmi⟩ : ∃ hh, oI u = hh := ⟨_, rfl⟩
  obtain ⟨ss, hss⟩ : ∃ hh, oS u = hh := ⟨_, rfl⟩
  rw [hhh, hmi, hss]
  clear hhh hmi hss
  obtain ⟨h, hh5⟩ : ∃ g, x5.heap.size = g := ⟨_, rfl⟩
  have hbU : Below x5.heap.size x5 (x5.alloc (.cells #[.int .i64 Y1, .int .i64 M1, .int .i64 D1, .int .i64 hh, .int .i64 mi, .int .i64 ss, .int .i64 0] 48)) := (Below.refl _ _).alloc (Nat.le_refl _) _
  have HQ := Lib.hid (show Bx7 (x5.alloc (.cells #[.int .i64 Y1, .int .i64 M1, .int .i64 D1, .int .i64 hh, .int .i64 mi, .int .i64 ss, .int .i64 0] 48)) h Y1 M1 D1 hh mi ss 0 by rw [← hh5]; exact bx7_new x5 _ _ _ _ _ _ _)
  have HPU := Lib.hid (HP5.out.below hbU HP5.out.lt)
  have SU := Lib.hid (S5.out.below hbU)
  obtain ⟨p0, p1, _, _⟩ := HPU.out.cells
  clear hbU
  go_wp2_with fail
  clear hh5 p0 p1 S5 HP5
  refine (pof_ok X _ SU.out.mt HSX.out).mono ?_
  rintro e x7 ⟨rfl, hb⟩
  rw [HOX.out.1, HOX.out.2.1, HOX.out.2.2]
  have S7 := Lib.hid (SU.out.below hb)
  have HP7 := Lib.hid (HPU.out.below hb HPU.out.lt)
  have HQ7 := Lib.hid (HQ.out.below hb HQ.out.lt)
  clear hb SU HPU HQ
  obtain ⟨h2, hhh⟩ : ∃ hh, oH X = hh := ⟨_, rfl⟩
  obtain ⟨mi2, hmi⟩ : ∃ hh, oI X = hh := ⟨_, rfl⟩
  obtain ⟨ss2, hss⟩ : ∃ hh, oS X = hh := ⟨_, rfl⟩
  rw [hhh, hmi, hss]
  clear hhh hmi hss
  obtain ⟨h7, hh7⟩ : ∃ g, x7.heap.size = g := ⟨_, rfl⟩
  obtain ⟨Z, hZ⟩ : ∃ V, x7.alloc (.cells #[.int .i64 Y2, .int .i64 M2, .int .i64 1, .int .i64 h2, .int .i64 mi2, .int .i64 ss2, .int .i64 0] 48) = V := ⟨_, rfl⟩
  have hbZ : Below x7.heap.size x7 Z := by rw [← hZ]; exact (Below.refl _ _).alloc (Nat.le_refl _) _
  have HR := Lib.hid (show Bx7 Z h7 Y2 M2 1 h2 mi2 ss2 0 by rw [← hZ, ← hh7]; exact bx7_new x7 _ _ _ _ _ _ _)
  have HZZ := Lib.hid hZ
  have HPZ := Lib.hid (HP7.out.below hbZ HP7.out.lt)
  have HQZ := Lib.hid (HQ7.out.below hbZ HQ7.out.lt)
  have SZ := Lib.hid (S7.out.below hbZ)
  have HPZ' := HPZ
  have HQZ' := HQZ
  have SZ' := SZ
  rw [← hZ] at HPZ' HQZ' SZ'
  obtain ⟨p0, p1, _, _⟩ := HPZ'.out.cells
  obtain ⟨q0, q1, q2, _, _, _, _⟩ := HQZ'.out.cells
  obtain ⟨t0, t1, t2⟩ := SZ'.out.cells
  clear hbZ hZ
  go_wp2_with fail
  rw [HZZ.out]
  clear hh7 q0 q1 q2 S7 HP7 HQ7 p0 p1 t0 t1 t2 HPZ' HQZ' SZ'
  obtain ⟨p0, p1, _, _⟩ := HPZ.out.cells
  obtain ⟨t0, t1, t2⟩ := SZ.out.cells
  have SZd := Lib.hid SZ.out.drew'
  go_region_held3 (fun w' => w'.cell? ⟨G, 0, none⟩ = some (.int .i64 B) ∧ w'.cell? ⟨G, 1, none⟩ = some (.int .i64 E) ∧ w'.cell? ⟨G, 2, none⟩ = some (.slice a n c) ∧ w'.cell? ⟨g, 1, none⟩ = some (.int .i64 Y)) (go_keep)
    (first
      | (go_at_call 18; refine (loffset_any B E a n c f _ _ ?_ ?_).mono ?_; exact SZd.out.mt; exact SZd.out.lrd; rintro e va ⟨rfl, hbl⟩; have SA := Lib.hid (SZd.out.below hbl); have HPA := Lib.hid (HPZ.out.below (show Below Z.heap.size Z va from ⟨hbl.os, hbl.tape, hbl.output, hbl.size, hbl.block⟩) HPZ.out.lt); clear hbl SZd HPZ; obtain ⟨y0, y1, y2⟩ := SA.out.cells; obtain ⟨z0, z1, _, _⟩ := HPA.out.cells; clear t0 t1 t2 p0 p1)
      | (go_at_call 11; refine (awake6_any _ ?_ ?_ ?_).mono ?_; exact SA.out.mt; exact SA.out.tab; exact SA.out.errs; rintro e vb ⟨rfl, hbl⟩; have SB2 := Lib.hid (SA.out.below hbl); have HPB := Lib.hid (HPA.out.below hbl HPA.out.lt); clear hbl; obtain ⟨x0, x1', x2'⟩ := SB2.out.cells; obtain ⟨s0, s1, _, _⟩ := HPB.out.cells; clear y0 y1 y2 z0 z1))
  go_wp2_with fail
  go_ret
  exact ⟨rfl, SB2.out.bel⟩

theorem announces_law (B E : Int) (a : Option Addr) (n c : Nat) (f : Nat → Int × Int) (u : Int) (w : World) (ht : MT w) (hp : Tab w) (he : Errs w) (hr : LRd w w.heap.size a n f) (t0 : -9223372036854775808 ≤ u) (t1 : u ≤ 9223372036854775807) :
    Calls Tryz.prog 9 #[.agg #[.int .i64 B, .int .i64 E, .slice a n c], .int .i64 u] w fun e w' => e = .returned (.bool true) ∧ Below w.heap.size w w' := by
  by_cases hn : n ≤ 70
  · by_cases h1 : indV B E f n u = 1
    · exact ann_i1 B E a n c f u w ht hp he hr t0 t1 hn h1
    · by_cases h2 : indV B E f n u = 2
      · exact ann_i2 B E a n c f u w ht hp he hr t0 t1 hn h2
      · rcases ind_other h1 h2 with h | ⟨h, hE⟩
        · exact ann_0 B E a n c f u w ht hp he hr t0 t1 hn h
        · exact ann_3 B E a n c f u w ht hp he hr t0 t1 hn h hE
  · exact ann_large B E a n c f u w ht hp he hr t0 t1 hn
end Go.Proofs.YtegpajdahanhfaaGreatDoor
