/- Contracts of layer 6: the program's Check. -/
import Derived.Test.YtegpajdahanhfaaGreatDoorLeaB
namespace Go.Proofs.YtegpajdahanhfaaGreatDoor
open Go.RowKit Fx Cv Lp

/-- Block G is the box of an entry. -/
def Lp.PBx (w : World) (G : Nat) (x y : Int) : Prop := w.heap[G]? = some (.cells #[.int .i64 x, .int .i64 y] 44 (0, 0))
theorem Lp.PBx.lt {w : World} {G : Nat} {x y : Int} (h : PBx w G x y) : G < w.heap.size := by
  rcases Nat.lt_or_ge G w.heap.size with hlt | hge
  · exact hlt
  · unfold PBx at h; rw [Array.getElem?_eq_none hge] at h; cases h
theorem Lp.PBx.cells {w : World} {G : Nat} {x y : Int} (h : PBx w G x y) : w.cell? ⟨G, 0, none⟩ = some (.int .i64 x) ∧ w.cell? ⟨G, 1, none⟩ = some (.int .i64 y) ∧ w.frozen? ⟨G, 0, none⟩ = false ∧ w.frozen? ⟨G, 1, none⟩ = false := by
  unfold PBx at h; simp [World.cell?, World.frozen?, h]
theorem Lp.pbx_new (w : World) (x y : Int) : PBx (w.alloc (.cells #[.int .i64 x, .int .i64 y] 44)) w.heap.size x y := heap_alloc_new w _
theorem Lp.PBx.set0 {w : World} {G : Nat} {x y : Int} (h : PBx w G x y) (v : Int) : PBx (w.setCell ⟨G, 0, none⟩ (.int .i64 v)) G v y := by
  unfold PBx at *; simp [World.setCell, Array.getElem?_modify, h]
theorem Lp.PBx.set1 {w : World} {G : Nat} {x y : Int} (h : PBx w G x y) (v : Int) : PBx (w.setCell ⟨G, 1, none⟩ (.int .i64 v)) G x v := by
  unfold PBx at *; simp [World.setCell, Array.getElem?_modify, h]
theorem Lp.PBx.below {w w' : World} {G D : Nat} {x y : Int} (h : PBx w G x y) (hb : Below D w w') (hG : G < D) : PBx w' G x y := (hb.block G hG).trans h
theorem Lp.PBx.alloc {w : World} {G : Nat} {x y : Int} (h : PBx w G x y) (o : Obj) : PBx (w.alloc o) G x y := (Below.heap_alloc _ _ _ h.lt).trans h
theorem Lp.TBx.other {w : World} {G C i : Nat} {B E : Int} {a : Option Addr} {n c : Nat} (h : TBx w G B E a n c) (hne : G ≠ C) (v : Value) : TBx (w.setCell ⟨C, i, none⟩ v) G B E a n c :=
  (Below.heap_setCell w ⟨C, i, none⟩ v G (fun e => hne (by rw [e]))).trans h

instance (B E : Int) (f : Nat → Int × Int) (n : Nat) : Decidable (inR B E f n) := by unfold inR; infer_instance
/-- The error of entry k. -/
def Lp.entE (B : Int) (f : Nat → Int × Int) (k : Nat) : Int :=
  if beg (f k).1 = false then 7 else if 0 < k ∧ (f k).1 ≤ (f (k - 1)).1 then 12 else if (f k).2 - offA B f k = 1 ∨ (f k).2 - offA B f k = -1 then 0 else 3
/-- The first error of the entries before k. -/
def Lp.fE (B : Int) (f : Nat → Int × Int) : Nat → Int
  | 0 => 0
  | k + 1 => if fE B f k = 0 then entE B f k else fE B f k
/-- What Check returns. -/
def Lp.chkL (B E : Int) (f : Nat → Int × Int) (n : Nat) : Int := if 64 < n then 6 else if inR B E f n then fE B f n else 3
theorem Lp.fE_stop {B : Int} {f : Nat → Int × Int} {k : Nat} (h : fE B f k ≠ 0) : ∀ m, fE B f (k + m) = fE B f k := by
  intro m
  induction m with
  | zero => rfl
  | succ m ih =>
    have e : fE B f (k + (m + 1)) = if fE B f (k + m) = 0 then entE B f (k + m) else fE B f (k + m) := rfl
    rw [e, ih, if_neg h]
theorem Lp.fE_next {B : Int} {f : Nat → Int × Int} {k : Nat} (h : fE B f k = 0) : fE B f (k + 1) = entE B f k := if_pos h
theorem Lp.fE_end {B : Int} {f : Nat → Int × Int} {k n : Nat} (h : fE B f k = 0) (hk : k < n) (he : entE B f k ≠ 0) : fE B f n = entE B f k := by
  have e := fE_next h
  have := fE_stop (k := k + 1) (by rw [e]; exact he) (n - (k + 1))
  rw [show k + 1 + (n - (k + 1)) = n by omega] at this
  rw [this, e]

set_option maxRecDepth 100000 in
theorem inrange_head (B E : Int) (a : Option Addr) (n c : Nat) (w : World) (h : ¬ ((-1000 ≤ B ∧ B ≤ 1000) ∧ (-8000000000 ≤ E ∧ E ≤ 8000000000))) :
    Calls Tryz.prog 27 #[.agg #[.int .i64 B, .int .i64 E, .slice a n c]] w fun e w' => e = .returned (.bool false) ∧ Below w.heap.size w w' := by
  by_cases h1 : -1000 ≤ B ∧ B ≤ 1000
  · have HI := Lib.hid (show inS E = false by cases hi : inS E; rfl; simp [inS] at hi; omega)
    have HD := Lib.hid (decide_eq_true h1)
    clear h h1
    have BB0 := Lib.hid ((Below.refl w.heap.size w).alloc (Nat.le_refl _) (.cells #[.int .i64 B, .int .i64 E, .slice a n c] 24))
    have X0 := Lib.hid (tbx_new w B E a n c)
    obtain ⟨W0, hW0⟩ : ∃ W, w.alloc (.cells #[.int .i64 B, .int .i64 E, .slice a n c] 24) = W := ⟨_, rfl⟩
    rw [hW0] at BB0 X0
    obtain ⟨t0, t1, t2⟩ := X0.out.cells
    go_enter Tryz.func27, Tryz.ntmps27
    go_wp2_with fail
    refine (lisoff_any B _).mono ?_
    rintro e w' ⟨rfl, hw'⟩; subst w'
    rw [HD.out]
    go_wp2_with fail
    refine (lissec_any E _).mono ?_
    rintro e w' ⟨rfl, hw'⟩; subst w'
    rw [HI.out]
    go_wp2_with fail
    go_ret
    exact ⟨rfl, BB0.out⟩
  · have HD := Lib.hid (decide_eq_false h1)
    clear h h1
    have BB0 := Lib.hid ((Below.refl w.heap.size w).alloc (Nat.le_refl _) (.cells #[.int .i64 B, .int .i64 E, .slice a n c] 24))
    have X0 := Lib.hid (tbx_new w B E a n c)
    obtain ⟨W0, hW0⟩ : ∃ W, w.alloc (.cells #[.int .i64 B, .int .i64 E, .slice a n c] 24) = W := ⟨_, rfl⟩
    rw [hW0] at BB0 X0
    obtain ⟨t0, t1, t2⟩ := X0.out.cells
    go_enter Tryz.func27, Tryz.ntmps27
    go_wp2_with fail
    refine (lisoff_any B _).mono ?_
    rintro e w' ⟨rfl, hw'⟩; subst w'
    rw [HD.out]
    go_wp2_with fail
    go_ret
    exact ⟨rfl, BB0.out⟩
set_option maxRecDepth 100000 in
set_option maxHeartbeats 1000000 in
theorem inrange_tail (B E : Int) (a : Option Addr) (n c : Nat) (f : Nat → Int × Int) (w : World) (hr : LRd w w.heap.size a n f) (hn : n ≤ 64) (hB : -1000 ≤ B ∧ B ≤ 1000) (hE : -8000000000 ≤ E ∧ E ≤ 8000000000) :
    Calls Tryz.prog 27 #[.agg #[.int .i64 B, .int .i64 E, .slice a n c]] w fun e w' => e = .returned (.bool (decide (inR B E f n))) ∧ Below w.heap.size w w' := by
  have HI := Lib.hid (show inS E = true by simp [inS]; omega)
  have HD := Lib.hid (decide_eq_true hB)
  have HR := Lib.hid hr
  have HBE := Lib.hid (And.intro hB hE)
  clear hr hB hE
  have BB0 := Lib.hid ((Below.refl w.heap.size w).alloc (Nat.le_refl _) (.cells #[.int .i64 B, .int .i64 E, .slice a n c] 24))
  have X0 := Lib.hid (tbx_new w B E a n c)
  obtain ⟨W0, hW0⟩ : ∃ W, w.alloc (.cells #[.int .i64 B, .int .i64 E, .slice a n c] 24) = W := ⟨_, rfl⟩
  rw [hW0] at BB0 X0
  obtain ⟨t0, t1, t2⟩ := X0.out.cells
  go_enter Tryz.func27, Tryz.ntmps27
  go_wp2_with fail
  refine (lisoff_any B _).mono ?_
  rintro e w' ⟨rfl, hw'⟩; subst w'
  rw [HD.out]
  go_wp2_with fail
  refine (lissec_any E _).mono ?_
  rintro e w' ⟨rfl, hw'⟩; subst w'
  rw [HI.out]
  go_wp2_with fail
  clear hW0 t0 t1 t2
  go_loopw [18] (fun iv wr => ∃ k : Nat, k ≤ n ∧ iv = .int .i64 k ∧ Hid (∀ i, i < k → (-1000 ≤ (f i).2 ∧ (f i).2 ≤ 1000) ∧ (-8000000000 ≤ (f i).1 ∧ (f i).1 ≤ 8000000000)) ∧ Hid (Below w.heap.size w wr)) (fun iv _ => n - (intOf iv).toNat)
  case atStart => exact ⟨0, by omega, rfl, Lib.hid (fun i hi => by omega), BB0⟩
  case round =>
    clear BB0 X0
    obtain ⟨k, hk, rfl, HK, HB⟩ := hrel
    by_cases hlt : k < n
    · obtain ⟨b, off, rfl, hbl⟩ := HR.out.some (by omega)
      obtain ⟨e0, e1⟩ := (HR.out.below HB.out).at hlt
      have hki : (k : Int) < n := by omega
      obtain ⟨x, hx⟩ : ∃ x, (f k).1 = x := ⟨_, rfl⟩
      obtain ⟨y, hy⟩ : ∃ y, (f k).2 = y := ⟨_, rfl⟩
      rw [hx] at e0
      rw [hy] at e1
      have HX := Lib.hid hx
      have HY := Lib.hid hy
      have sz := HB.out.size
      have P0 := Lib.hid (pbx_new wr 0 0)
      have B1 := Lib.hid (HB.out.alloc sz (.cells #[.int .i64 0, .int .i64 0] 44))
      obtain ⟨p0, p1, p2, p3⟩ := P0.out.cells
      have P1 := Lib.hid (P0.out.set0 x)
      have B2 := Lib.hid (below_set (C := wr.heap.size) (i := 0) B1.out sz (.int .i64 x))
      obtain ⟨V1, hV1⟩ : ∃ W, (wr.alloc (.cells #[.int .i64 0, .int .i64 0] 44)).setCell ⟨wr.heap.size, 0, none⟩ (.int .i64 x) = W := ⟨_, rfl⟩
      rw [hV1] at P1 B2
      obtain ⟨u0, u1, u2, u3⟩ := P1.out.cells
      have P2 := Lib.hid (P1.out.set1 y)
      have B3 := Lib.hid (below_set (C := wr.heap.size) (i := 1) B2.out sz (.int .i64 y))
      obtain ⟨V2, hV2⟩ : ∃ W, V1.setCell ⟨wr.heap.size, 1, none⟩ (.int .i64 y) = W := ⟨_, rfl⟩
      rw [hV2] at P2 B3
      obtain ⟨v0, v1, v2, v3⟩ := P2.out.cells
      clear hx hy B1 B2 P0 P1
      obtain ⟨g, hg⟩ : ∃ g, decide (-1000 ≤ y ∧ y ≤ 1000) = g := ⟨_, rfl⟩
      obtain ⟨g', hg'⟩ : ∃ g, inS x = g := ⟨_, rfl⟩
      have HG := Lib.hid hg
      have HG' := Lib.hid hg'
      clear hg hg'
      cases g
      · have HF : Hid (decide (inR B E f n) = false) := Lib.hid (decide_eq_false (fun h => by
          have := (h.2.2 k hlt).1
          rw [HY.out] at this
          exact absurd this (of_decide_eq_false HG.out)))
        go_wp2_with fail
        refine (lisoff_any y _).mono ?_
        rintro e w' ⟨rfl, hw'⟩; subst w'
        rw [HG.out]
        go_wp2_with fail
        go_ret
        exact ⟨by rw [HF.out]; rfl, B3.out⟩
      · cases g'
        · have HF : Hid (decide (inR B E f n) = false) := Lib.hid (decide_eq_false (fun h => by
            have := (h.2.2 k hlt).2
            rw [HX.out] at this
            have h2 := HG'.out
            simp [inS] at h2; omega))
          go_wp2_with fail
          refine (lisoff_any y _).mono ?_
          rintro e w' ⟨rfl, hw'⟩; subst w'
          rw [HG.out]
          go_wp2_with fail
          refine (lissec_any x _).mono ?_
          rintro e w' ⟨rfl, hw'⟩; subst w'
          rw [HG'.out]
          go_wp2_with fail
          go_ret
          exact ⟨by rw [HF.out]; rfl, B3.out⟩
        · have HN : Hid (∀ i, i < k + 1 → (-1000 ≤ (f i).2 ∧ (f i).2 ≤ 1000) ∧ (-8000000000 ≤ (f i).1 ∧ (f i).1 ≤ 8000000000)) := Lib.hid (fun i hi => by
            rcases (show i < k ∨ i = k by omega) with h | rfl
            · exact HK.out i h
            · rw [HX.out, HY.out]
              exact ⟨of_decide_eq_true HG.out, by have := HG'.out; simpa [inS] using this⟩)
          go_wp2_with fail
          refine (lisoff_any y _).mono ?_
          rintro e w' ⟨rfl, hw'⟩; subst w'
          rw [HG.out]
          go_wp2_with fail
          refine (lissec_any x _).mono ?_
          rintro e w' ⟨rfl, hw'⟩; subst w'
          rw [HG'.out]
          go_wp2_with fail
          go_roundw
          case rel => exact ⟨k + 1, by omega, by go_num, HN, B3⟩
          case measure => simp [intOf]; omega
    · obtain rfl : k = n := by omega
      have HF := Lib.hid (decide_eq_true (show inR B E f k from ⟨HBE.out.1, HBE.out.2, HK.out⟩))
      go_wp2_with fail
      go_ret
      exact ⟨by rw [HF.out]; rfl, HB.out⟩
theorem inrange_any (B E : Int) (a : Option Addr) (n c : Nat) (f : Nat → Int × Int) (w : World) (hr : LRd w w.heap.size a n f) (hn : n ≤ 64) :
    Calls Tryz.prog 27 #[.agg #[.int .i64 B, .int .i64 E, .slice a n c]] w fun e w' => e = .returned (.bool (decide (inR B E f n))) ∧ Below w.heap.size w w' := by
  by_cases h : (-1000 ≤ B ∧ B ≤ 1000) ∧ (-8000000000 ≤ E ∧ E ≤ 8000000000)
  · exact inrange_tail B E a n c f w hr hn h.1 h.2
  · rw [decide_eq_false (show ¬ inR B E f n from fun hr => h ⟨hr.1, hr.2.1⟩)]
    exact inrange_head B E a n c w h

/-- Steps of the walk of checkEntry behind the order's test: the change. -/
theorem Lp.ent_tail {B : Int} {f : Nat → Int × Int} {k : Nat} (h7 : beg (f k).1 = true) (h12 : ¬ (0 < k ∧ (f k).1 ≤ (f (k - 1)).1)) {s : Int} (hs : (f k).2 - offA B f k = s) : entE B f k = if s = 1 ∨ s = -1 then 0 else 3 := by
  unfold entE; rw [if_neg (by rw [h7]; simp), if_neg h12, hs]
set_option maxRecDepth 100000 in
set_option maxHeartbeats 1000000 in
theorem centry_0 (B E : Int) (a : Option Addr) (n c : Nat) (f : Nat → Int × Int) (w : World) (ht : MT w) (hr : LRd w w.heap.size a n f) (hk : 0 < n) (hn : n ≤ 64) (hR : inR B E f n) :
    Calls Tryz.prog 28 #[.agg #[.int .i64 B, .int .i64 E, .slice a n c], .int .i64 ((0 : Nat) : Int)] w fun e w' => e = .returned (.int .i64 (entE B f 0)) ∧ Below w.heap.size w w' := by
  obtain ⟨b, off, rfl, hlt⟩ := hr.some (by omega)
  have HR := Lib.hid hr
  have HT := Lib.hid ht
  have HI := Lib.hid hR
  have o1 := offA_in hR (Nat.le_of_lt hk)
  have o2 := (hR.2.2 0 hk).1
  obtain ⟨s, hs⟩ : ∃ s, (f 0).2 - offA B f 0 = s := ⟨_, rfl⟩
  have HS := Lib.hid hs
  have sb : -2000 ≤ s ∧ s ≤ 2000 := by omega
  obtain ⟨x, hx⟩ : ∃ x, (f 0).1 = x := ⟨_, rfl⟩
  have HX := Lib.hid hx
  have hn0 : 0 < (n : Int) := by omega
  have m0 := ((hr.below ((Below.refl w.heap.size w).alloc (Nat.le_refl _) (.cells #[.int .i64 B, .int .i64 E, .slice (some ⟨b, off, none⟩) n c] 24))).at hk).1
  rw [hx] at m0
  simp only [Nat.zero_mul, Nat.add_zero] at m0
  clear hs hr ht hR o1 o2 hx
  cases hb : beg x
  · have HB := Lib.hid hb
    have HE : Hid (entE B f 0 = 7) := Lib.hid (by unfold entE; rw [if_pos (by rw [HX.out, hb])])
    rw [HE.out]
    clear hb
    have BB0 := Lib.hid ((Below.refl w.heap.size w).alloc (Nat.le_refl _) (.cells #[.int .i64 B, .int .i64 E, .slice (some ⟨b, off, none⟩) n c] 24))
    have X0 := Lib.hid (tbx_new w B E (some ⟨b, off, none⟩) n c)
    obtain ⟨W0, hW0⟩ : ∃ W, w.alloc (.cells #[.int .i64 B, .int .i64 E, .slice (some ⟨b, off, none⟩) n c] 24) = W := ⟨_, rfl⟩
    rw [hW0] at BB0 X0
    obtain ⟨t0, t1, t2⟩ := X0.out.cells
    rw [hW0] at m0
    go_enter Tryz.func28, Tryz.ntmps28
    go_wp2_with fail
    refine (beginsmonth_any x _ (HT.out.below BB0.out)).mono ?_
    rintro e w1 ⟨rfl, hb⟩
    have X1 := Lib.hid (X0.out.below hb X0.out.lt)
    have B1 := Lib.hid (BB0.out.trans (hb.mono BB0.out.size))
    clear hb X0 BB0
    rw [HB.out]
    go_wp2_with fail
    go_ret
    exact ⟨rfl, B1.out⟩
  · have HB : Hid (beg (f 0).1 = true) := Lib.hid (by rw [HX.out]; exact hb)
    have HBX := Lib.hid hb
    clear hb
    have H12 : Hid (¬ (0 < 0 ∧ (f 0).1 ≤ (f (0 - 1)).1)) := Lib.hid (by omega)
    have BB0 := Lib.hid ((Below.refl w.heap.size w).alloc (Nat.le_refl _) (.cells #[.int .i64 B, .int .i64 E, .slice (some ⟨b, off, none⟩) n c] 24))
    have X0 := Lib.hid (tbx_new w B E (some ⟨b, off, none⟩) n c)
    obtain ⟨W0, hW0⟩ : ∃ W, w.alloc (.cells #[.int .i64 B, .int .i64 E, .slice (some ⟨b, off, none⟩) n c] 24) = W := ⟨_, rfl⟩
    rw [hW0] at BB0 X0
    obtain ⟨t0, t1, t2⟩ := X0.out.cells
    rw [hW0] at m0
    go_enter Tryz.func28, Tryz.ntmps28
    go_wp2_with fail
    refine (beginsmonth_any x _ (HT.out.below BB0.out)).mono ?_
    rintro e w1 ⟨rfl, hb⟩
    have X1 := Lib.hid (X0.out.below hb X0.out.lt)
    have B1 := Lib.hid (BB0.out.trans (hb.mono BB0.out.size))
    clear hb X0 BB0
    rw [HBX.out]
    by_cases h1 : s = 1
    · have HE : Hid (entE B f 0 = 0) := Lib.hid (by rw [ent_tail HB.out H12.out HS.out, if_pos (.inl h1)])
      subst h1
      obtain ⟨t2_0, t2_1, t2_2⟩ := X1.out.cells
      obtain ⟨m1, _⟩ := (HR.out.below B1.out).at hk
      rw [HX.out] at m1; simp only [Nat.zero_mul, Nat.add_zero] at m1
      go_wp2_with fail
      clear t2_0 t2_1 t2_2 m1
      refine (change_any B E _ n c f 0 _ (show LRd w1 w1.heap.size (some ⟨b, off, none⟩) n f from (HR.out.below B1.out).mono B1.out.size) hk hn HI.out).mono ?_
      rintro e w3 ⟨rfl, hb⟩
      have X3 := Lib.hid (X1.out.below hb X1.out.lt)
      have B3 := Lib.hid (B1.out.trans (hb.mono B1.out.size))
      clear hb X1 B1
      rw [HS.out]
      go_wp2_with fail
      go_ret
      exact ⟨ret1 HE.out.symm, B3.out⟩
    by_cases h2 : s = -1
    · have HE : Hid (entE B f 0 = 0) := Lib.hid (by rw [ent_tail HB.out H12.out HS.out, if_pos (.inr h2)])
      subst h2
      clear h1
      obtain ⟨t2_0, t2_1, t2_2⟩ := X1.out.cells
      obtain ⟨m1, _⟩ := (HR.out.below B1.out).at hk
      rw [HX.out] at m1; simp only [Nat.zero_mul, Nat.add_zero] at m1
      go_wp2_with fail
      clear t2_0 t2_1 t2_2 m1
      refine (change_any B E _ n c f 0 _ (show LRd w1 w1.heap.size (some ⟨b, off, none⟩) n f from (HR.out.below B1.out).mono B1.out.size) hk hn HI.out).mono ?_
      rintro e w3 ⟨rfl, hb⟩
      have X3 := Lib.hid (X1.out.below hb X1.out.lt)
      have B3 := Lib.hid (B1.out.trans (hb.mono B1.out.size))
      clear hb X1 B1
      rw [HS.out]
      go_wp2_with fail
      go_ret
      exact ⟨ret1 HE.out.symm, B3.out⟩
    have HE : Hid (entE B f 0 = 3) := Lib.hid (by rw [ent_tail HB.out H12.out HS.out, if_neg (by omega)])
    have g1 : decide (s = 1) = false := decide_eq_false h1
    have i1 : (s == 1) = false := by simpa using h1
    have j1 : (s != 1) = true := by simp [bne, i1]
    have g2 : decide (s = -1) = false := decide_eq_false h2
    have i2 : (s == -1) = false := by simpa using h2
    have j2 : (s != -1) = true := by simp [bne, i2]
    obtain ⟨t2_0, t2_1, t2_2⟩ := X1.out.cells
    obtain ⟨m1, _⟩ := (HR.out.below B1.out).at hk
    rw [HX.out] at m1; simp only [Nat.zero_mul, Nat.add_zero] at m1
    go_wp2_with fail
    clear t2_0 t2_1 t2_2 m1
    refine (change_any B E _ n c f 0 _ (show LRd w1 w1.heap.size (some ⟨b, off, none⟩) n f from (HR.out.below B1.out).mono B1.out.size) hk hn HI.out).mono ?_
    rintro e w3 ⟨rfl, hb⟩
    have X3 := Lib.hid (X1.out.below hb X1.out.lt)
    have B3 := Lib.hid (B1.out.trans (hb.mono B1.out.size))
    clear hb X1 B1
    rw [HS.out]
    go_wp2_with fail
    go_ret
    exact ⟨ret1 HE.out.symm, B3.out⟩
set_option maxRecDepth 100000 in
set_option maxHeartbeats 1000000 in
theorem centry_j (B E : Int) (a : Option Addr) (n c : Nat) (f : Nat → Int × Int) (j : Nat) (w : World) (ht : MT w) (hr : LRd w w.heap.size a n f) (hk : (j + 1) < n) (hn : n ≤ 64) (hR : inR B E f n) :
    Calls Tryz.prog 28 #[.agg #[.int .i64 B, .int .i64 E, .slice a n c], .int .i64 ((j + 1 : Nat) : Int)] w fun e w' => e = .returned (.int .i64 (entE B f (j + 1))) ∧ Below w.heap.size w w' := by
  obtain ⟨b, off, rfl, hlt⟩ := hr.some (by omega)
  have HR := Lib.hid hr
  have HT := Lib.hid ht
  have HI := Lib.hid hR
  have o1 := offA_in hR (Nat.le_of_lt hk)
  have o2 := (hR.2.2 (j + 1) hk).1
  obtain ⟨s, hs⟩ : ∃ s, (f (j + 1)).2 - offA B f (j + 1) = s := ⟨_, rfl⟩
  have HS := Lib.hid hs
  have sb : -2000 ≤ s ∧ s ≤ 2000 := by omega
  obtain ⟨x, hx⟩ : ∃ x, (f (j + 1)).1 = x := ⟨_, rfl⟩
  have HX := Lib.hid hx
  obtain ⟨x', hx'⟩ : ∃ x, (f j).1 = x := ⟨_, rfl⟩
  have HX' := Lib.hid hx'
  have hjn : (j : Int) < n := by omega
  have hjn1 : (j : Int) + 1 < n := by omega
  have hj64 : (j : Int) ≤ 62 := by omega
  have m' := ((hr.below ((Below.refl w.heap.size w).alloc (Nat.le_refl _) (.cells #[.int .i64 B, .int .i64 E, .slice (some ⟨b, off, none⟩) n c] 24))).at (show j < n by omega)).1
  rw [hx'] at m'
  have m0 := ((hr.below ((Below.refl w.heap.size w).alloc (Nat.le_refl _) (.cells #[.int .i64 B, .int .i64 E, .slice (some ⟨b, off, none⟩) n c] 24))).at hk).1
  rw [hx] at m0
  clear hs hr ht hR o1 o2 hx hx'
  cases hb : beg x
  · have HB := Lib.hid hb
    have HE : Hid (entE B f (j + 1) = 7) := Lib.hid (by unfold entE; rw [if_pos (by rw [HX.out, hb])])
    rw [HE.out]
    clear hb
    have BB0 := Lib.hid ((Below.refl w.heap.size w).alloc (Nat.le_refl _) (.cells #[.int .i64 B, .int .i64 E, .slice (some ⟨b, off, none⟩) n c] 24))
    have X0 := Lib.hid (tbx_new w B E (some ⟨b, off, none⟩) n c)
    obtain ⟨W0, hW0⟩ : ∃ W, w.alloc (.cells #[.int .i64 B, .int .i64 E, .slice (some ⟨b, off, none⟩) n c] 24) = W := ⟨_, rfl⟩
    rw [hW0] at BB0 X0
    obtain ⟨t0, t1, t2⟩ := X0.out.cells
    rw [hW0] at m0 m'
    go_enter Tryz.func28, Tryz.ntmps28
    go_wp2_with fail
    refine (beginsmonth_any x _ (HT.out.below BB0.out)).mono ?_
    rintro e w1 ⟨rfl, hb⟩
    have X1 := Lib.hid (X0.out.below hb X0.out.lt)
    have B1 := Lib.hid (BB0.out.trans (hb.mono BB0.out.size))
    clear hb X0 BB0
    rw [HB.out]
    go_wp2_with fail
    go_ret
    exact ⟨rfl, B1.out⟩
  · have HB : Hid (beg (f (j + 1)).1 = true) := Lib.hid (by rw [HX.out]; exact hb)
    have HBX := Lib.hid hb
    clear hb
    by_cases ho : x ≤ x'
    · have HE : Hid (entE B f (j + 1) = 12) := Lib.hid (by unfold entE; rw [if_neg (by rw [HB.out]; simp), if_pos ⟨by omega, by rw [HX.out, show j + 1 - 1 = j from rfl, HX'.out]; exact ho⟩])
      rw [HE.out]
      have BB0 := Lib.hid ((Below.refl w.heap.size w).alloc (Nat.le_refl _) (.cells #[.int .i64 B, .int .i64 E, .slice (some ⟨b, off, none⟩) n c] 24))
      have X0 := Lib.hid (tbx_new w B E (some ⟨b, off, none⟩) n c)
      obtain ⟨W0, hW0⟩ : ∃ W, w.alloc (.cells #[.int .i64 B, .int .i64 E, .slice (some ⟨b, off, none⟩) n c] 24) = W := ⟨_, rfl⟩
      rw [hW0] at BB0 X0
      obtain ⟨t0, t1, t2⟩ := X0.out.cells
      rw [hW0] at m0 m'
      go_enter Tryz.func28, Tryz.ntmps28
      go_wp2_with fail
      refine (beginsmonth_any x _ (HT.out.below BB0.out)).mono ?_
      rintro e w1 ⟨rfl, hb⟩
      have X1 := Lib.hid (X0.out.below hb X0.out.lt)
      have B1 := Lib.hid (BB0.out.trans (hb.mono BB0.out.size))
      clear hb X0 BB0
      rw [HBX.out]
      obtain ⟨t2_0, t2_1, t2_2⟩ := X1.out.cells
      obtain ⟨m2, _⟩ := (HR.out.below B1.out).at (show j < n by omega)
      rw [HX'.out] at m2
      go_wp2_with fail
      clear t2_0 t2_1 t2_2
      go_ret
      exact ⟨rfl, B1.out⟩
    · have H12 : Hid (¬ (0 < j + 1 ∧ (f (j + 1)).1 ≤ (f (j + 1 - 1)).1)) := Lib.hid (by rw [HX.out, show j + 1 - 1 = j from rfl, HX'.out]; omega)
      have ho2 : decide (x ≤ x') = false := decide_eq_false ho
      have BB0 := Lib.hid ((Below.refl w.heap.size w).alloc (Nat.le_refl _) (.cells #[.int .i64 B, .int .i64 E, .slice (some ⟨b, off, none⟩) n c] 24))
      have X0 := Lib.hid (tbx_new w B E (some ⟨b, off, none⟩) n c)
      obtain ⟨W0, hW0⟩ : ∃ W, w.alloc (.cells #[.int .i64 B, .int .i64 E, .slice (some ⟨b, off, none⟩) n c] 24) = W := ⟨_, rfl⟩
      rw [hW0] at BB0 X0
      obtain ⟨t0, t1, t2⟩ := X0.out.cells
      rw [hW0] at m0 m'
      go_enter Tryz.func28, Tryz.ntmps28
      go_wp2_with fail
      refine (beginsmonth_any x _ (HT.out.below BB0.out)).mono ?_
      rintro e w1 ⟨rfl, hb⟩
      have X1 := Lib.hid (X0.out.below hb X0.out.lt)
      have B1 := Lib.hid (BB0.out.trans (hb.mono BB0.out.size))
      clear hb X0 BB0
      rw [HBX.out]
      by_cases h1 : s = 1
      · have HE : Hid (entE B f (j + 1) = 0) := Lib.hid (by rw [ent_tail HB.out H12.out HS.out, if_pos (.inl h1)])
        subst h1
        obtain ⟨t2_0, t2_1, t2_2⟩ := X1.out.cells
        obtain ⟨m1, _⟩ := (HR.out.below B1.out).at hk
        rw [HX.out] at m1
        obtain ⟨m2, _⟩ := (HR.out.below B1.out).at (show j < n by omega)
        rw [HX'.out] at m2
        go_wp2_with fail
        clear t2_0 t2_1 t2_2 m1 m2
        refine (change_any B E _ n c f (j + 1) _ (show LRd w1 w1.heap.size (some ⟨b, off, none⟩) n f from (HR.out.below B1.out).mono B1.out.size) hk hn HI.out).mono ?_
        rintro e w3 ⟨rfl, hb⟩
        have X3 := Lib.hid (X1.out.below hb X1.out.lt)
        have B3 := Lib.hid (B1.out.trans (hb.mono B1.out.size))
        clear hb X1 B1
        rw [HS.out]
        go_wp2_with fail
        go_ret
        exact ⟨ret1 HE.out.symm, B3.out⟩
      by_cases h2 : s = -1
      · have HE : Hid (entE B f (j + 1) = 0) := Lib.hid (by rw [ent_tail HB.out H12.out HS.out, if_pos (.inr h2)])
        subst h2
        clear h1
        obtain ⟨t2_0, t2_1, t2_2⟩ := X1.out.cells
        obtain ⟨m1, _⟩ := (HR.out.below B1.out).at hk
        rw [HX.out] at m1
        obtain ⟨m2, _⟩ := (HR.out.below B1.out).at (show j < n by omega)
        rw [HX'.out] at m2
        go_wp2_with fail
        clear t2_0 t2_1 t2_2 m1 m2
        refine (change_any B E _ n c f (j + 1) _ (show LRd w1 w1.heap.size (some ⟨b, off, none⟩) n f from (HR.out.below B1.out).mono B1.out.size) hk hn HI.out).mono ?_
        rintro e w3 ⟨rfl, hb⟩
        have X3 := Lib.hid (X1.out.below hb X1.out.lt)
        have B3 := Lib.hid (B1.out.trans (hb.mono B1.out.size))
        clear hb X1 B1
        rw [HS.out]
        go_wp2_with fail
        go_ret
        exact ⟨ret1 HE.out.symm, B3.out⟩
      have HE : Hid (entE B f (j + 1) = 3) := Lib.hid (by rw [ent_tail HB.out H12.out HS.out, if_neg (by omega)])
      have g1 : decide (s = 1) = false := decide_eq_false h1
      have i1 : (s == 1) = false := by simpa using h1
      have j1 : (s != 1) = true := by simp [bne, i1]
      have g2 : decide (s = -1) = false := decide_eq_false h2
      have i2 : (s == -1) = false := by simpa using h2
      have j2 : (s != -1) = true := by simp [bne, i2]
      obtain ⟨t2_0, t2_1, t2_2⟩ := X1.out.cells
      obtain ⟨m1, _⟩ := (HR.out.below B1.out).at hk
      rw [HX.out] at m1
      obtain ⟨m2, _⟩ := (HR.out.below B1.out).at (show j < n by omega)
      rw [HX'.out] at m2
      go_wp2_with fail
      clear t2_0 t2_1 t2_2 m1 m2
      refine (change_any B E _ n c f (j + 1) _ (show LRd w1 w1.heap.size (some ⟨b, off, none⟩) n f from (HR.out.below B1.out).mono B1.out.size) hk hn HI.out).mono ?_
      rintro e w3 ⟨rfl, hb⟩
      have X3 := Lib.hid (X1.out.below hb X1.out.lt)
      have B3 := Lib.hid (B1.out.trans (hb.mono B1.out.size))
      clear hb X1 B1
      rw [HS.out]
      go_wp2_with fail
      go_ret
      exact ⟨ret1 HE.out.symm, B3.out⟩
theorem centry_any (B E : Int) (a : Option Addr) (n c : Nat) (f : Nat → Int × Int) (k : Nat) (w : World) (ht : MT w) (hr : LRd w w.heap.size a n f) (hk : k < n) (hn : n ≤ 64) (hR : inR B E f n) :
    Calls Tryz.prog 28 #[.agg #[.int .i64 B, .int .i64 E, .slice a n c], .int .i64 k] w fun e w' => e = .returned (.int .i64 (entE B f k)) ∧ Below w.heap.size w w' := by
  cases k with
  | zero => exact centry_0 B E a n c f w ht hr hk hn hR
  | succ j => exact centry_j B E a n c f j w ht hr hk hn hR

set_option maxRecDepth 100000 in
theorem lchk_long (B E : Int) (a : Option Addr) (n c : Nat) (f : Nat → Int × Int) (w : World) (h : 64 < n) :
    Calls Tryz.prog 12 #[.agg #[.int .i64 B, .int .i64 E, .slice a n c]] w fun e w' => e = .returned (.int .i64 (chkL B E f n)) ∧ Below w.heap.size w w' := by
  have HC : Hid (chkL B E f n = 6) := Lib.hid (if_pos h)
  have hi : (64 : Int) < n := by omega
  rw [HC.out]
  clear h
  have BB0 := Lib.hid ((Below.refl w.heap.size w).alloc (Nat.le_refl _) (.cells #[.int .i64 B, .int .i64 E, .slice a n c] 24))
  have X0 := Lib.hid (tbx_new w B E a n c)
  obtain ⟨W0, hW0⟩ : ∃ W, w.alloc (.cells #[.int .i64 B, .int .i64 E, .slice a n c] 24) = W := ⟨_, rfl⟩
  rw [hW0] at BB0 X0
  obtain ⟨t0, t1, t2⟩ := X0.out.cells
  go_enter Tryz.func12, Tryz.ntmps12
  go_wp2_with fail
  go_ret
  exact ⟨rfl, BB0.out⟩
set_option maxRecDepth 100000 in
theorem lchk_range (B E : Int) (a : Option Addr) (n c : Nat) (f : Nat → Int × Int) (w : World) (hr : LRd w w.heap.size a n f) (hn : n ≤ 64) (h : ¬ inR B E f n) :
    Calls Tryz.prog 12 #[.agg #[.int .i64 B, .int .i64 E, .slice a n c]] w fun e w' => e = .returned (.int .i64 (chkL B E f n)) ∧ Below w.heap.size w w' := by
  have HC : Hid (chkL B E f n = 3) := Lib.hid (by unfold chkL; rw [if_neg (by omega), if_neg h])
  have HD := Lib.hid (decide_eq_false h)
  have hi : ¬ (64 : Int) < n := by omega
  have HR := Lib.hid hr
  rw [HC.out]
  clear h hr
  have BB0 := Lib.hid ((Below.refl w.heap.size w).alloc (Nat.le_refl _) (.cells #[.int .i64 B, .int .i64 E, .slice a n c] 24))
  have X0 := Lib.hid (tbx_new w B E a n c)
  obtain ⟨W0, hW0⟩ : ∃ W, w.alloc (.cells #[.int .i64 B, .int .i64 E, .slice a n c] 24) = W := ⟨_, rfl⟩
  rw [hW0] at BB0 X0
  obtain ⟨t0, t1, t2⟩ := X0.out.cells
  go_enter Tryz.func12, Tryz.ntmps12
  go_wp2_with fail
  refine (inrange_any B E a n c f _ (show LRd W0 W0.heap.size a n f from (HR.out.below BB0.out).mono BB0.out.size) hn).mono ?_
  rintro e w1 ⟨rfl, hb⟩
  have X1 := Lib.hid (X0.out.below hb X0.out.lt)
  have B1 := Lib.hid (BB0.out.trans (hb.mono BB0.out.size))
  clear hb X0 BB0
  rw [HD.out]
  go_wp2_with fail
  go_ret
  exact ⟨rfl, B1.out⟩
set_option maxRecDepth 100000 in
set_option maxHeartbeats 1000000 in
theorem lchk_loop (B E : Int) (a : Option Addr) (n c : Nat) (f : Nat → Int × Int) (w : World) (ht : MT w) (hr : LRd w w.heap.size a n f) (hn : n ≤ 64) (h : inR B E f n) :
    Calls Tryz.prog 12 #[.agg #[.int .i64 B, .int .i64 E, .slice a n c]] w fun e w' => e = .returned (.int .i64 (chkL B E f n)) ∧ Below w.heap.size w w' := by
  have HC : Hid (chkL B E f n = fE B f n) := Lib.hid (by unfold chkL; rw [if_neg (by omega), if_pos h])
  have HD := Lib.hid (decide_eq_true h)
  have HI := Lib.hid h
  have hi : ¬ (64 : Int) < n := by omega
  have HR := Lib.hid hr
  have HT := Lib.hid ht
  rw [HC.out]
  clear h hr ht
  have BB0 := Lib.hid ((Below.refl w.heap.size w).alloc (Nat.le_refl _) (.cells #[.int .i64 B, .int .i64 E, .slice a n c] 24))
  have X0 := Lib.hid (tbx_new w B E a n c)
  obtain ⟨W0, hW0⟩ : ∃ W, w.alloc (.cells #[.int .i64 B, .int .i64 E, .slice a n c] 24) = W := ⟨_, rfl⟩
  rw [hW0] at BB0 X0
  obtain ⟨t0, t1, t2⟩ := X0.out.cells
  go_enter Tryz.func12, Tryz.ntmps12
  go_wp2_with fail
  refine (inrange_any B E a n c f _ (show LRd W0 W0.heap.size a n f from (HR.out.below BB0.out).mono BB0.out.size) hn).mono ?_
  rintro e w1 ⟨rfl, hb⟩
  have X1 := Lib.hid (X0.out.below hb X0.out.lt)
  have B1 := Lib.hid (BB0.out.trans (hb.mono BB0.out.size))
  clear hb X0 BB0
  rw [HD.out]
  obtain ⟨t2_0, t2_1, t2_2⟩ := X1.out.cells
  go_wp2_with fail
  clear hW0 t0 t1 t2 t2_0 t2_1 t2_2
  go_loopw [15] (fun iv wr => ∃ k : Nat, k ≤ n ∧ iv = .int .i64 k ∧ Hid (fE B f k = 0) ∧ Hid (TBx wr w.heap.size B E a n c) ∧ Hid (Below w.heap.size w wr)) (fun iv _ => n - (intOf iv).toNat)
  case atStart => exact ⟨0, by omega, rfl, Lib.hid rfl, X1, B1⟩
  case round =>
    clear X1 B1
    obtain ⟨k, hk, rfl, HK, XR, HB⟩ := hrel
    by_cases hlt : k < n
    · have hki : (k : Int) < n := by omega
      obtain ⟨t0, t1, t2⟩ := XR.out.cells
      obtain ⟨v, hv⟩ : ∃ v, entE B f k = v := ⟨_, rfl⟩
      have HV := Lib.hid hv
      by_cases h0 : v = 0
      · have HN : Hid (fE B f (k + 1) = 0) := Lib.hid (by rw [fE_next HK.out, hv, h0])
        subst h0
        clear hv
        go_wp2_with fail
        refine (centry_any B E a n c f k _ (HT.out.below HB.out) (show LRd wr wr.heap.size a n f from (HR.out.below HB.out).mono HB.out.size) hlt hn HI.out).mono ?_
        rintro e w2 ⟨rfl, hb⟩
        rw [HV.out]
        have XN := Lib.hid (XR.out.below hb XR.out.lt)
        have BN := Lib.hid (HB.out.trans (hb.mono HB.out.size))
        clear hb t0 t1 t2
        go_wp2_with fail
        go_roundw
        case rel => exact ⟨k + 1, by omega, by go_num, HN, XN, BN⟩
        case measure => simp [intOf]; omega
      · have HN : Hid (fE B f n = v) := Lib.hid (by rw [fE_end HK.out hlt (by rw [hv]; exact h0), hv])
        have g1 : decide (v = 0) = false := decide_eq_false h0
        have g2 : (v == 0) = false := by simpa using h0
        have g3 : (v != 0) = true := by simp [bne, g2]
        clear hv
        go_wp2_with fail
        refine (centry_any B E a n c f k _ (HT.out.below HB.out) (show LRd wr wr.heap.size a n f from (HR.out.below HB.out).mono HB.out.size) hlt hn HI.out).mono ?_
        rintro e w2 ⟨rfl, hb⟩
        rw [HV.out]
        have BN := Lib.hid (HB.out.trans (hb.mono HB.out.size))
        clear hb t0 t1 t2
        go_wp2_with fail
        go_ret
        exact ⟨ret1 HN.out.symm, BN.out⟩
    · obtain rfl : k = n := by omega
      go_wp2_with fail
      go_ret
      exact ⟨ret1 HK.out.symm, HB.out⟩
theorem lchk_any (B E : Int) (a : Option Addr) (n c : Nat) (f : Nat → Int × Int) (w : World) (ht : MT w) (hr : LRd w w.heap.size a n f) :
    Calls Tryz.prog 12 #[.agg #[.int .i64 B, .int .i64 E, .slice a n c]] w fun e w' => e = .returned (.int .i64 (chkL B E f n)) ∧ Below w.heap.size w w' := by
  by_cases h : 64 < n
  · exact lchk_long B E a n c f w h
  · by_cases h2 : inR B E f n
    · exact lchk_loop B E a n c f w ht hr (by omega) h2
    · exact lchk_range B E a n c f w hr (by omega) h2
end Go.Proofs.YtegpajdahanhfaaGreatDoor
