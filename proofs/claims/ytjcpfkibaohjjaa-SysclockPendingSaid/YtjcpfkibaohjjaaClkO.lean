/- Laws of layer 10: calls of clocks. -/
import Derived.Test.YtjcpfkibaohjjaaClkL
namespace Go.Proofs.Ytjcpfkibaohjjaa
open Go.RowKit Fx Ck

/-- Block C holds a call. -/
def Ck.OB (T : TypeId) (w : World) (C : Nat) (k r a b : Int) : Prop := w.heap[C]? = some (.cells #[.int .i64 k, .int .i64 r, .int .i64 a, .int .i64 b] T (0, 0))
theorem Ck.OB.lt {T : TypeId} {w : World} {C : Nat} {k r a b : Int} (h : OB T w C k r a b) : C < w.heap.size := by
  rcases Nat.lt_or_ge C w.heap.size with hlt | hge
  · exact hlt
  · unfold OB at h; rw [Array.getElem?_eq_none hge] at h; cases h
theorem Ck.OB.cells {T : TypeId} {w : World} {C : Nat} {k r a b : Int} (h : OB T w C k r a b) :
    w.cell? ⟨C, 0, none⟩ = some (.int .i64 k) ∧ w.cell? ⟨C, 1, none⟩ = some (.int .i64 r) ∧ w.cell? ⟨C, 2, none⟩ = some (.int .i64 a) ∧ w.cell? ⟨C, 3, none⟩ = some (.int .i64 b) := by
  unfold OB at h; simp [World.cell?, h]
theorem Ck.OB.below {T : TypeId} {w w' : World} {C D : Nat} {k r a b : Int} (h : OB T w C k r a b) (hb : Below D w w') (hC : C < D) : OB T w' C k r a b := (hb.block C hC).trans h
theorem Ck.OB.alloc {T : TypeId} {w : World} {C : Nat} {k r a b : Int} (h : OB T w C k r a b) (o : Obj) : OB T (w.alloc o) C k r a b := (Below.heap_alloc _ _ _ h.lt).trans h
theorem Ck.ob_new (T : TypeId) (w : World) (k r a b : Int) : OB T (w.alloc (.cells #[.int .i64 k, .int .i64 r, .int .i64 a, .int .i64 b] T)) w.heap.size k r a b := heap_alloc_new w _
theorem Ck.OB.grown {T : TypeId} {w w' : World} {C D : Nat} {k r a b : Int} (h : OB T w C k r a b) (hg : w.grownBy w' (some D)) (hne : C ≠ D) : OB T w' C k r a b := (hg.block C h.lt (fun e => hne (by injection e))).trans h
theorem Ck.OB.drewN {T : TypeId} {w : World} {C : Nat} {k r a b : Int} (h : OB T w C k r a b) (n : Nat) : OB T (w.drewN n) C k r a b := h
theorem Ck.OB.other {T : TypeId} {w : World} {C D i : Nat} {k r a b : Int} (h : OB T w C k r a b) (hne : C ≠ D) (v : Value) : OB T (w.setCell ⟨D, i, none⟩ v) C k r a b :=
  (Below.heap_setCell w ⟨D, i, none⟩ v C (fun e => hne (by rw [e]))).trans h

/-- What a call answers, and the state behind it. -/
def Ck.cN (x : St) (k r : Int) : Int := if k = 0 then (mvS x r).t else if k = 1 then 0 else if k = 2 then 0 else if k = 3 then 0 else (mvS x r).l
def Ck.cE (x : St) (k r a b : Int) : Int := if k = 0 then mvE x r else if k = 1 then frE x r a else if k = 2 then slE x r a b else if k = 3 then spE x r a else 0
def Ck.cS (x : St) (k r a b : Int) : St := if k = 1 then frS x r a else if k = 2 then slS x r a b else if k = 3 then spS x r a else x
theorem Ck.cS_ok {x : St} {k r a b : Int} (h : Ok x) : Ok (cS x k r a b) := by
  unfold cS
  split
  · exact fr_ok h
  · split
    · exact sl_ok h
    · split
      · exact sp_ok h
      · exact h
def Ck.Done2 (T : TypeId) (C : Nat) (w : World) (n m : Int) (z : St) (e : Ending) (w' : World) : Prop := e = .returned (.tuple #[.int .i64 n, .int .i64 m]) ∧ KB T w' C z ∧ w.grownBy w' (some C)
set_option maxRecDepth 100000 in
theorem call_0 (C : Nat) (x : St) (r a b : Int) (w : World) (hx : Ok x) (hk : KB 51 w C x)  :
    Calls Try.prog 17 #[.pointer (some ⟨C, 0, none⟩), .agg #[.int .i64 0, .int .i64 r, .int .i64 a, .int .i64 b]] w (Done2 51 C w ((mvS x r).t) (mvE x r) x) := by
  have KC := Lib.hid hk
  have HOK := Lib.hid hx
  have HC := hk.lt
  have BB := Lib.hid (Below.refl w.heap.size w)
  clear hk hx
  have No1 : Hid (OB 38 (w.alloc (.cells #[.int .i64 0, .int .i64 r, .int .i64 a, .int .i64 b] 38)) w.heap.size 0 r a b) := Lib.hid (ob_new _ w 0 r a b)
  have lC1 := KC.out.lt
  have NC1 := Lib.hid (KC.out.alloc (.cells #[.int .i64 0, .int .i64 r, .int .i64 a, .int .i64 b] 38))
  have E1 := Lib.hid (BB.out.alloc BB.out.size (.cells #[.int .i64 0, .int .i64 r, .int .i64 a, .int .i64 b] 38))
  have hs1 := BB.out.size
  obtain ⟨S1, hS1⟩ : ∃ W, w.alloc (.cells #[.int .i64 0, .int .i64 r, .int .i64 a, .int .i64 b] 38) = W := ⟨_, rfl⟩
  have hsz1 : S1.heap.size = w.heap.size + 1 := by rw [← hS1]; simp
  have HSZ1 := Lib.hid hsz1
  have hle1 : w.heap.size < S1.heap.size := by omega
  clear hsz1
  rw [hS1] at No1 NC1 E1
  clear KC BB
  obtain ⟨c2_0, c2_1, c2_2, c2_3⟩ := No1.out.cells
  go_enter Try.func17, Try.ntmps17
  go_wp2_with fail
  refine (now_any C x r _ HOK.out NC1.out).mono ?_
  rintro e w3 ⟨rfl, hb⟩
  have XC3 := Lib.hid (NC1.out.below hb NC1.out.lt)
  have Xo3 := Lib.hid (No1.out.below hb No1.out.lt)
  have B3 := Lib.hid (E1.out.trans (hb.mono E1.out.size))
  have hz3 := hb.size
  clear hb NC1 No1 E1
  go_wp2_with fail
  go_ret2
  exact ⟨rfl, XC3.out, grown_of_below B3.out⟩
set_option maxRecDepth 100000 in
theorem call_1 (C : Nat) (x : St) (r a b : Int) (w : World) (hx : Ok x) (hk : KB 51 w C x)  :
    Calls Try.prog 17 #[.pointer (some ⟨C, 0, none⟩), .agg #[.int .i64 1, .int .i64 r, .int .i64 a, .int .i64 b]] w (Done2 51 C w (0) (frE x r a) (frS x r a)) := by
  have KC := Lib.hid hk
  have HOK := Lib.hid hx
  have HC := hk.lt
  have BB := Lib.hid (Below.refl w.heap.size w)
  clear hk hx
  have No1 : Hid (OB 38 (w.alloc (.cells #[.int .i64 1, .int .i64 r, .int .i64 a, .int .i64 b] 38)) w.heap.size 1 r a b) := Lib.hid (ob_new _ w 1 r a b)
  have lC1 := KC.out.lt
  have NC1 := Lib.hid (KC.out.alloc (.cells #[.int .i64 1, .int .i64 r, .int .i64 a, .int .i64 b] 38))
  have E1 := Lib.hid (BB.out.alloc BB.out.size (.cells #[.int .i64 1, .int .i64 r, .int .i64 a, .int .i64 b] 38))
  have hs1 := BB.out.size
  obtain ⟨S1, hS1⟩ : ∃ W, w.alloc (.cells #[.int .i64 1, .int .i64 r, .int .i64 a, .int .i64 b] 38) = W := ⟨_, rfl⟩
  have hsz1 : S1.heap.size = w.heap.size + 1 := by rw [← hS1]; simp
  have HSZ1 := Lib.hid hsz1
  have hle1 : w.heap.size < S1.heap.size := by omega
  clear hsz1
  rw [hS1] at No1 NC1 E1
  clear KC BB
  obtain ⟨c2_0, c2_1, c2_2, c2_3⟩ := No1.out.cells
  go_enter Try.func17, Try.ntmps17
  go_wp2_with fail
  refine (freq_any C x r a _ HOK.out NC1.out).mono ?_
  rintro e w1 ⟨rfl, hk1, hg1⟩
  have K1 := Lib.hid hk1
  have G1 := Lib.hid (grown_trans (grown_of_below E1.out) hg1)
  clear hk1 hg1
  go_wp2_with fail
  go_ret2
  exact ⟨rfl, K1.out, G1.out⟩
set_option maxRecDepth 100000 in
theorem call_2 (C : Nat) (x : St) (r a b : Int) (w : World) (hx : Ok x) (hk : KB 51 w C x)  :
    Calls Try.prog 17 #[.pointer (some ⟨C, 0, none⟩), .agg #[.int .i64 2, .int .i64 r, .int .i64 a, .int .i64 b]] w (Done2 51 C w (0) (slE x r a b) (slS x r a b)) := by
  have KC := Lib.hid hk
  have HOK := Lib.hid hx
  have HC := hk.lt
  have BB := Lib.hid (Below.refl w.heap.size w)
  clear hk hx
  have No1 : Hid (OB 38 (w.alloc (.cells #[.int .i64 2, .int .i64 r, .int .i64 a, .int .i64 b] 38)) w.heap.size 2 r a b) := Lib.hid (ob_new _ w 2 r a b)
  have lC1 := KC.out.lt
  have NC1 := Lib.hid (KC.out.alloc (.cells #[.int .i64 2, .int .i64 r, .int .i64 a, .int .i64 b] 38))
  have E1 := Lib.hid (BB.out.alloc BB.out.size (.cells #[.int .i64 2, .int .i64 r, .int .i64 a, .int .i64 b] 38))
  have hs1 := BB.out.size
  obtain ⟨S1, hS1⟩ : ∃ W, w.alloc (.cells #[.int .i64 2, .int .i64 r, .int .i64 a, .int .i64 b] 38) = W := ⟨_, rfl⟩
  have hsz1 : S1.heap.size = w.heap.size + 1 := by rw [← hS1]; simp
  have HSZ1 := Lib.hid hsz1
  have hle1 : w.heap.size < S1.heap.size := by omega
  clear hsz1
  rw [hS1] at No1 NC1 E1
  clear KC BB
  obtain ⟨c2_0, c2_1, c2_2, c2_3⟩ := No1.out.cells
  go_enter Try.func17, Try.ntmps17
  go_wp2_with fail
  refine (slew_any C x r a b _ HOK.out NC1.out).mono ?_
  rintro e w1 ⟨rfl, hk1, hg1⟩
  have K1 := Lib.hid hk1
  have G1 := Lib.hid (grown_trans (grown_of_below E1.out) hg1)
  clear hk1 hg1
  go_wp2_with fail
  go_ret2
  exact ⟨rfl, K1.out, G1.out⟩
set_option maxRecDepth 100000 in
theorem call_3 (C : Nat) (x : St) (r a b : Int) (w : World) (hx : Ok x) (hk : KB 51 w C x)  :
    Calls Try.prog 17 #[.pointer (some ⟨C, 0, none⟩), .agg #[.int .i64 3, .int .i64 r, .int .i64 a, .int .i64 b]] w (Done2 51 C w (0) (spE x r a) (spS x r a)) := by
  have KC := Lib.hid hk
  have HOK := Lib.hid hx
  have HC := hk.lt
  have BB := Lib.hid (Below.refl w.heap.size w)
  clear hk hx
  have No1 : Hid (OB 38 (w.alloc (.cells #[.int .i64 3, .int .i64 r, .int .i64 a, .int .i64 b] 38)) w.heap.size 3 r a b) := Lib.hid (ob_new _ w 3 r a b)
  have lC1 := KC.out.lt
  have NC1 := Lib.hid (KC.out.alloc (.cells #[.int .i64 3, .int .i64 r, .int .i64 a, .int .i64 b] 38))
  have E1 := Lib.hid (BB.out.alloc BB.out.size (.cells #[.int .i64 3, .int .i64 r, .int .i64 a, .int .i64 b] 38))
  have hs1 := BB.out.size
  obtain ⟨S1, hS1⟩ : ∃ W, w.alloc (.cells #[.int .i64 3, .int .i64 r, .int .i64 a, .int .i64 b] 38) = W := ⟨_, rfl⟩
  have hsz1 : S1.heap.size = w.heap.size + 1 := by rw [← hS1]; simp
  have HSZ1 := Lib.hid hsz1
  have hle1 : w.heap.size < S1.heap.size := by omega
  clear hsz1
  rw [hS1] at No1 NC1 E1
  clear KC BB
  obtain ⟨c2_0, c2_1, c2_2, c2_3⟩ := No1.out.cells
  go_enter Try.func17, Try.ntmps17
  go_wp2_with fail
  refine (step_any C x r a _ HOK.out NC1.out).mono ?_
  rintro e w1 ⟨rfl, hk1, hg1⟩
  have K1 := Lib.hid hk1
  have G1 := Lib.hid (grown_trans (grown_of_below E1.out) hg1)
  clear hk1 hg1
  go_wp2_with fail
  go_ret2
  exact ⟨rfl, K1.out, G1.out⟩
set_option maxRecDepth 100000 in
theorem call_5 (C : Nat) (x : St) (k r a b : Int) (w : World) (hx : Ok x) (hk : KB 51 w C x) (h0 : ¬ k = 0) (h1 : ¬ k = 1) (h2 : ¬ k = 2) (h3 : ¬ k = 3) :
    Calls Try.prog 17 #[.pointer (some ⟨C, 0, none⟩), .agg #[.int .i64 k, .int .i64 r, .int .i64 a, .int .i64 b]] w (Done2 51 C w ((mvS x r).l) (0) x) := by
  have KC := Lib.hid hk
  have HOK := Lib.hid hx
  have HC := hk.lt
  have BB := Lib.hid (Below.refl w.heap.size w)
  have k0 : (k == 0) = false := by simpa using h0
  have k1 : (k == 1) = false := by simpa using h1
  have k2 : (k == 2) = false := by simpa using h2
  have k3 : (k == 3) = false := by simpa using h3
  clear h0 h1 h2 h3
  clear hk hx
  have No1 : Hid (OB 38 (w.alloc (.cells #[.int .i64 k, .int .i64 r, .int .i64 a, .int .i64 b] 38)) w.heap.size k r a b) := Lib.hid (ob_new _ w k r a b)
  have lC1 := KC.out.lt
  have NC1 := Lib.hid (KC.out.alloc (.cells #[.int .i64 k, .int .i64 r, .int .i64 a, .int .i64 b] 38))
  have E1 := Lib.hid (BB.out.alloc BB.out.size (.cells #[.int .i64 k, .int .i64 r, .int .i64 a, .int .i64 b] 38))
  have hs1 := BB.out.size
  obtain ⟨S1, hS1⟩ : ∃ W, w.alloc (.cells #[.int .i64 k, .int .i64 r, .int .i64 a, .int .i64 b] 38) = W := ⟨_, rfl⟩
  have hsz1 : S1.heap.size = w.heap.size + 1 := by rw [← hS1]; simp
  have HSZ1 := Lib.hid hsz1
  have hle1 : w.heap.size < S1.heap.size := by omega
  clear hsz1
  rw [hS1] at No1 NC1 E1
  clear KC BB
  obtain ⟨c2_0, c2_1, c2_2, c2_3⟩ := No1.out.cells
  go_enter Try.func17, Try.ntmps17
  go_wp2_with fail
  refine (pend_any C x r _ HOK.out NC1.out).mono ?_
  rintro e w3 ⟨rfl, hb⟩
  have XC3 := Lib.hid (NC1.out.below hb NC1.out.lt)
  have Xo3 := Lib.hid (No1.out.below hb No1.out.lt)
  have B3 := Lib.hid (E1.out.trans (hb.mono E1.out.size))
  have hz3 := hb.size
  clear hb NC1 No1 E1
  go_wp2_with fail
  go_ret2
  exact ⟨rfl, XC3.out, grown_of_below B3.out⟩
theorem call_any (C : Nat) (x : St) (k r a b : Int) (w : World) (hx : Ok x) (hk : KB 51 w C x) :
    Calls Try.prog 17 #[.pointer (some ⟨C, 0, none⟩), .agg #[.int .i64 k, .int .i64 r, .int .i64 a, .int .i64 b]] w (Done2 51 C w (cN x k r) (cE x k r a b) (cS x k r a b)) := by
  by_cases h0 : k = 0
  · subst h0; exact call_0 C x r a b w hx hk
  · by_cases h1 : k = 1
    · subst h1; exact call_1 C x r a b w hx hk
    · by_cases h2 : k = 2
      · subst h2; exact call_2 C x r a b w hx hk
      · by_cases h3 : k = 3
        · subst h3; exact call_3 C x r a b w hx hk
        · have e0 : cN x k r = (mvS x r).l := by unfold cN; rw [if_neg h0, if_neg h1, if_neg h2, if_neg h3]
          have e1 : cE x k r a b = 0 := by unfold cE; rw [if_neg h0, if_neg h1, if_neg h2, if_neg h3]
          have e2 : cS x k r a b = x := by unfold cS; rw [if_neg h1, if_neg h2, if_neg h3]
          rw [e0, e1, e2]; exact call_5 C x k r a b w hx hk h0 h1 h2 h3
set_option maxRecDepth 100000 in
theorem spec_0 (C : Nat) (x : St) (r a b : Int) (w : World) (hx : Ok x) (hk : KB 53 w C x)  :
    Calls Try.prog 18 #[.pointer (some ⟨C, 0, none⟩), .agg #[.int .i64 0, .int .i64 r, .int .i64 a, .int .i64 b]] w (Done2 53 C w ((mvS x r).t) (mvE x r) x) := by
  have KC := Lib.hid hk
  have HOK := Lib.hid hx
  have HC := hk.lt
  have BB := Lib.hid (Below.refl w.heap.size w)
  clear hk hx
  have No1 : Hid (OB 38 (w.alloc (.cells #[.int .i64 0, .int .i64 r, .int .i64 a, .int .i64 b] 38)) w.heap.size 0 r a b) := Lib.hid (ob_new _ w 0 r a b)
  have lC1 := KC.out.lt
  have NC1 := Lib.hid (KC.out.alloc (.cells #[.int .i64 0, .int .i64 r, .int .i64 a, .int .i64 b] 38))
  have E1 := Lib.hid (BB.out.alloc BB.out.size (.cells #[.int .i64 0, .int .i64 r, .int .i64 a, .int .i64 b] 38))
  have hs1 := BB.out.size
  obtain ⟨S1, hS1⟩ : ∃ W, w.alloc (.cells #[.int .i64 0, .int .i64 r, .int .i64 a, .int .i64 b] 38) = W := ⟨_, rfl⟩
  have hsz1 : S1.heap.size = w.heap.size + 1 := by rw [← hS1]; simp
  have HSZ1 := Lib.hid hsz1
  have hle1 : w.heap.size < S1.heap.size := by omega
  clear hsz1
  rw [hS1] at No1 NC1 E1
  clear KC BB
  obtain ⟨c2_0, c2_1, c2_2, c2_3⟩ := No1.out.cells
  go_enter Try.func18, Try.ntmps18
  go_wp2_with fail
  refine (rnow_any C x r _ HOK.out NC1.out).mono ?_
  rintro e w3 ⟨rfl, hb⟩
  have XC3 := Lib.hid (NC1.out.below hb NC1.out.lt)
  have Xo3 := Lib.hid (No1.out.below hb No1.out.lt)
  have B3 := Lib.hid (E1.out.trans (hb.mono E1.out.size))
  have hz3 := hb.size
  clear hb NC1 No1 E1
  go_wp2_with fail
  go_ret2
  exact ⟨rfl, XC3.out, grown_of_below B3.out⟩
set_option maxRecDepth 100000 in
theorem spec_1 (C : Nat) (x : St) (r a b : Int) (w : World) (hx : Ok x) (hk : KB 53 w C x)  :
    Calls Try.prog 18 #[.pointer (some ⟨C, 0, none⟩), .agg #[.int .i64 1, .int .i64 r, .int .i64 a, .int .i64 b]] w (Done2 53 C w (0) (frE x r a) (frS x r a)) := by
  have KC := Lib.hid hk
  have HOK := Lib.hid hx
  have HC := hk.lt
  have BB := Lib.hid (Below.refl w.heap.size w)
  clear hk hx
  have No1 : Hid (OB 38 (w.alloc (.cells #[.int .i64 1, .int .i64 r, .int .i64 a, .int .i64 b] 38)) w.heap.size 1 r a b) := Lib.hid (ob_new _ w 1 r a b)
  have lC1 := KC.out.lt
  have NC1 := Lib.hid (KC.out.alloc (.cells #[.int .i64 1, .int .i64 r, .int .i64 a, .int .i64 b] 38))
  have E1 := Lib.hid (BB.out.alloc BB.out.size (.cells #[.int .i64 1, .int .i64 r, .int .i64 a, .int .i64 b] 38))
  have hs1 := BB.out.size
  obtain ⟨S1, hS1⟩ : ∃ W, w.alloc (.cells #[.int .i64 1, .int .i64 r, .int .i64 a, .int .i64 b] 38) = W := ⟨_, rfl⟩
  have hsz1 : S1.heap.size = w.heap.size + 1 := by rw [← hS1]; simp
  have HSZ1 := Lib.hid hsz1
  have hle1 : w.heap.size < S1.heap.size := by omega
  clear hsz1
  rw [hS1] at No1 NC1 E1
  clear KC BB
  obtain ⟨c2_0, c2_1, c2_2, c2_3⟩ := No1.out.cells
  go_enter Try.func18, Try.ntmps18
  go_wp2_with fail
  refine (rfreq_any C x r a _ HOK.out NC1.out).mono ?_
  rintro e w1 ⟨rfl, hk1, hg1⟩
  have K1 := Lib.hid hk1
  have G1 := Lib.hid (grown_trans (grown_of_below E1.out) hg1)
  clear hk1 hg1
  go_wp2_with fail
  go_ret2
  exact ⟨rfl, K1.out, G1.out⟩
set_option maxRecDepth 100000 in
theorem spec_2 (C : Nat) (x : St) (r a b : Int) (w : World) (hx : Ok x) (hk : KB 53 w C x)  :
    Calls Try.prog 18 #[.pointer (some ⟨C, 0, none⟩), .agg #[.int .i64 2, .int .i64 r, .int .i64 a, .int .i64 b]] w (Done2 53 C w (0) (slE x r a b) (slS x r a b)) := by
  have KC := Lib.hid hk
  have HOK := Lib.hid hx
  have HC := hk.lt
  have BB := Lib.hid (Below.refl w.heap.size w)
  clear hk hx
  have No1 : Hid (OB 38 (w.alloc (.cells #[.int .i64 2, .int .i64 r, .int .i64 a, .int .i64 b] 38)) w.heap.size 2 r a b) := Lib.hid (ob_new _ w 2 r a b)
  have lC1 := KC.out.lt
  have NC1 := Lib.hid (KC.out.alloc (.cells #[.int .i64 2, .int .i64 r, .int .i64 a, .int .i64 b] 38))
  have E1 := Lib.hid (BB.out.alloc BB.out.size (.cells #[.int .i64 2, .int .i64 r, .int .i64 a, .int .i64 b] 38))
  have hs1 := BB.out.size
  obtain ⟨S1, hS1⟩ : ∃ W, w.alloc (.cells #[.int .i64 2, .int .i64 r, .int .i64 a, .int .i64 b] 38) = W := ⟨_, rfl⟩
  have hsz1 : S1.heap.size = w.heap.size + 1 := by rw [← hS1]; simp
  have HSZ1 := Lib.hid hsz1
  have hle1 : w.heap.size < S1.heap.size := by omega
  clear hsz1
  rw [hS1] at No1 NC1 E1
  clear KC BB
  obtain ⟨c2_0, c2_1, c2_2, c2_3⟩ := No1.out.cells
  go_enter Try.func18, Try.ntmps18
  go_wp2_with fail
  refine (rslew_any C x r a b _ HOK.out NC1.out).mono ?_
  rintro e w1 ⟨rfl, hk1, hg1⟩
  have K1 := Lib.hid hk1
  have G1 := Lib.hid (grown_trans (grown_of_below E1.out) hg1)
  clear hk1 hg1
  go_wp2_with fail
  go_ret2
  exact ⟨rfl, K1.out, G1.out⟩
set_option maxRecDepth 100000 in
theorem spec_3 (C : Nat) (x : St) (r a b : Int) (w : World) (hx : Ok x) (hk : KB 53 w C x)  :
    Calls Try.prog 18 #[.pointer (some ⟨C, 0, none⟩), .agg #[.int .i64 3, .int .i64 r, .int .i64 a, .int .i64 b]] w (Done2 53 C w (0) (spE x r a) (spS x r a)) := by
  have KC := Lib.hid hk
  have HOK := Lib.hid hx
  have HC := hk.lt
  have BB := Lib.hid (Below.refl w.heap.size w)
  clear hk hx
  have No1 : Hid (OB 38 (w.alloc (.cells #[.int .i64 3, .int .i64 r, .int .i64 a, .int .i64 b] 38)) w.heap.size 3 r a b) := Lib.hid (ob_new _ w 3 r a b)
  have lC1 := KC.out.lt
  have NC1 := Lib.hid (KC.out.alloc (.cells #[.int .i64 3, .int .i64 r, .int .i64 a, .int .i64 b] 38))
  have E1 := Lib.hid (BB.out.alloc BB.out.size (.cells #[.int .i64 3, .int .i64 r, .int .i64 a, .int .i64 b] 38))
  have hs1 := BB.out.size
  obtain ⟨S1, hS1⟩ : ∃ W, w.alloc (.cells #[.int .i64 3, .int .i64 r, .int .i64 a, .int .i64 b] 38) = W := ⟨_, rfl⟩
  have hsz1 : S1.heap.size = w.heap.size + 1 := by rw [← hS1]; simp
  have HSZ1 := Lib.hid hsz1
  have hle1 : w.heap.size < S1.heap.size := by omega
  clear hsz1
  rw [hS1] at No1 NC1 E1
  clear KC BB
  obtain ⟨c2_0, c2_1, c2_2, c2_3⟩ := No1.out.cells
  go_enter Try.func18, Try.ntmps18
  go_wp2_with fail
  refine (rstep_any C x r a _ HOK.out NC1.out).mono ?_
  rintro e w1 ⟨rfl, hk1, hg1⟩
  have K1 := Lib.hid hk1
  have G1 := Lib.hid (grown_trans (grown_of_below E1.out) hg1)
  clear hk1 hg1
  go_wp2_with fail
  go_ret2
  exact ⟨rfl, K1.out, G1.out⟩
set_option maxRecDepth 100000 in
theorem spec_5 (C : Nat) (x : St) (k r a b : Int) (w : World) (hx : Ok x) (hk : KB 53 w C x) (h0 : ¬ k = 0) (h1 : ¬ k = 1) (h2 : ¬ k = 2) (h3 : ¬ k = 3) :
    Calls Try.prog 18 #[.pointer (some ⟨C, 0, none⟩), .agg #[.int .i64 k, .int .i64 r, .int .i64 a, .int .i64 b]] w (Done2 53 C w ((mvS x r).l) (0) x) := by
  have KC := Lib.hid hk
  have HOK := Lib.hid hx
  have HC := hk.lt
  have BB := Lib.hid (Below.refl w.heap.size w)
  have k0 : (k == 0) = false := by simpa using h0
  have k1 : (k == 1) = false := by simpa using h1
  have k2 : (k == 2) = false := by simpa using h2
  have k3 : (k == 3) = false := by simpa using h3
  clear h0 h1 h2 h3
  clear hk hx
  have No1 : Hid (OB 38 (w.alloc (.cells #[.int .i64 k, .int .i64 r, .int .i64 a, .int .i64 b] 38)) w.heap.size k r a b) := Lib.hid (ob_new _ w k r a b)
  have lC1 := KC.out.lt
  have NC1 := Lib.hid (KC.out.alloc (.cells #[.int .i64 k, .int .i64 r, .int .i64 a, .int .i64 b] 38))
  have E1 := Lib.hid (BB.out.alloc BB.out.size (.cells #[.int .i64 k, .int .i64 r, .int .i64 a, .int .i64 b] 38))
  have hs1 := BB.out.size
  obtain ⟨S1, hS1⟩ : ∃ W, w.alloc (.cells #[.int .i64 k, .int .i64 r, .int .i64 a, .int .i64 b] 38) = W := ⟨_, rfl⟩
  have hsz1 : S1.heap.size = w.heap.size + 1 := by rw [← hS1]; simp
  have HSZ1 := Lib.hid hsz1
  have hle1 : w.heap.size < S1.heap.size := by omega
  clear hsz1
  rw [hS1] at No1 NC1 E1
  clear KC BB
  obtain ⟨c2_0, c2_1, c2_2, c2_3⟩ := No1.out.cells
  go_enter Try.func18, Try.ntmps18
  go_wp2_with fail
  refine (rpend_any C x r _ HOK.out NC1.out).mono ?_
  rintro e w3 ⟨rfl, hb⟩
  have XC3 := Lib.hid (NC1.out.below hb NC1.out.lt)
  have Xo3 := Lib.hid (No1.out.below hb No1.out.lt)
  have B3 := Lib.hid (E1.out.trans (hb.mono E1.out.size))
  have hz3 := hb.size
  clear hb NC1 No1 E1
  go_wp2_with fail
  go_ret2
  exact ⟨rfl, XC3.out, grown_of_below B3.out⟩
theorem spec_any (C : Nat) (x : St) (k r a b : Int) (w : World) (hx : Ok x) (hk : KB 53 w C x) :
    Calls Try.prog 18 #[.pointer (some ⟨C, 0, none⟩), .agg #[.int .i64 k, .int .i64 r, .int .i64 a, .int .i64 b]] w (Done2 53 C w (cN x k r) (cE x k r a b) (cS x k r a b)) := by
  by_cases h0 : k = 0
  · subst h0; exact spec_0 C x r a b w hx hk
  · by_cases h1 : k = 1
    · subst h1; exact spec_1 C x r a b w hx hk
    · by_cases h2 : k = 2
      · subst h2; exact spec_2 C x r a b w hx hk
      · by_cases h3 : k = 3
        · subst h3; exact spec_3 C x r a b w hx hk
        · have e0 : cN x k r = (mvS x r).l := by unfold cN; rw [if_neg h0, if_neg h1, if_neg h2, if_neg h3]
          have e1 : cE x k r a b = 0 := by unfold cE; rw [if_neg h0, if_neg h1, if_neg h2, if_neg h3]
          have e2 : cS x k r a b = x := by unfold cS; rw [if_neg h1, if_neg h2, if_neg h3]
          rw [e0, e1, e2]; exact spec_5 C x k r a b w hx hk h0 h1 h2 h3
end Go.Proofs.Ytjcpfkibaohjjaa
