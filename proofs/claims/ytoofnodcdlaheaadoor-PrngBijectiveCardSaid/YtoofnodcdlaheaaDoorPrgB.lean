/- Contracts of layer 8: sources. -/
import Derived.Test.YtoofnodcdlaheaaDoorPrgA
import Derived.Deep.RegionHeld3
import Derived.Laws.EntriesVeiled
namespace Go.Proofs.YtoofnodcdlaheaaDoor
open Go.RowKit Pr

/-- Block g is a source with a seed and its steps. -/
def Pr.SB (T : TypeId) (w : World) (g : Nat) (s k : Int) : Prop := w.heap[g]? = some (.cells #[.int .u64 s, .int .u64 k] T (0, 0))
theorem Pr.SB.lt {T : TypeId} {w : World} {g : Nat} {s k : Int} (h : SB T w g s k) : g < w.heap.size := by
  rcases Nat.lt_or_ge g w.heap.size with hlt | hge
  · exact hlt
  · unfold SB at h; rw [Array.getElem?_eq_none hge] at h; cases h
theorem Pr.SB.cells {T : TypeId} {w : World} {g : Nat} {s k : Int} (h : SB T w g s k) : w.cell? ⟨g, 0, none⟩ = some (.int .u64 s) ∧ w.cell? ⟨g, 1, none⟩ = some (.int .u64 k) ∧ w.frozen? ⟨g, 0, none⟩ = false ∧ w.frozen? ⟨g, 1, none⟩ = false := by
  unfold SB at h; simp [World.cell?, World.frozen?, h]
theorem Pr.sb_new (T : TypeId) (w : World) (s k : Int) : SB T (w.alloc (.cells #[.int .u64 s, .int .u64 k] T)) w.heap.size s k := heap_alloc_new w _
theorem Pr.SB.set1 {T : TypeId} {w : World} {g : Nat} {s k : Int} (h : SB T w g s k) (v : Int) : SB T (w.setCell ⟨g, 1, none⟩ (.int .u64 v)) g s v := by
  unfold SB at h ⊢
  simp [World.setCell, Array.getElem?_modify, h]
theorem Pr.SB.below {T : TypeId} {w w' : World} {g D : Nat} {s k : Int} (h : SB T w g s k) (hb : Below D w w') (hG : g < D) : SB T w' g s k := (hb.block g hG).trans h
theorem Pr.SB.other {T : TypeId} {w w' : World} {g q : Nat} {s k : Int} (h : SB T w g s k) (hg : w.grownBy w' (some q)) (hne : g ≠ q) : SB T w' g s k := (hg.block g h.lt (fun e => hne (by injection e))).trans h
theorem Pr.RT.grown {T : TypeId} {w w' : World} {g : Nat} {s k : Int} (h : RT w) (hs : SB T w g s k) (hg : w.grownBy w' (some g)) : RT w' := by
  obtain ⟨t, fr, hb⟩ := h.block
  have hne : 0 ≠ g := by
    rintro rfl
    unfold SB at hs
    rw [hs] at hb
    injection hb with hb
    injection hb with hb _ _
    exact absurd (congrArg Array.size hb) (by unfold rtab; simp)
  have hlt : 0 < w.heap.size := by
    rcases Nat.lt_or_ge 0 w.heap.size with hlt | hge
    · exact hlt
    · rw [Array.getElem?_eq_none hge] at hb; cases hb
  unfold RT World.var? at h ⊢
  rw [show Tryd.prog.globalNamed "timesync/prng.rounds" = some 0 from by kernel_rfl] at h ⊢
  simp only [Option.bind_some] at h ⊢
  rw [hg.block _ hlt (fun e => hne (by injection e))]
  exact h
theorem Pr.grown_refl (w : World) (r : Option Nat) : w.grownBy w r := ⟨rfl, rfl, rfl, Nat.le_refl _, fun _ _ _ => rfl⟩
theorem Pr.grown_below {w w1 w2 : World} {r : Option Nat} (h : w.grownBy w1 r) (hb : Below w1.heap.size w1 w2) : w.grownBy w2 r :=
  ⟨hb.os.trans h.os, hb.tape.trans h.tape, hb.output.trans h.output, Nat.le_trans h.size hb.size, fun k hk hr => (hb.block k (Nat.lt_of_lt_of_le hk h.size)).trans (h.block k hk hr)⟩
theorem Pr.below_grown {w w1 w2 : World} {r : Option Nat} (hb : Below w.heap.size w w1) (h : w1.grownBy w2 r) : w.grownBy w2 r :=
  ⟨h.os.trans hb.os, h.tape.trans hb.tape, h.output.trans hb.output, Nat.le_trans hb.size h.size, fun k hk hr => (h.block k (Nat.lt_of_lt_of_le hk hb.size) hr).trans (hb.block k hk)⟩
theorem Pr.grown_trans {w w1 w2 : World} {r : Option Nat} (h : w.grownBy w1 r) (h2 : w1.grownBy w2 r) : w.grownBy w2 r :=
  ⟨h2.os.trans h.os, h2.tape.trans h.tape, h2.output.trans h.output, Nat.le_trans h.size h2.size, fun k hk hr => (h2.block k (Nat.lt_of_lt_of_le hk h.size) hr).trans (h.block k hk hr)⟩
theorem Pr.grown_set (w : World) (g i : Nat) (v : Value) : w.grownBy (w.setCell ⟨g, i, none⟩ v) (some g) :=
  ⟨rfl, rfl, rfl, by simp [World.setCell], fun k _ hr => Below.heap_setCell _ _ _ _ (fun e => hr (by rw [e]))⟩
theorem Pr.grown_drew {w w1 : World} {r : Option Nat} (h : w.grownBy w1 r) : w.grownBy w1.drew r := ⟨h.os, h.tape, h.output, h.size, h.block⟩
theorem Pr.drew_grown {w w1 : World} {r : Option Nat} (h : w.drew.grownBy w1 r) : w.grownBy w1 r := ⟨h.os, h.tape, h.output, h.size, h.block⟩
theorem Pr.below_drew {w w1 : World} (hb : Below w.drew.heap.size w.drew w1) : Below w.heap.size w w1 := ⟨hb.os, hb.tape, hb.output, hb.size, hb.block⟩

/-- The step behind a step. -/
def Pr.nx (k : Int) : Int := (k + 1) % 18446744073709551616

theorem pnew_any (s : Int) (w : World) :
    Calls Tryd.prog 14 #[.int .u64 s] w fun e w' => e = .returned (.pointer (some ⟨w.heap.size, 0, none⟩)) ∧ w' = w.alloc (.cells #[.int .u64 s, .int .u64 0] 53) := by
  go_enter Tryd.func14, Tryd.ntmps14
  go_wp2
  go_ret
  exact ⟨rfl, rfl⟩
theorem pnext_nil (w : World) :
    Calls Tryd.prog 16 #[.pointer none] w fun e w' => e = .returned (.int .u64 0) ∧ w' = w := by
  go_enter Tryd.func16, Tryd.ntmps16
  go_wp2
  go_ret
  exact ⟨rfl, rfl⟩
theorem pfork_nil (w : World) :
    Calls Tryd.prog 25 #[.pointer none] w fun e w' => e = .returned (.pointer none) ∧ w' = w := by
  go_enter Tryd.func25, Tryd.ntmps25
  go_wp2
  go_ret
  exact ⟨rfl, rfl⟩
theorem pnext_any (g : Nat) (s k : Int) (w : World) (ht : RT w) (hs : SB 53 w g s k) :
    Calls Tryd.prog 16 #[.pointer (some ⟨g, 0, none⟩)] w fun e w' => e = .returned (.int .u64 (mix s k)) ∧ SB 53 w' g s (nx k) ∧ w.grownBy w' (some g) := by
  obtain ⟨c0, c1, f0, f1⟩ := hs.cells
  have HS := Lib.hid hs
  have HT := Lib.hid ht
  clear hs ht
  go_enter Tryd.func16, Tryd.ntmps16
  go_wp2
  go_region_held3 (fun w' => w'.cell? ⟨g, 0, none⟩ = some (.int .u64 s) ∧ w'.cell? ⟨g, 1, none⟩ = some (.int .u64 k)) (go_keep) ((go_at_call 11; refine (pmix_any s k _ ?_).mono ?_; exact HT.out; rintro e va ⟨rfl, hb⟩; have HB := Lib.hid (below_drew hb); clear hb; have HS1 := Lib.hid (HS.out.below HB.out HS.out.lt); obtain ⟨d0, d1, e0, e1⟩ := HS1.out.cells; clear c0 c1 f0 f1))
  go_wp2
  go_ret
  rw [IntKind.wrap_u64]
  exact ⟨rfl, HS1.out.set1 _, below_grown HB.out (grown_set _ _ _ _)⟩
theorem pfork_any (g : Nat) (s k : Int) (w : World) (ht : RT w) (hs : SB 53 w g s k) :
    Calls Tryd.prog 25 #[.pointer (some ⟨g, 0, none⟩)] w fun e w' => ∃ f, e = .returned (.pointer (some ⟨f, 0, none⟩)) ∧ w.heap.size ≤ f ∧ SB 53 w' f (mix s k) 0 ∧ SB 53 w' g s (nx k) ∧ w.grownBy w' (some g) := by
  have HS := Lib.hid hs
  have HT := Lib.hid ht; clear ht
  clear hs
  go_enter Tryd.func25, Tryd.ntmps25
  go_wp2_with fail
  refine (pnext_any g s k _ HT.out HS.out).mono ?_
  rintro e w1 ⟨rfl, hs1, hg1⟩
  have HS1 := Lib.hid hs1
  have HG1 := Lib.hid hg1
  clear hs1 hg1
  go_wp2_with fail
  refine (pnew_any (mix s k) _).mono ?_
  rintro e w2 ⟨rfl, rfl⟩
  go_wp2_with fail
  go_ret
  have hal : Below w1.heap.size w1 (w1.alloc (.cells #[.int .u64 (mix s k), .int .u64 0] 53)) := (Below.refl _ _).alloc (Nat.le_refl _) _
  exact ⟨_, rfl, HG1.out.size, sb_new _ _ _ _, HS1.out.below hal HS1.out.lt, grown_below HG1.out hal⟩

theorem rnew_any (s : Int) (w : World) :
    Calls Tryd.prog 15 #[.int .u64 s] w fun e w' => e = .returned (.pointer (some ⟨w.heap.size, 0, none⟩)) ∧ w' = w.alloc (.cells #[.int .u64 s, .int .u64 0] 59) := by
  go_enter Tryd.func15, Tryd.ntmps15
  go_wp2
  go_ret
  exact ⟨rfl, rfl⟩
theorem rnext_nil (w : World) :
    Calls Tryd.prog 17 #[.pointer none] w fun e w' => e = .returned (.int .u64 0) ∧ w' = w := by
  go_enter Tryd.func17, Tryd.ntmps17
  go_wp2
  go_ret
  exact ⟨rfl, rfl⟩
theorem rfork_nil (w : World) :
    Calls Tryd.prog 26 #[.pointer none] w fun e w' => e = .returned (.pointer none) ∧ w' = w := by
  go_enter Tryd.func26, Tryd.ntmps26
  go_wp2
  go_ret
  exact ⟨rfl, rfl⟩
theorem rnext_any (g : Nat) (s k : Int) (w : World) (hs : SB 59 w g s k) :
    Calls Tryd.prog 17 #[.pointer (some ⟨g, 0, none⟩)] w fun e w' => e = .returned (.int .u64 (mix s k)) ∧ SB 59 w' g s (nx k) ∧ w.grownBy w' (some g) := by
  obtain ⟨c0, c1, f0, f1⟩ := hs.cells
  have HS := Lib.hid hs
  clear hs
  go_enter Tryd.func17, Tryd.ntmps17
  go_wp2
  go_region_held3 (fun w' => w'.cell? ⟨g, 0, none⟩ = some (.int .u64 s) ∧ w'.cell? ⟨g, 1, none⟩ = some (.int .u64 k)) (go_keep) ((go_at_call 12; refine (rmix_any s k _).mono ?_; rintro e va ⟨rfl, rfl⟩))
  go_wp2
  go_ret
  rw [IntKind.wrap_u64]
  exact ⟨rfl, HS.out.set1 _, grown_drew (grown_set _ _ _ _)⟩
theorem rfork_any (g : Nat) (s k : Int) (w : World) (hs : SB 59 w g s k) :
    Calls Tryd.prog 26 #[.pointer (some ⟨g, 0, none⟩)] w fun e w' => ∃ f, e = .returned (.pointer (some ⟨f, 0, none⟩)) ∧ w.heap.size ≤ f ∧ SB 59 w' f (mix s k) 0 ∧ SB 59 w' g s (nx k) ∧ w.grownBy w' (some g) := by
  have HS := Lib.hid hs
  skip
  clear hs
  go_enter Tryd.func26, Tryd.ntmps26
  go_wp2_with fail
  refine (rnext_any g s k _ HS.out).mono ?_
  rintro e w1 ⟨rfl, hs1, hg1⟩
  have HS1 := Lib.hid hs1
  have HG1 := Lib.hid hg1
  clear hs1 hg1
  go_wp2_with fail
  refine (rnew_any (mix s k) _).mono ?_
  rintro e w2 ⟨rfl, rfl⟩
  go_wp2_with fail
  go_ret
  have hal : Below w1.heap.size w1 (w1.alloc (.cells #[.int .u64 (mix s k), .int .u64 0] 59)) := (Below.refl _ _).alloc (Nat.le_refl _) _
  exact ⟨_, rfl, HG1.out.size, sb_new _ _ _ _, HS1.out.below hal HS1.out.lt, grown_below HG1.out hal⟩

theorem Pr.cnt_w {lo hi : Int} : IntKind.u64.wrap (IntKind.u64.wrap (IntKind.u64.wrap hi - IntKind.u64.wrap lo) + 1) = (hi - lo + 1) % 18446744073709551616 := by
  rw [IntKind.wrap_u64, IntKind.wrap_u64, IntKind.wrap_u64, IntKind.wrap_u64]; omega
theorem between_full (lo hi : Int) (w : World) (h : hi - lo + 1 = 18446744073709551616) :
    Calls Tryd.prog 28 #[.int .i64 lo, .int .i64 hi] w fun e w' => e = .returned (.agg #[.int .i64 lo, .func (.func 29) #[] #[]]) ∧ Below w.heap.size w w' := by
  have hc : (IntKind.u64.wrap (IntKind.u64.wrap (IntKind.u64.wrap hi - IntKind.u64.wrap lo) + 1) == 0) = true := by rw [cnt_w, h]; decide
  clear h
  go_enter Tryd.func28, Tryd.ntmps28
  go_wp2
  exact bodyPost_ret (v := .agg #[.int .i64 lo, .func (.func 29) #[] #[]]) (by simp [results, Tryd.results28, go_sem]) rfl ⟨rfl, ((Below.refl _ _).alloc (Nat.le_refl _) _).alloc (by simp) _⟩
theorem between_part (lo hi : Int) (w : World) (h0 : lo ≤ hi) (h1 : hi - lo + 1 < 18446744073709551616) :
    Calls Tryd.prog 28 #[.int .i64 lo, .int .i64 hi] w fun e w' => e = .returned (.agg #[.int .i64 lo, .func (.func 30) #[] #[.pointer (some ⟨w.heap.size + 1, 0, none⟩)]]) ∧ w'.cell? ⟨w.heap.size + 1, 0, none⟩ = some (.int .u64 (hi - lo + 1)) ∧ w.heap.size + 1 < w'.heap.size ∧ Below w.heap.size w w' := by
  have hv := Lib.hid (show IntKind.u64.wrap (IntKind.u64.wrap (IntKind.u64.wrap hi - IntKind.u64.wrap lo) + 1) = hi - lo + 1 by rw [cnt_w]; omega)
  have hc : (IntKind.u64.wrap (IntKind.u64.wrap (IntKind.u64.wrap hi - IntKind.u64.wrap lo) + 1) == 0) = false := by rw [hv.out]; simp; omega
  clear h0 h1
  go_enter Tryd.func28, Tryd.ntmps28
  go_wp2
  refine bodyPost_ret (v := .agg #[.int .i64 lo, .func (.func 30) #[] #[.pointer (some ⟨w.heap.size + 1, 0, none⟩)]]) (by simp [results, Tryd.results28, go_sem]) rfl ⟨rfl, ?_, ?_, ((Below.refl _ _).alloc (Nat.le_refl _) _).alloc (by simp) _⟩
  · go_simp
    rw [hv.out]
  · simp
theorem pick1_any (x : Int) (w : World) :
    Calls Tryd.prog 29 #[.int .u64 x] w fun e w' => e = .returned (.int .u64 x) ∧ w' = w := by
  go_enter Tryd.func29, Tryd.ntmps29
  go_wp2
  go_ret
  exact ⟨rfl, rfl⟩
theorem pick2_any (x c : Int) (p : Nat) (w : World) (hp : w.cell? ⟨p, 0, none⟩ = some (.int .u64 c)) (x0 : 0 ≤ x) (c0 : 0 < c) :
    Calls Tryd.prog 30 #[.int .u64 x, .pointer (some ⟨p, 0, none⟩)] w fun e w' => e = .returned (.int .u64 (x % c)) ∧ w' = w := by
  have hc : (c == 0) = false := by simp; omega
  go_enter Tryd.func30, Tryd.ntmps30
  go_wp2
  go_ret
  exact ⟨rfl, rfl⟩

/-- What Range returns, and the steps behind it. -/
def Pr.rngV (s k lo hi : Int) : Int := if hi < lo then lo else lo + mix s k % (hi - lo + 1)
def Pr.rngK (k lo hi : Int) : Int := if hi < lo then k else nx k
def Pr.belV (s k n : Int) : Int := if n < 1 then 0 else mix s k % n
def Pr.belK (k n : Int) : Int := if n < 1 then k else nx k
theorem Pr.u64_i64 {lo x : Int} (h0 : -9223372036854775808 ≤ lo + x) (h1 : lo + x ≤ 9223372036854775807) : IntKind.i64.wrap (lo + IntKind.i64.wrap x) = lo + x := by
  simp [IntKind.wrap, IntKind.bits, IntKind.signed]; omega
theorem Pr.u64_i64' {lo x : Int} (h0 : -9223372036854775808 ≤ lo + x) (h1 : lo + x ≤ 9223372036854775807) : IntKind.i64.wrap (IntKind.u64.wrap (IntKind.u64.wrap lo + x)) = lo + x := by
  simp [IntKind.wrap, IntKind.bits, IntKind.signed]; omega
theorem Pr.two_of {w : World} {g : Nat} {a b : Value} {t : TypeId} (h : w.heap[g]? = some (.cells #[a, b] t (0, 0))) : w.cell? ⟨g, 0, none⟩ = some a ∧ w.cell? ⟨g, 1, none⟩ = some b := by
  simp [World.cell?, h]
theorem pres_full (g : Nat) (s k lo : Int) (w : World) (ht : RT w) (hs : SB 53 w g s k) (b0 : -9223372036854775808 ≤ lo + mix s k) (b1 : lo + mix s k ≤ 9223372036854775807) :
    Calls Tryd.prog 27 #[.pointer (some ⟨g, 0, none⟩), .agg #[.int .i64 lo, .func (.func 29) #[] #[]]] w fun e w' => e = .returned (.int .i64 (lo + mix s k)) ∧ SB 53 w' g s (nx k) ∧ w.grownBy w' (some g) := by
  have HS := Lib.hid hs
  have HT := Lib.hid ht
  have HA := Lib.hid ((Below.refl w.heap.size w).alloc (Nat.le_refl _) (.cells #[.int .i64 lo, .func (.func 29) #[] #[]] 63))
  clear hs ht
  go_enter Tryd.func27, Tryd.ntmps27
  go_wp2
  have hn : (w.alloc (.cells #[.int .i64 lo, .func (.func 29) #[] #[]] 63)).heap[w.heap.size]? = some (.cells #[.int .i64 lo, .func (.func 29) #[] #[]] 63 (0, 0)) := heap_alloc_new w _
  have HN := Lib.hid hn
  clear hn
  have hlt2 : w.heap.size < (w.alloc (.cells #[.int .i64 lo, .func (.func 29) #[] #[]] 63)).heap.size := by simp
  have hne2 : some w.heap.size ≠ some g := by intro e; injection e with e; have := HS.out.lt; omega
  go_region_held3 (fun w' => w'.cell? ⟨w.heap.size, 0, none⟩ = some (.int .i64 lo) ∧ w'.cell? ⟨w.heap.size, 1, none⟩ = some (.func (.func 29) #[] #[])) (go_keep)
    (first
      | (go_at_call 16; refine (pnext_any g s k _ ?_ ?_).mono ?_; exact (HT.out.below HA.out.drew); exact (HS.out.below HA.out.drew HS.out.lt); go_loud (rintro e va ⟨rfl, hs1, hg1⟩; have hg2 := drew_grown hg1; have HS1 := Lib.hid hs1; have HG1 := Lib.hid (below_grown HA.out hg2); obtain ⟨d0, d1⟩ := two_of ((hg2.block w.heap.size hlt2 hne2).trans HN.out); clear hs1 hg1 hg2))
      | (go_at_call 29; refine (pick1_any _ _).mono ?_; rintro e vb ⟨rfl, rfl⟩))
  go_wp2
  go_ret
  exact ⟨ret1 (u64_i64 b0 b1), HS1.out, HG1.out⟩
theorem pres_part (g p : Nat) (s k lo c : Int) (w : World) (ht : RT w) (hs : SB 53 w g s k) (hp : w.cell? ⟨p, 0, none⟩ = some (.int .u64 c)) (hpl : p < w.heap.size) (hpg : p ≠ g) (c0 : 0 < c) (b0 : -9223372036854775808 ≤ lo + mix s k % c) (b1 : lo + mix s k % c ≤ 9223372036854775807) :
    Calls Tryd.prog 27 #[.pointer (some ⟨g, 0, none⟩), .agg #[.int .i64 lo, .func (.func 30) #[] #[.pointer (some ⟨p, 0, none⟩)]]] w fun e w' => e = .returned (.int .i64 (lo + mix s k % c)) ∧ SB 53 w' g s (nx k) ∧ w.grownBy w' (some g) := by
  have HS := Lib.hid hs
  have HT := Lib.hid ht
  have HA := Lib.hid ((Below.refl w.heap.size w).alloc (Nat.le_refl _) (.cells #[.int .i64 lo, .func (.func 30) #[] #[.pointer (some ⟨p, 0, none⟩)]] 63))
  clear hs ht
  go_enter Tryd.func27, Tryd.ntmps27
  go_wp2
  have hn : (w.alloc (.cells #[.int .i64 lo, .func (.func 30) #[] #[.pointer (some ⟨p, 0, none⟩)]] 63)).heap[w.heap.size]? = some (.cells #[.int .i64 lo, .func (.func 30) #[] #[.pointer (some ⟨p, 0, none⟩)]] 63 (0, 0)) := heap_alloc_new w _
  have HN := Lib.hid hn
  clear hn
  have HP := Lib.hid ((HA.out.cell (p := ⟨p, 0, none⟩) hpl).trans hp)
  have hpl2 : p < (w.alloc (.cells #[.int .i64 lo, .func (.func 30) #[] #[.pointer (some ⟨p, 0, none⟩)]] 63)).heap.size := by simp; omega
  have hpg2 : some p ≠ some g := by intro e; injection e with e; exact hpg e
  clear hp
  have hlt2 : w.heap.size < (w.alloc (.cells #[.int .i64 lo, .func (.func 30) #[] #[.pointer (some ⟨p, 0, none⟩)]] 63)).heap.size := by simp
  have hne2 : some w.heap.size ≠ some g := by intro e; injection e with e; have := HS.out.lt; omega
  go_region_held3 (fun w' => w'.cell? ⟨w.heap.size, 0, none⟩ = some (.int .i64 lo) ∧ w'.cell? ⟨w.heap.size, 1, none⟩ = some (.func (.func 30) #[] #[.pointer (some ⟨p, 0, none⟩)])) (go_keep)
    (first
      | (go_at_call 16; refine (pnext_any g s k _ ?_ ?_).mono ?_; exact (HT.out.below HA.out.drew); exact (HS.out.below HA.out.drew HS.out.lt); go_loud (rintro e va ⟨rfl, hs1, hg1⟩; have hg2 := drew_grown hg1; have HS1 := Lib.hid hs1; have HQ1 := Lib.hid ((World.cell?_of_block (a := ⟨p, 0, none⟩) (hg2.block p hpl2 hpg2)).trans HP.out); have HG1 := Lib.hid (below_grown HA.out hg2); obtain ⟨d0, d1⟩ := two_of ((hg2.block w.heap.size hlt2 hne2).trans HN.out); clear hs1 hg1 hg2))
      | (go_at_call 30; refine (pick2_any (mix s k) c p _ ?_ ?_ ?_).mono ?_; exact HQ1.out; exact (mix_in s k).1; exact c0; rintro e vb ⟨rfl, rfl⟩))
  go_wp2
  go_ret
  exact ⟨ret1 (u64_i64 b0 b1), HS1.out, HG1.out⟩

set_option linter.unusedVariables false in
theorem prange_any (g : Nat) (s k lo hi : Int) (w : World) (ht : RT w) (hs : SB 53 w g s k) (l0 : -9223372036854775808 ≤ lo) (l1 : lo ≤ 9223372036854775807) (h0 : -9223372036854775808 ≤ hi) (h1 : hi ≤ 9223372036854775807) :
    Calls Tryd.prog 20 #[.pointer (some ⟨g, 0, none⟩), .int .i64 lo, .int .i64 hi] w fun e w' => e = .returned (.int .i64 (rngV s k lo hi)) ∧ SB 53 w' g s (rngK k lo hi) ∧ w.grownBy w' (some g) := by
  have hm := mix_in s k
  have HS := Lib.hid hs
  have HT := Lib.hid ht
  clear hs ht
  by_cases c : hi < lo
  · rw [show rngV s k lo hi = lo from if_pos c, show rngK k lo hi = k from if_pos c]
    go_enter Tryd.func20, Tryd.ntmps20
    go_wp2_with fail
    go_ret
    exact ⟨rfl, HS.out, grown_refl _ _⟩
  · have HV := Lib.hid (show rngV s k lo hi = lo + mix s k % (hi - lo + 1) from if_neg c)
    have HK := Lib.hid (show rngK k lo hi = nx k from if_neg c)
    by_cases f : hi - lo + 1 = 18446744073709551616
    · have f2 := Lib.hid f
      have b0 : -9223372036854775808 ≤ lo + mix s k := by omega
      have b1 : lo + mix s k ≤ 9223372036854775807 := by omega
      have HE := Lib.hid (show lo + mix s k = lo + mix s k % (hi - lo + 1) by rw [f, Int.emod_eq_of_lt hm.1 hm.2])
      clear f
      go_enter Tryd.func20, Tryd.ntmps20
      go_wp2_with fail
      refine (between_full lo hi _ f2.out).mono ?_
      rintro e w1 ⟨rfl, hb1⟩
      have HB1 := Lib.hid hb1
      clear hb1
      go_wp2_with fail
      refine (pres_full g s k lo _ (HT.out.below HB1.out) (HS.out.below HB1.out HS.out.lt) b0 b1).mono ?_
      rintro e w2 ⟨rfl, hs2, hg2⟩
      have HS2 := Lib.hid hs2
      have HG2 := Lib.hid (below_grown HB1.out hg2)
      clear hs2 hg2
      go_wp2_with fail
      go_ret
      exact ⟨ret1 (by rw [HV.out, HE.out]), by rw [HK.out]; exact HS2.out, HG2.out⟩
    · have c1 : 0 < hi - lo + 1 := by omega
      have c2 : hi - lo + 1 < 18446744073709551616 := by omega
      have c3 : lo ≤ hi := by omega
      have e0 := Int.emod_nonneg (mix s k) (show hi - lo + 1 ≠ 0 by omega)
      have e1 := Int.emod_lt_of_pos (mix s k) c1
      have b0 : -9223372036854775808 ≤ lo + mix s k % (hi - lo + 1) := by omega
      have b1 : lo + mix s k % (hi - lo + 1) ≤ 9223372036854775807 := by omega
      clear f e0 e1
      go_enter Tryd.func20, Tryd.ntmps20
      go_wp2_with fail
      refine (between_part lo hi _ c3 c2).mono ?_
      rintro e w1 ⟨rfl, hp1, hz1, hb1⟩
      have HB1 := Lib.hid hb1
      have HP1 := Lib.hid hp1
      clear hb1 hp1
      go_wp2_with fail
      refine (pres_part g (w.heap.size + 1) s k lo (hi - lo + 1) _ (HT.out.below HB1.out) (HS.out.below HB1.out HS.out.lt) HP1.out hz1 (fun e => by have := HS.out.lt; omega) c1 b0 b1).mono ?_
      rintro e w2 ⟨rfl, hs2, hg2⟩
      have HS2 := Lib.hid hs2
      have HG2 := Lib.hid (below_grown HB1.out hg2)
      clear hs2 hg2
      go_wp2_with fail
      go_ret
      exact ⟨ret1 (by rw [HV.out]), by rw [HK.out]; exact HS2.out, HG2.out⟩
end Go.Proofs.YtoofnodcdlaheaaDoor
