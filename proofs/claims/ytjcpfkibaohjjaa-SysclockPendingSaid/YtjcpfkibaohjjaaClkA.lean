/- Contracts of layer 10: boxes of states; the small functions. -/
import Derived.Test.YtjcpfkibaohjjaaFixE
import Derived.Test.YtjcpfkibaohjjaaClkM
import Derived.Below
import Derived.Deep.RegionHeld3
import Derived.BigRegion
import Derived.Laws.EntriesVeiled
import Derived.Outline
namespace Go.Proofs.Ytjcpfkibaohjjaa
open Go.RowKit Fx Ck

/-- Block C holds a state. -/
def Ck.KB (T : TypeId) (w : World) (C : Nat) (x : St) : Prop := w.heap[C]? = some (.cells #[.int .i64 x.r, .int .i64 x.t, .int .i64 x.p, .int .i64 x.l, .int .i64 x.q, .int .i64 x.s] T (0, 0))
theorem Ck.KB.lt {T : TypeId} {w : World} {C : Nat} {x : St} (h : KB T w C x) : C < w.heap.size := by
  rcases Nat.lt_or_ge C w.heap.size with hlt | hge
  · exact hlt
  · unfold KB at h; rw [Array.getElem?_eq_none hge] at h; cases h
theorem Ck.KB.cells {T : TypeId} {w : World} {C : Nat} {x : St} (h : KB T w C x) :
    w.cell? ⟨C, 0, none⟩ = some (.int .i64 x.r) ∧ w.cell? ⟨C, 1, none⟩ = some (.int .i64 x.t) ∧ w.cell? ⟨C, 2, none⟩ = some (.int .i64 x.p) ∧ w.cell? ⟨C, 3, none⟩ = some (.int .i64 x.l) ∧ w.cell? ⟨C, 4, none⟩ = some (.int .i64 x.q) ∧ w.cell? ⟨C, 5, none⟩ = some (.int .i64 x.s) := by
  unfold KB at h; simp [World.cell?, h]
theorem Ck.KB.thaw {T : TypeId} {w : World} {C : Nat} {x : St} (h : KB T w C x) :
    w.frozen? ⟨C, 0, none⟩ = false ∧ w.frozen? ⟨C, 1, none⟩ = false ∧ w.frozen? ⟨C, 2, none⟩ = false ∧ w.frozen? ⟨C, 3, none⟩ = false ∧ w.frozen? ⟨C, 4, none⟩ = false ∧ w.frozen? ⟨C, 5, none⟩ = false := by
  unfold KB at h; simp [World.frozen?, h]
theorem Ck.KB.below {T : TypeId} {w w' : World} {C D : Nat} {x : St} (h : KB T w C x) (hb : Below D w w') (hC : C < D) : KB T w' C x := (hb.block C hC).trans h
theorem Ck.KB.alloc {T : TypeId} {w : World} {C : Nat} {x : St} (h : KB T w C x) (o : Obj) : KB T (w.alloc o) C x := (Below.heap_alloc _ _ _ h.lt).trans h
theorem Ck.kb_new (T : TypeId) (w : World) (r t p l q s : Int) : KB T (w.alloc (.cells #[.int .i64 r, .int .i64 t, .int .i64 p, .int .i64 l, .int .i64 q, .int .i64 s] T)) w.heap.size ⟨r, t, p, l, q, s⟩ := heap_alloc_new w _
theorem Ck.KB.grown {T : TypeId} {w w' : World} {C D : Nat} {x : St} (h : KB T w C x) (hg : w.grownBy w' (some D)) (hne : C ≠ D) : KB T w' C x := (hg.block C h.lt (fun e => hne (by injection e))).trans h
theorem Ck.KB.drewN {T : TypeId} {w : World} {C : Nat} {x : St} (h : KB T w C x) (n : Nat) : KB T (w.drewN n) C x := h
theorem Ck.KB.other {T : TypeId} {w : World} {C D i : Nat} {x : St} (h : KB T w C x) (hne : C ≠ D) (v : Value) : KB T (w.setCell ⟨D, i, none⟩ v) C x :=
  (Below.heap_setCell w ⟨D, i, none⟩ v C (fun e => hne (by rw [e]))).trans h
theorem Ck.KB.set0 {T : TypeId} {w : World} {C : Nat} {x : St} (h : KB T w C x) (v : Int) : KB T (w.setCell ⟨C, 0, none⟩ (.int .i64 v)) C ⟨v, x.t, x.p, x.l, x.q, x.s⟩ := by
  unfold KB at *; simp [World.setCell, Array.getElem?_modify, h]
theorem Ck.KB.set1 {T : TypeId} {w : World} {C : Nat} {x : St} (h : KB T w C x) (v : Int) : KB T (w.setCell ⟨C, 1, none⟩ (.int .i64 v)) C ⟨x.r, v, x.p, x.l, x.q, x.s⟩ := by
  unfold KB at *; simp [World.setCell, Array.getElem?_modify, h]
theorem Ck.KB.set2 {T : TypeId} {w : World} {C : Nat} {x : St} (h : KB T w C x) (v : Int) : KB T (w.setCell ⟨C, 2, none⟩ (.int .i64 v)) C ⟨x.r, x.t, v, x.l, x.q, x.s⟩ := by
  unfold KB at *; simp [World.setCell, Array.getElem?_modify, h]
theorem Ck.KB.set3 {T : TypeId} {w : World} {C : Nat} {x : St} (h : KB T w C x) (v : Int) : KB T (w.setCell ⟨C, 3, none⟩ (.int .i64 v)) C ⟨x.r, x.t, x.p, v, x.q, x.s⟩ := by
  unfold KB at *; simp [World.setCell, Array.getElem?_modify, h]
theorem Ck.KB.set4 {T : TypeId} {w : World} {C : Nat} {x : St} (h : KB T w C x) (v : Int) : KB T (w.setCell ⟨C, 4, none⟩ (.int .i64 v)) C ⟨x.r, x.t, x.p, x.l, v, x.s⟩ := by
  unfold KB at *; simp [World.setCell, Array.getElem?_modify, h]
theorem Ck.KB.set5 {T : TypeId} {w : World} {C : Nat} {x : St} (h : KB T w C x) (v : Int) : KB T (w.setCell ⟨C, 5, none⟩ (.int .i64 v)) C ⟨x.r, x.t, x.p, x.l, x.q, v⟩ := by
  unfold KB at *; simp [World.setCell, Array.getElem?_modify, h]
theorem Ck.below_set {a w : World} {B C i : Nat} (h : Below B a w) (hC : B ≤ C) (v : Value) : Below B a (w.setCell ⟨C, i, none⟩ v) :=
  h.trans ⟨rfl, rfl, rfl, by simp [World.setCell], fun k hk => Below.heap_setCell w ⟨C, i, none⟩ v k (fun e => by simp at e; omega)⟩
theorem Ck.blw (w : World) (n : Nat) : Below w.heap.size w (w.drewN n) := ⟨rfl, rfl, rfl, Nat.le_refl _, fun _ _ => rfl⟩
theorem Ck.blwn {a w : World} {B : Nat} (h : Below B a w) (n : Nat) : Below B a (w.drewN n) := ⟨h.os, h.tape, h.output, h.size, h.block⟩
theorem Ck.grown_below {w w1 w2 : World} {r : Option Nat} (h : w.grownBy w1 r) (hb : Below w1.heap.size w1 w2) : w.grownBy w2 r :=
  ⟨hb.os.trans h.os, hb.tape.trans h.tape, hb.output.trans h.output, Nat.le_trans h.size hb.size, fun k hk hr => (hb.block k (Nat.lt_of_lt_of_le hk h.size)).trans (h.block k hk hr)⟩
theorem Ck.below_grown {w w1 w2 : World} {r : Option Nat} (hb : Below w.heap.size w w1) (h : w1.grownBy w2 r) : w.grownBy w2 r :=
  ⟨h.os.trans hb.os, h.tape.trans hb.tape, h.output.trans hb.output, Nat.le_trans hb.size h.size, fun k hk hr => (h.block k (Nat.lt_of_lt_of_le hk hb.size) hr).trans (hb.block k hk)⟩
theorem Ck.grown_set {w w1 : World} {g i : Nat} (h : w.grownBy w1 (some g)) (v : Value) : w.grownBy (w1.setCell ⟨g, i, none⟩ v) (some g) :=
  ⟨h.os, h.tape, h.output, by simpa [World.setCell] using h.size, fun k hk hr => (Below.heap_setCell _ _ _ _ (fun e => hr (by rw [e]))).trans (h.block k hk hr)⟩
/-- What is unchanged below D stays so where only block g, from D on, is written. -/
theorem Ck.below_of_grown {w0 w w' : World} {D g : Nat} (h : Below D w0 w) (hg : w.grownBy w' (some g)) (hD : D ≤ g) (hz : D ≤ w.heap.size) : Below D w0 w' :=
  h.trans ⟨hg.os, hg.tape, hg.output, hg.size, fun k hk => hg.block k (by omega) (fun e => by injection e; omega)⟩
theorem Ck.bwcells {W w1 : World} {D : Nat} (hb : Below D W w1) : (∀ b o, b < D → w1.cell? ⟨b, o, none⟩ = W.cell? ⟨b, o, none⟩) ∧ (∀ b o, b < D → w1.frozen? ⟨b, o, none⟩ = W.frozen? ⟨b, o, none⟩) :=
  ⟨fun b o h => hb.cell (p := ⟨b, o, none⟩) h, fun b o h => hb.frozen (p := ⟨b, o, none⟩) h⟩
theorem Ck.retb {a b : Bool} (h : a = b) : Ending.returned (.bool a) = .returned (.bool b) := by rw [h]

theorem win_any (n b : Int) (w : World) (h0 : 0 ≤ b) (h1 : b ≤ 9223372036854775807) :
    Calls Try.prog 33 #[.int .i64 n, .int .i64 b] w fun e w' => e = .returned (.bool (win n b)) ∧ w = w' := by
  by_cases h : -b ≤ n
  · by_cases h' : n ≤ b
    · rw [win_yes h h']
      go_enter Try.func33, Try.ntmps33
      go_wp2
      go_ret
      exact ⟨rfl, rfl⟩
    · rw [win_no (by omega)]
      go_enter Try.func33, Try.ntmps33
      go_wp2
      go_ret
      exact ⟨rfl, rfl⟩
  · rw [win_no (by omega)]
    go_enter Try.func33, Try.ntmps33
    go_wp2
    go_ret
    exact ⟨rfl, rfl⟩
theorem rwin_any (n b : Int) (w : World) (h0 : 0 ≤ b) (h1 : b ≤ 9223372036854775807) :
    Calls Try.prog 38 #[.int .i64 n, .int .i64 b] w fun e w' => e = .returned (.bool (win n b)) ∧ w = w' := by
  by_cases h : -b ≤ n
  · by_cases h' : n ≤ b
    · rw [win_yes h h']
      go_enter Try.func38, Try.ntmps38
      go_wp2
      go_ret
      exact ⟨rfl, rfl⟩
    · rw [win_no (by omega)]
      go_enter Try.func38, Try.ntmps38
      go_wp2
      go_ret
      exact ⟨rfl, rfl⟩
  · rw [win_no (by omega)]
    go_enter Try.func38, Try.ntmps38
    go_wp2
    go_ret
    exact ⟨rfl, rfl⟩
theorem sg_any (n : Int) (w : World) :
    Calls Try.prog 47 #[.int .i64 n] w fun e w' => e = .returned (.int .i64 (sg n)) ∧ w = w' := by
  rcases Int.lt_trichotomy 0 n with h | h | h
  · rw [sg_pos h]
    go_enter Try.func47, Try.ntmps47
    go_wp2
    go_ret
    exact ⟨rfl, rfl⟩
  · subst h
    rw [sg_zero]
    go_enter Try.func47, Try.ntmps47
    go_wp2
    go_ret
    exact ⟨rfl, rfl⟩
  · rw [sg_neg h]
    have h2 : ¬ 0 < n := by omega
    go_enter Try.func47, Try.ntmps47
    go_wp2
    go_ret
    exact ⟨rfl, rfl⟩
theorem rsg_any (n : Int) (w : World) :
    Calls Try.prog 45 #[.int .i64 n] w fun e w' => e = .returned (.int .i64 (sg n)) ∧ w = w' := by
  rcases Int.lt_trichotomy 0 n with h | h | h
  · rw [sg_pos h]
    go_enter Try.func45, Try.ntmps45
    go_wp2
    go_ret
    exact ⟨rfl, rfl⟩
  · subst h
    rw [sg_zero]
    go_enter Try.func45, Try.ntmps45
    go_wp2
    go_ret
    exact ⟨rfl, rfl⟩
  · rw [sg_neg h]
    have h2 : ¬ 0 < n := by omega
    go_enter Try.func45, Try.ntmps45
    go_wp2
    go_ret
    exact ⟨rfl, rfl⟩
theorem cnt_any (e p : Int) (w : World) (h0 : 0 ≤ e) (h1 : e ≤ 9007199254740992) (h2 : -1000000 ≤ p) (h3 : p ≤ 1000000) :
    Calls Try.prog 46 #[.int .i64 e, .int .i64 p] w fun x w' => x = .returned (.int .i64 (cnt e p)) ∧ ∃ n, w' = w.drewN n := by
  have b := fl_bound h0 h1 h2 h3
  have hq : qok (e * p) 1000000000 = true := qok_iff.2 ⟨by decide, by show _ ≤ e * p / 1000000000 ∧ e * p / 1000000000 ≤ _; omega⟩
  have hf : flo (e * p) 1000000000 = e * p / 1000000000 := if_pos (by decide)
  obtain ⟨g, hg⟩ : ∃ g, e * p / 1000000000 = g := ⟨_, rfl⟩
  have hs : sel (qok (e * p) 1000000000) (flo (e * p) 1000000000) = g := by rw [hq, hf, sel_true, hg]
  have hc : cnt e p = e + g := by unfold cnt; rw [hg]
  rw [hg] at b
  have HS := Lib.hid hs
  have HQ := Lib.hid hq
  have HC := Lib.hid hc
  clear hs hq hc hf hg
  obtain ⟨b0, b1⟩ := b
  go_enter Try.func46, Try.ntmps46
  go_wp2_with fail
  refine (muldiv_any e p 1000000000 _ (by omega) (by omega) (by omega) (by omega) (by decide) (by decide)).mono ?_
  rintro x w' ⟨rfl, n, hw'⟩
  subst w'
  rw [HS.out, HQ.out]
  go_wp2_with fail
  go_ret
  exact ⟨ret1 HC.out.symm, n, rfl⟩
theorem part_any (e p : Int) (w : World) (h0 : 0 ≤ e) (h1 : e ≤ 9007199254740992) (h2 : -1000000 ≤ p) (h3 : p ≤ 1000000) :
    Calls Try.prog 44 #[.int .i64 e, .int .i64 p] w fun x w' => x = .returned (.int .i64 (e * p / 1000000000)) ∧ w = w' := by
  have e1 := mul_bound (e := e / 1000000000) (p := p) (M := 9007200) (N := 1000000) (by omega) (by omega) h2 h3 (by omega)
  have e2 := mul_bound (e := e % 1000000000) (p := p) (M := 1000000000) (N := 1000000) (by omega) (by omega) h2 h3 (by omega)
  have hsplit : e * p = 1000000000 * (e / 1000000000 * p) + e % 1000000000 * p := by
    have := Int.mul_ediv_add_emod e 1000000000
    rw [show e * p = (1000000000 * (e / 1000000000) + e % 1000000000) * p from by rw [this], Int.add_mul, Int.mul_assoc]
  have hd : e.tdiv 1000000000 = e / 1000000000 := Int.tdiv_eq_ediv_of_nonneg h0
  have hm : e.tmod 1000000000 = e % 1000000000 := Int.tmod_eq_emod_of_nonneg h0
  obtain ⟨A, hA⟩ : ∃ A, e / 1000000000 * p = A := ⟨_, rfl⟩
  obtain ⟨B, hB⟩ : ∃ B, e % 1000000000 * p = B := ⟨_, rfl⟩
  rw [hA] at hsplit e1
  rw [hB] at hsplit e2
  have hX : e * p / 1000000000 = A + B / 1000000000 := by rw [hsplit]; omega
  have HX := Lib.hid hX
  have hw1 : IntKind.i64.wrap (e % 1000000000 * p) = B := by rw [hB]; exact IntWalk.i64_in _ (by omega)
  clear hsplit hX hd hm
  have hT : B.tdiv 1000000000 = if B < 0 then -((-B) / 1000000000) else B / 1000000000 := by
    split
    · rw [show B = -(-B) from by omega, Int.neg_tdiv, Int.tdiv_eq_ediv_of_nonneg (by omega), Int.neg_neg]
    · exact Int.tdiv_eq_ediv_of_nonneg (by omega)
  have hM : B.tmod 1000000000 = B - 1000000000 * B.tdiv 1000000000 := by have := Int.mul_tdiv_add_tmod B 1000000000; omega
  obtain ⟨u, hu⟩ : ∃ u, B.tdiv 1000000000 = u := ⟨_, rfl⟩
  obtain ⟨v, hv⟩ : ∃ v, B.tmod 1000000000 = v := ⟨_, rfl⟩
  rw [hu] at hT hM
  rw [hv] at hM
  have u0 : -10000000000000 ≤ u ∧ u ≤ 10000000000000 := by rw [hT]; split <;> omega
  have hF : (v < 0 → B / 1000000000 = u - 1) ∧ (0 ≤ v → B / 1000000000 = u) := by rw [hM, hT]; split <;> omega
  clear hM hT
  have HF := Lib.hid hF
  obtain ⟨a0, a1⟩ := e1
  obtain ⟨u0, u1⟩ := u0
  obtain ⟨c0, c1⟩ := e2
  clear hF
  by_cases hlt : v < 0
  · have hd : decide (v < 0) = true := decide_eq_true hlt
    go_enter Try.func44, Try.ntmps44
    go_wp2
    go_ret
    exact ⟨ret1 (by rw [HX.out, HF.out.1 hlt]), rfl⟩
  · have hd : decide (v < 0) = false := decide_eq_false hlt
    go_enter Try.func44, Try.ntmps44
    go_wp2
    go_ret
    exact ⟨ret1 (by rw [HX.out, HF.out.2 (by omega)]), rfl⟩

/-- The state in a box of the call's own. -/
theorem slewed_any (r t p l q s e : Int) (w : World) (hl0 : -4503599627370496 ≤ l) (hl1 : l ≤ 4503599627370496) (hq0 : 0 ≤ q) (hq1 : q ≤ 500000) (h0 : 0 ≤ e) (h1 : e ≤ 9007199254740992) :
    Calls Try.prog 42 #[.agg #[.int .i64 r, .int .i64 t, .int .i64 p, .int .i64 l, .int .i64 q, .int .i64 s], .int .i64 e] w fun x w' => x = .returned (.int .i64 (slw l q e)) ∧ Below w.heap.size w w' := by
  have b := mst_bound h0 h1 hq0 hq1
  have hq : qok (e * q) 1000000000 = true := qok_iff.2 ⟨by decide, by show _ ≤ e * q / 1000000000 ∧ e * q / 1000000000 ≤ _; omega⟩
  have hf : flo (e * q) 1000000000 = e * q / 1000000000 := if_pos (by decide)
  obtain ⟨g, hg⟩ : ∃ g, e * q / 1000000000 = g := ⟨_, rfl⟩
  have hs : sel (qok (e * q) 1000000000) (flo (e * q) 1000000000) = g := by rw [hq, hf, sel_true, hg]
  have hc : slw l q e = clampI l (-g) g := by unfold slw; rw [hg]; rfl
  rw [hg] at b
  have HS := Lib.hid hs
  have HQ := Lib.hid hq
  have HC := Lib.hid hc
  clear hs hq hc hf hg
  obtain ⟨b0, b1⟩ := b
  go_enter Try.func42, Try.ntmps42
  go_wp2_with fail
  refine (muldiv_any e q 1000000000 _ (by omega) (by omega) (by omega) (by omega) (by decide) (by decide)).mono ?_
  rintro x w' ⟨rfl, n, hw'⟩
  subst w'
  rw [HS.out, HQ.out]
  go_wp2_with fail
  refine (clamp_any _ _ _ _).mono ?_
  rintro x w' ⟨rfl, rfl⟩
  go_wp2_with fail
  go_ret
  exact ⟨ret1 HC.out.symm, blwn ((Below.refl _ _).alloc (Nat.le_refl _) _) n⟩
theorem slen_zero (r t p q s : Int) (w : World) :
    Calls Try.prog 48 #[.agg #[.int .i64 r, .int .i64 t, .int .i64 p, .int .i64 0, .int .i64 q, .int .i64 s]] w fun x w' => x = .returned (.int .i64 (ln 0 q)) ∧ Below w.heap.size w w' := by
  rw [ln_zero]
  go_enter Try.func48, Try.ntmps48
  go_wp2
  go_ret
  exact ⟨rfl, (Below.refl _ _).alloc (Nat.le_refl _) _⟩
theorem slen_any (r t p l q s : Int) (w : World) (hl0 : -4503599627370496 ≤ l) (hl1 : l ≤ 4503599627370496) (hq0 : 0 < q) (hq1 : q ≤ 500000) (hb : ln l q ≤ 9007199254740992) :
    Calls Try.prog 48 #[.agg #[.int .i64 r, .int .i64 t, .int .i64 p, .int .i64 l, .int .i64 q, .int .i64 s]] w fun x w' => x = .returned (.int .i64 (ln l q)) ∧ Below w.heap.size w w' := by
  by_cases hl : l = 0
  · subst hl; exact slen_zero r t p q s w
  · have hn := ln_nonneg (l := l) hq0
    have hlb : (l == 0) = false := by simpa using hl
    have hL : ln l q = -(-(sg l * l) * 1000000000 / q) := if_neg hl
    have hsg : sg l * l = mag l := by
      unfold mag
      split
      · rename_i h; rw [sg_neg h]; omega
      · rename_i h; rw [sg_pos (by omega)]; omega
    have hms : -(sg l) * l = -mag l := by rw [Int.neg_mul, hsg]
    have hmb : 0 ≤ mag l ∧ mag l ≤ 4503599627370496 := by unfold mag; split <;> omega
    obtain ⟨g, hg⟩ : ∃ g, -(sg l * l) * 1000000000 / q = g := ⟨_, rfl⟩
    rw [hL, hg] at hb hn
    have hf : flo (-mag l * 1000000000) q = g := by unfold flo; rw [if_pos hq0, ← hsg, hg]
    have hq : qok (-mag l * 1000000000) q = true := qok_iff.2 ⟨by omega, by rw [hf]; omega⟩
    have hs : sel (qok (-mag l * 1000000000) q) (flo (-mag l * 1000000000) q) = g := by rw [hq, hf, sel_true]
    have HL := Lib.hid (show ln l q = -g by rw [hL, hg])
    obtain ⟨m0, m1⟩ := hmb
    have sb : -1 ≤ sg l ∧ sg l ≤ 1 := by unfold sg; split <;> (try split) <;> omega
    obtain ⟨s0, s1⟩ := sb
    obtain ⟨M, hM⟩ : ∃ M, mag l = M := ⟨_, rfl⟩
    obtain ⟨G, hG⟩ : ∃ G, sg l = G := ⟨_, rfl⟩
    rw [hG] at s0 s1 hms
    rw [hM] at hms m0 m1 hs hq
    have HS := Lib.hid hs
    have HQ := Lib.hid hq
    have HM := Lib.hid hM
    have HG := Lib.hid hG
    clear hL hsg hg hf hq hs hl hM hG
    go_enter Try.func48, Try.ntmps48
    go_wp2_with fail
    go_quiet (first | (go_at_call 47; exact Calls.quiet_of_same ((sg_any _ _).mono (by rintro e w' ⟨rfl, rfl⟩; rw [HG.out]; exact ⟨rfl, rfl⟩))) | (go_at_call 49; exact Calls.quiet_of ((muldiv_any _ _ _ _ (by omega) (by omega) (by omega) (by omega) (by omega) (by omega)).mono (by rintro e w' ⟨rfl, n, hw'⟩; subst hw'; exact ⟨rfl, n, rfl⟩))))
    rw [HS.out, HQ.out]
    go_wp2_with fail
    go_ret
    exact ⟨ret1 HL.out.symm, blwn ((Below.refl _ _).alloc (Nat.le_refl _) _) _⟩
/-- The specification's length: the length of the slew where it is in reach. -/
def Ck.rln (l q : Int) : Int := if ln l q ≤ 9007199254740992 then ln l q else 1152921504606846976
theorem Ck.ln_abs {l q : Int} (hq : 0 < q) : ln l q = mag l / q * 1000000000 + (mag l % q * 1000000000 + q - 1) / q := by
  have hm : sg l * l = mag l := by
    unfold mag
    split
    · rename_i h; rw [sg_neg h]; omega
    · rename_i h
      rcases Int.lt_or_eq_of_le (show 0 ≤ l by omega) with h' | h'
      · rw [sg_pos h']; omega
      · subst h'; rfl
  have key : ln l q = -(-(mag l) * 1000000000 / q) := by
    unfold ln
    by_cases hl : l = 0
    · subst hl; rw [if_pos rfl]; simp [mag]
    · rw [if_neg hl, hm]
  rw [key]
  obtain ⟨m, hm'⟩ : ∃ m, mag l = m := ⟨_, rfl⟩
  rw [hm']
  have e1 := Int.mul_ediv_add_emod m q
  have e2 := Int.emod_nonneg m (show q ≠ 0 by omega)
  obtain ⟨a, ha⟩ : ∃ a, m / q = a := ⟨_, rfl⟩
  obtain ⟨b, hb⟩ : ∃ b, m % q = b := ⟨_, rfl⟩
  rw [ha, hb] at e1 ⊢
  rw [hb] at e2
  have hs : -m * 1000000000 = -(b * 1000000000) + q * -(a * 1000000000) := by
    rw [← e1, Int.mul_neg, ← Int.mul_assoc]; omega
  rw [hs, Int.add_mul_ediv_left _ _ (by omega)]
  have hc : -(-(b * 1000000000) / q) = (b * 1000000000 + q - 1) / q := by
    obtain ⟨n, hn⟩ : ∃ n, b * 1000000000 = n := ⟨_, rfl⟩
    rw [hn]
    have h1 : -n / q = -((n + q - 1) / q) := by
      have f1 := Int.mul_ediv_add_emod (n + q - 1) q
      have f2 := Int.emod_nonneg (n + q - 1) (show q ≠ 0 by omega)
      have f3 := Int.emod_lt_of_pos (n + q - 1) hq
      obtain ⟨y, hy⟩ : ∃ y, (n + q - 1) / q = y := ⟨_, rfl⟩
      obtain ⟨z, hz⟩ : ∃ z, (n + q - 1) % q = z := ⟨_, rfl⟩
      rw [hy, hz] at f1
      rw [hz] at f2 f3
      rw [hy]
      have : -n = (q - 1 - z) + q * -y := by rw [Int.mul_neg]; omega
      rw [this, Int.add_mul_ediv_left _ _ (by omega), Int.ediv_eq_zero_of_lt (by omega) (by omega)]
      omega
    rw [h1]; omega
  omega
theorem Ck.mag_max (l : Int) : max l (-l) = mag l := by unfold mag; split <;> omega
theorem rlen_zero (r t p q s : Int) (w : World) :
    Calls Try.prog 43 #[.agg #[.int .i64 r, .int .i64 t, .int .i64 p, .int .i64 0, .int .i64 q, .int .i64 s]] w fun x w' => x = .returned (.int .i64 (rln 0 q)) ∧ Below w.heap.size w w' := by
  have H : rln 0 q = 0 := by unfold rln; rw [ln_zero]; rfl
  rw [H]
  go_enter Try.func43, Try.ntmps43
  go_wp2
  go_ret
  exact ⟨rfl, (Below.refl _ _).alloc (Nat.le_refl _) _⟩
theorem rlen_far (r t p l q s : Int) (w : World) (hl0 : -4503599627370496 ≤ l) (hl1 : l ≤ 4503599627370496) (hq0 : 0 < q) (hq1 : q ≤ 500000) (hl : l ≠ 0) (hf : 10000000 < max l (-l) / q) :
    Calls Try.prog 43 #[.agg #[.int .i64 r, .int .i64 t, .int .i64 p, .int .i64 l, .int .i64 q, .int .i64 s]] w fun x w' => x = .returned (.int .i64 (rln l q)) ∧ Below w.heap.size w w' := by
  obtain ⟨M, hM⟩ : ∃ M, max l (-l) = M := ⟨_, rfl⟩
  have hla := ln_abs (l := l) hq0
  rw [← mag_max, hM] at hla
  have d3 : (M == 0) = false := by simp; omega
  have m0 : 0 < M := by omega
  have m1 : M ≤ 4503599627370496 := by omega
  have hqz : (q == 0) = false := by simp; omega
  have e2 := Int.emod_nonneg M (show q ≠ 0 by omega)
  have e3 := Int.emod_lt_of_pos M hq0
  have a0 : 0 ≤ M / q := Int.ediv_nonneg (by omega) (by omega)
  have a1 : M / q ≤ M := Int.ediv_le_self _ (by omega)
  have b0 : 0 ≤ (M % q * 1000000000 + q - 1) / q := Int.ediv_nonneg (by omega) (by omega)
  have b1 : (M % q * 1000000000 + q - 1) / q ≤ 1000000000 := by
    have h1 : (M % q * 1000000000 + q - 1) / q ≤ (1000000000 * q) / q := Int.ediv_le_ediv hq0 (by omega)
    rwa [Int.mul_ediv_cancel _ (by omega)] at h1
  rw [hM] at hf
  have HL : Hid (rln l q = 1152921504606846976) := Lib.hid (by unfold rln; rw [if_neg (by omega)])
  clear hla hl b0 b1
  go_enter Try.func43, Try.ntmps43
  go_wp2_with fail
  go_quiet (fail)
  go_wp2_with fail
  go_ret
  exact ⟨ret1 HL.out.symm, blwn ((Below.refl _ _).alloc (Nat.le_refl _) _) _⟩
theorem rlen_near (r t p l q s : Int) (w : World) (hl0 : -4503599627370496 ≤ l) (hl1 : l ≤ 4503599627370496) (hq0 : 0 < q) (hq1 : q ≤ 500000) (hl : l ≠ 0) (hf : ¬ 10000000 < max l (-l) / q) :
    Calls Try.prog 43 #[.agg #[.int .i64 r, .int .i64 t, .int .i64 p, .int .i64 l, .int .i64 q, .int .i64 s]] w fun x w' => (x = .returned (.int .i64 (ln l q)) ∧ ln l q ≤ 10000001000000000 ∧ 0 ≤ ln l q) ∧ Below w.heap.size w w' := by
  obtain ⟨M, hM⟩ : ∃ M, max l (-l) = M := ⟨_, rfl⟩
  have hla := ln_abs (l := l) hq0
  rw [← mag_max, hM] at hla
  have d3 : (M == 0) = false := by simp; omega
  have m0 : 0 < M := by omega
  have m1 : M ≤ 4503599627370496 := by omega
  have hqz : (q == 0) = false := by simp; omega
  have e2 := Int.emod_nonneg M (show q ≠ 0 by omega)
  have e3 := Int.emod_lt_of_pos M hq0
  have a0 : 0 ≤ M / q := Int.ediv_nonneg (by omega) (by omega)
  have a1 : M / q ≤ M := Int.ediv_le_self _ (by omega)
  have b0 : 0 ≤ (M % q * 1000000000 + q - 1) / q := Int.ediv_nonneg (by omega) (by omega)
  have b1 : (M % q * 1000000000 + q - 1) / q ≤ 1000000000 := by
    have h1 : (M % q * 1000000000 + q - 1) / q ≤ (1000000000 * q) / q := Int.ediv_le_ediv hq0 (by omega)
    rwa [Int.mul_ediv_cancel _ (by omega)] at h1
  rw [hM] at hf
  have HL := Lib.hid hla
  have hb : ln l q ≤ 10000001000000000 ∧ 0 ≤ ln l q := by rw [hla]; omega
  have HB := Lib.hid hb
  clear hla hl hb
  go_enter Try.func43, Try.ntmps43
  go_wp2_with fail
  go_quiet (fail)
  go_wp2_with fail
  go_ret
  exact ⟨⟨ret1 HL.out.symm, HB.out⟩, blwn ((Below.refl _ _).alloc (Nat.le_refl _) _) _⟩
end Go.Proofs.Ytjcpfkibaohjjaa
