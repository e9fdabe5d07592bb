/- Contracts of layer 6: a number, the numbers of a line. -/
import Derived.Test.YtegpajdahanhfaaGreatDoorLeaJ
import Derived.Lib.AtoiAllCases
namespace Go.Proofs.YtegpajdahanhfaaGreatDoor
open Go.RowKit Go.Shelf Fx Cv Lp
attribute [local go_sem] Oper.semAt_some

/-- The two errors' variables hold errors. -/
def Lp.Errs (w : World) : Prop := (∃ t p, w.var? Tryz.prog "strconv.ErrSyntax" = some #[.iface t p]) ∧ (∃ t p, w.var? Tryz.prog "strconv.ErrRange" = some #[.iface t p])
theorem Lp.Errs.below {w w' : World} (h : Errs w) (hb : Below w.heap.size w w') : Errs w' := by
  obtain ⟨⟨t, p, h1⟩, u, q, h2⟩ := h
  exact ⟨⟨t, p, var_keep h1 hb⟩, u, q, var_keep h2 hb⟩
theorem Lp.below_bytes (w : World) (e : TypeId) (t : ByteArray) : Below w.heap.size w (Lib.bytesWorld w e t) := by
  refine ⟨rfl, rfl, rfl, ?_, fun i hi => Lib.bytesWorld_at_old w e t i hi⟩
  rw [Lib.bytesWorld_size]; omega
/-- The int that a text is, as it is written. -/
def Lp.numOf (l : List UInt8) : Option Int :=
  match Lib.atoiAll l with
  | .ok v => if nt v = l then some v else none
  | _ => none
def Lp.numV (l : List UInt8) : Int := (numOf l).getD 0
def Lp.numB (l : List UInt8) : Bool := (numOf l).isSome
theorem Lp.num_bad {l : List UInt8} (h : numOf l = none) : Ending.returned (.tuple #[.int .i64 0, .bool false]) = .returned (.tuple #[.int .i64 (numV l), .bool (numB l)]) := by
  unfold numV numB; rw [h]; rfl
theorem Lp.num_ok {l : List UInt8} {v : Int} (h : numOf l = some v) : Ending.returned (.tuple #[.int .i64 v, .bool true]) = .returned (.tuple #[.int .i64 (numV l), .bool (numB l)]) := by
  unfold numV numB; rw [h]; rfl

set_option maxRecDepth 100000 in
theorem lnumber_any (x : ByteArray) (w : World) (hs : x.size ≤ 281474976710656) (hp : Tab w) (he : Errs w) :
    Calls Tryz.prog 84 #[.string x] w fun e w' => e = .returned (.tuple #[.int .i64 (numV x.data.toList), .bool (numB x.data.toList)]) ∧ Below w.heap.size w w' := by
  have HP := Lib.hid hp
  obtain ⟨⟨t, p, h1⟩, u, q, h2⟩ := he
  rcases ha : Lib.atoiAll x.data.toList with v | _ | _
  · obtain ⟨v0, v1⟩ := Lib.atoiAll_bounds ha
    have HA := Lib.hid ha
    by_cases hn : nt v = x.data.toList
    · have HN : Hid (numOf x.data.toList = some v) := Lib.hid (by unfold numOf; rw [ha]; simp only []; rw [if_pos hn])
      have HX : Hid ((⟨(nt v).toArray⟩ : ByteArray) = x) := Lib.hid (by rw [hn, mk_eq])
      clear ha hn hp h1 h2
      go_enter Tryz.func84, Tryz.ntmps84
      go_wp2_with fail
      refine (Tryz.strconv_Atoi_ok x (by omega) v HA.out w).mono ?_
      rintro e w1 ⟨rfl, hw⟩
      have B1 : Hid (Below w.heap.size w w1) := Lib.hid (by
        rcases hw with rfl | ⟨t, rfl⟩
        · exact Below.refl _ _
        · exact below_bytes _ _ _)
      clear hw
      go_wp2_with fail
      refine (litoa_any v x _ HX.out v0 v1 (HP.out.below B1.out)).mono ?_
      rintro e w2 ⟨rfl, hb⟩
      have B2 := Lib.hid (B1.out.trans (hb.mono B1.out.size))
      clear hb
      go_wp2_with fail
      go_ret2
      exact ⟨num_ok HN.out, B2.out⟩
    · have HN : Hid (numOf x.data.toList = none) := Lib.hid (by unfold numOf; rw [ha]; simp only []; rw [if_neg hn])
      obtain ⟨r, hr⟩ : ∃ r : ByteArray, (⟨(nt v).toArray⟩ : ByteArray) = r := ⟨_, rfl⟩
      have hne : ¬ r.toList = x.toList := by rw [Lib.toList_data, Lib.toList_data, ← hr]; exact hn
      have hne2 : (r.toList == x.toList) = false := by simpa using hne
      have HR := Lib.hid hr
      clear ha hn hp h1 h2 hr
      go_enter Tryz.func84, Tryz.ntmps84
      go_wp2_with fail
      refine (Tryz.strconv_Atoi_ok x (by omega) v HA.out w).mono ?_
      rintro e w1 ⟨rfl, hw⟩
      have B1 : Hid (Below w.heap.size w w1) := Lib.hid (by
        rcases hw with rfl | ⟨t, rfl⟩
        · exact Below.refl _ _
        · exact below_bytes _ _ _)
      clear hw
      go_wp2_with fail
      refine (litoa_any v r _ HR.out v0 v1 (HP.out.below B1.out)).mono ?_
      rintro e w2 ⟨rfl, hb⟩
      have B2 := Lib.hid (B1.out.trans (hb.mono B1.out.size))
      clear hb
      go_wp2_with fail
      go_ret2
      exact ⟨num_bad HN.out, B2.out⟩
  · have HN : Hid (numOf x.data.toList = none) := Lib.hid (by unfold numOf; rw [ha])
    have HA := Lib.hid ha
    clear ha hp
    go_enter Tryz.func84, Tryz.ntmps84
    go_wp2_with fail
    refine (Any.strconv_Atoi_syntax_var Tryz.laysC172 x hs HA.out t p w h1).mono ?_
    rintro e w1 ⟨N, rfl, _, _, hb⟩
    have B1 := Lib.hid hb
    clear hb
    go_wp2_with fail
    go_ret2
    exact ⟨num_bad HN.out, B1.out⟩
  · have HN : Hid (numOf x.data.toList = none) := Lib.hid (by unfold numOf; rw [ha])
    have HA := Lib.hid ha
    clear ha hp
    go_enter Tryz.func84, Tryz.ntmps84
    go_wp2_with fail
    refine (Any.strconv_Atoi_range_var Tryz.laysC172 x hs HA.out u q w h2).mono ?_
    rintro e w1 ⟨N, rfl, _, _, hb⟩
    have B1 := Lib.hid hb
    clear hb
    go_wp2_with fail
    go_ret2
    exact ⟨num_bad HN.out, B1.out⟩

set_option maxRecDepth 100000 in
theorem lfields_any (x : ByteArray) (w : World) :
    Calls Tryz.prog 83 #[.string x] w fun e w' => e = .returned (.func (.func 102) #[] #[.pointer (some ⟨w.heap.size, 0, none⟩)]) ∧ w' = w.alloc (.cells #[.string x] 9) := by
  go_enter Tryz.func83, Tryz.ntmps83
  go_wp2_with fail
  go_ret
  exact ⟨rfl, rfl⟩

/-- The numbers of a line: are there count fields, and is each of them a number? -/
def Lp.nmB (l : List UInt8) (count : Nat) : Bool := (flds l).all numB && decide ((flds l).length = count)
def Lp.nums (l : List (List UInt8)) : List Int := l.map numV
theorem Lp.infoI : (Tryz.prog.info? 3).map (fun i => (i.zero, i.size, i.bytes)) = some (some (.int .i64 0), 1, 8) := by kernel_rfl
theorem fields_stops (n : Nat) (hn : 1 ≤ n) (Bn n₀ : Nat) (x : ByteArray) (hxs : x.size ≤ 4294967280) (hxa : Asc x) (w : World) (hBn : Bn < w.heap.size) (hc : w.cell? ⟨Bn, 0, none⟩ = some (.string x)) :
    SeqStopsK Fence.wide n Tryz.prog 102 #[.pointer (some ⟨Bn, 0, none⟩)] (fun y : FS => #[Value.string y.1]) (Below n₀) (fun ys => vals ys = flds x.data.toList) (fun pre => vals pre <+: flds x.data.toList) (flds x.data.toList).length w :=
  fun l J Jx W hW hJ _ hY h0 => fields1_in n hn l Bn n₀ W.heap.size x hxs hxa J Jx hJ hY W ((hW.cell (p := ⟨Bn, 0, none⟩) hBn).trans hc) h0

theorem boxed_stay {W W' : World} {row : Option Nat} {B : Nat} {t : TypeId} {v : Value} (h : Boxed W B t v) (hg : W.grownBy W' row) (hr : ∀ r, row = some r → ∃ o : Obj, W.heap[r]? = some o ∧ o.isCells = false) : Boxed W' B t v :=
  h.kept hg (fun e => by
    obtain ⟨o, ho, hc⟩ := hr B e.symm
    rw [show W.heap[B]? = _ from h] at ho; cases ho; cases hc)
theorem boxed_below {W W' : World} {B D : Nat} {t : TypeId} {v : Value} (h : Boxed W B t v) (hb : Below D W W') (hB : B < D) : Boxed W' B t v := (hb.block B hB).trans h
theorem boxed_other {W : World} {B C : Nat} {t : TypeId} {v : Value} (h : Boxed W B t v) (hne : B ≠ C) (u : Value) : Boxed (W.setCell ⟨C, 0, none⟩ u) B t v :=
  (Below.heap_setCell W ⟨C, 0, none⟩ u B (fun e => hne (by rw [e]))).trans h
theorem keeps_below {W W' : World} (B : Nat) (h : Below W.heap.size W W') : KeepsFrom B W W' :=
  ⟨h.size, fun i _ _ hi _ => (h.block i (Array.getElem?_eq_some_iff.1 hi).1).trans hi⟩
theorem row_below {W W' : World} {base : Nat} {e : TypeId} {size : Nat} {v : Value} {k : Nat} {xs : List Value} (h : W.ownsRow base e size v k xs) (hb : Below W.heap.size W W') : W'.ownsRow base e size v k xs := by
  refine ⟨h.1, ?_⟩
  rcases h.2 with h2 | ⟨g, cap, cur, rfl, hg, hgb, r⟩
  · exact .inl h2
  · exact .inr ⟨g, cap, cur, rfl, hg, (hb.block g (Array.getElem?_eq_some_iff.1 hgb).1).trans hgb, r⟩
theorem row_base {W : World} {base base' : Nat} {e : TypeId} {size : Nat} {v : Value} {k : Nat} {xs : List Value} (h : W.ownsRow base e size v k xs) (hb : base' ≤ base) : W.ownsRow base' e size v k xs := by
  refine ⟨h.1, ?_⟩
  rcases h.2 with h2 | ⟨g, cap, cur, rfl, hg, r⟩
  · exact .inl h2
  · exact .inr ⟨g, cap, cur, rfl, Nat.le_trans hb hg, r⟩
theorem row_form {W : World} {base : Nat} {e : TypeId} {size : Nat} {v : Value} {k : Nat} {xs : List Value} (h : W.ownsRow base e size v k xs) : ∃ p c, v = .slice p k c := by
  rcases h.2 with ⟨rfl, rfl⟩ | ⟨g, cap, cur, rfl, _⟩
  · exact ⟨_, _, rfl⟩
  · exact ⟨_, _, rfl⟩
/-- Between two rounds of numbers. -/
def Lp.NI (b count : Nat) (w : World) (pre : List FS) (W : World) : Prop :=
  ((Boxed W b 3 (.int .i64 count) ∧ Boxed W (b + 1) 83 (.slice none 0 0) ∧ Boxed W (b + 1 + 1) 4 (.bool false) ∧ (vals pre).all numB = true ∧ pre.length ≤ count) ∧
    (∃ v, Boxed W (b + 1 + 1 + 1) 83 v ∧ W.ownsRow (b + 1) 3 1 v (nums (vals pre)).length ((nums (vals pre)).map (Value.int .i64)) ∧ True)) ∧ Below b w W
def Lp.NX (b count : Nat) (w : World) (c : Code) (pre : List FS) (W : World) : Prop :=
  (c = .ret ∧ Boxed W (b + 1) 83 (.slice none 0 0) ∧ Boxed W (b + 1 + 1) 4 (.bool false) ∧ ∃ p y, pre = p ++ [y] ∧ (numB y.1.data.toList = false ∨ p.length = count)) ∧ Below b w W

set_option maxRecDepth 100000 in
set_option maxHeartbeats 4000000 in
theorem numbers_any (x : ByteArray) (count : Nat) (hxs : x.size ≤ 4294967280) (hxa : Asc x) (hc1 : count ≤ 2) (w : World) (hp : Tab w) (he : Errs w) :
    Calls Tryz.prog 58 #[.string x, .int .i64 count] w fun e w' => ∃ v, e = .returned (.tuple #[v, .bool (nmB x.data.toList count)]) ∧ (nmB x.data.toList count = true → w'.ownsRow w.heap.size 3 1 v count ((nums (flds x.data.toList)).map (Value.int .i64))) ∧ Below w.heap.size w w' := by
  obtain ⟨i0, hi, hz0, hz1, hz2⟩ := info_parts infoI
  have HP := Lib.hid hp
  have HE := Lib.hid he
  clear hp he
  refine (callsIn_wide (n := 6)).1 ?_
  refine callsIn_of_wp_marks Tryz.func58 rfl trivial ?_ rfl
  simp only [Tryz.ntmps58, List.size_toArray, List.length_cons, List.length_nil, Nat.reduceAdd, Nat.reduceSub, Array.replicate_succ, Array.replicate_zero, List.push_toArray, List.append_toArray, List.nil_append, List.cons_append]
  gi_wp2_with fail
  obtain ⟨b, hb⟩ : ∃ b, w.heap.size = b := ⟨_, rfl⟩
  obtain ⟨W1, hW1⟩ : ∃ W, w.alloc (.cells #[.int .i64 count] 3) = W := ⟨_, rfl⟩
  have q1 := Boxed.new w 3 (.int .i64 count)
  have s1 : W1.heap.size = b + 1 := by rw [← hW1, ← hb]; simp
  obtain ⟨W2, hW2⟩ : ∃ W, W1.alloc (.cells #[.slice none 0 0] 83) = W := ⟨_, rfl⟩
  have q2 := Boxed.new W1 83 (.slice none 0 0)
  have s2 : W2.heap.size = b + 1 + 1 := by rw [← hW2]; simp [s1]
  obtain ⟨W3, hW3⟩ : ∃ W, W2.alloc (.cells #[.bool false] 4) = W := ⟨_, rfl⟩
  have q3 := Boxed.new W2 4 (.bool false)
  have s3 : W3.heap.size = b + 1 + 1 + 1 := by rw [← hW3]; simp [s2]
  obtain ⟨W4, hW4⟩ : ∃ W, W3.alloc (.cells #[.slice none 0 0] 83) = W := ⟨_, rfl⟩
  have q4 := Boxed.new W3 83 (.slice none 0 0)
  have s4 : W4.heap.size = b + 1 + 1 + 1 + 1 := by rw [← hW4]; simp [s3]
  obtain ⟨W5, hW5⟩ : ∃ W, W4.alloc (.cells #[.string x] 9) = W := ⟨_, rfl⟩
  have q5 := Boxed.new W4 9 (.string x)
  have s5 : W5.heap.size = b + 1 + 1 + 1 + 1 + 1 := by rw [← hW5]; simp [s4]
  rw [hb] at q1
  rw [hW1] at q1
  rw [hW2, s1] at q2
  rw [hW3, s2] at q3
  rw [hW4, s3] at q4
  rw [hW5, s4] at q5
  have r1 : Boxed W5 b 3 (.int .i64 count) := by rw [← hW5, ← hW4, ← hW3, ← hW2]; exact (((q1.alloc _).alloc _).alloc _).alloc _
  have r2 : Boxed W5 (b + 1) 83 (.slice none 0 0) := by rw [← hW5, ← hW4, ← hW3]; exact ((q2.alloc _).alloc _).alloc _
  have r3 : Boxed W5 (b + 1 + 1) 4 (.bool false) := by rw [← hW5, ← hW4]; exact (q3.alloc _).alloc _
  have r4 : Boxed W5 (b + 1 + 1 + 1) 83 (.slice none 0 0) := by rw [← hW5]; exact q4.alloc _
  have BB : Below b w W5 := by
    rw [← hW5, ← hW4, ← hW3, ← hW2, ← hW1]
    have k0 : Below b w w := Below.refl _ _
    have k1 := k0.alloc (by omega) (.cells #[.int .i64 count] 3)
    rw [hW1] at k1 ⊢
    have k2 := k1.alloc (by omega) (.cells #[.slice none 0 0] 83)
    rw [hW2] at k2 ⊢
    have k3 := k2.alloc (by omega) (.cells #[.bool false] 4)
    rw [hW3] at k3 ⊢
    have k4 := k3.alloc (by omega) (.cells #[.slice none 0 0] 83)
    rw [hW4] at k4 ⊢
    exact k4.alloc (by omega) _
  rw [hW1, hW2, hW3, hW4, hb]
  refine ⟨trivial, (callsIn_wide.2 (lfields_any x W4)).mono ?_⟩
  rintro e w' ⟨rfl, hw'⟩
  rw [hW5] at hw'
  subst hw'
  rw [s4]
  have hst := fields_stops 5 (by decide) (b + 1 + 1 + 1 + 1) b x hxs hxa w' (by omega) q5.cell
  have hN0 : NI b count w [] w' := ⟨⟨⟨r1, r2, r3, rfl, Nat.zero_le _⟩, _, r4, World.ownsRow_nil _ _ _ _, trivial⟩, BB⟩
  have hbw : b ≤ w.heap.size := by omega
  have hbw' : b ≤ w'.heap.size := by omega
  clear q1 q2 q3 q4 s1 s2 s3 hW1 hW2 hW3 hW4 hW5 r1 r2 r3 r4
  gi_wp2_with fail
  refine wpIn_rangeFunc_ownG rfl (by decide) (gf := 102) (lb := #[.pointer (some ⟨b + 1 + 1 + 1 + 1, 0, none⟩)]) rfl trivial (enters_of Tryz.func102 (by kernel_rfl) rfl)
    hst belowK_t (belowK_b hbw') (Below.refl _ _) (fun _ => rfl)
    (NI b count w) (NX b count w) ?hI ?hIx hN0
    (fun y => { tmps := #[.string x, .int .i64 count, undef, .pointer (some ⟨b, 0, none⟩), .pointer (some ⟨b + 1, 0, none⟩), .pointer (some ⟨b + 1 + 1, 0, none⟩), .pointer (some ⟨b + 1 + 1 + 1, 0, none⟩), .string y.1, undef, undef, .string x, .func (.func 102) #[] #[.pointer (some ⟨b + 1 + 1 + 1 + 1, 0, none⟩)], .string y.1, undef, undef, undef, undef, undef, undef, undef, undef, undef, undef, undef, undef, undef, undef, undef, undef, undef, undef, undef, undef, undef, undef], defers := [] }) ?assign ?body ?done ?stop
  case hI =>
    unfold NI
    refine OwnFrom.and (Own.from ?_ _) (ownFrom_below hbw hbw')
    intro s A B row hs hg hr
    obtain ⟨⟨a1, a2, a3, a4, a5⟩, hrow⟩ := hs
    exact ⟨⟨boxed_stay a1 hg hr, boxed_stay a2 hg hr, boxed_stay a3 hg hr, a4, a5⟩, holdsRow_own (b + 1) (b + 1 + 1 + 1) 83 3 1 (fun pre => (nums (vals pre)).length) (fun pre => (nums (vals pre)).map (Value.int .i64)) (fun _ _ => True) s A B row hrow hg hr⟩
  case hIx =>
    intro c
    unfold NX
    refine OwnFrom.and (Own.from ?_ _) (ownFrom_below hbw hbw')
    intro s A B row hs hg hr
    exact ⟨hs.1, boxed_stay hs.2.1 hg hr, boxed_stay hs.2.2.1 hg hr, hs.2.2.2⟩
  case assign =>
    intro l y W K hK
    gi_wp2
    exact hK
  case body =>
    rintro l pre y W ⟨⟨⟨a1, a2, a3, a4, a5⟩, v, hv, hrow, -⟩, hB⟩ hlt
    have hcall := lnumber_any y.1 W (by have := y.2; omega) (HP.out.below (by rw [hb]; exact hB)) (HE.out.below (by rw [hb]; exact hB))
    have hbW : b + 1 ≤ W.heap.size := a1.lt
    obtain ⟨k, hk⟩ : ∃ k, (nums (vals pre)).length = k := ⟨_, rfl⟩
    have hkp := Lib.hid (show k = pre.length by rw [← hk]; simp [nums, vals])
    rw [hk] at hrow
    replace hk := Lib.hid hk
    obtain ⟨p, c, rfl⟩ := row_form hrow
    have leave : ∀ w1 : World, Below W.heap.size W w1 → (numB y.1.data.toList = false ∨ pre.length = count) → KeepsFrom w'.heap.size W ((w1.setCell ⟨b + 1, 0, none⟩ (.slice none 0 0)).setCell ⟨b + 1 + 1, 0, none⟩ (.bool false)) ∧ NX b count w .ret (pre ++ [y]) ((w1.setCell ⟨b + 1, 0, none⟩ (.slice none 0 0)).setCell ⟨b + 1 + 1, 0, none⟩ (.bool false)) := by
      intro w1 hn hbad
      have c2 := boxed_below a2 hn a2.lt
      have c3 := boxed_below a3 hn a3.lt
      refine ⟨((keeps_below _ hn).trans ((KeepsOthers.setCell _ _ _).from _)).trans ((KeepsOthers.setCell _ _ _).from _), ⟨rfl, boxed_other (c2.set _) (by omega) _, (boxed_other c3 (by omega) _).set _, pre, y, rfl, hbad⟩, ?_⟩
      exact ((hB.trans (hn.mono (by omega))).setCell (p := ⟨b + 1, 0, none⟩) (show b ≤ b + 1 by omega) _).setCell (p := ⟨b + 1 + 1, 0, none⟩) (show b ≤ b + 1 + 1 by omega) _
    cases hnb : numB y.1.data.toList
    · rw [hnb] at hcall
      gi_wp2_with (refine ⟨trivial, ?_⟩; gi_at_call 84; refine (CallsIn.inRound l (callsIn_wide.2 hcall)).mono ?_; rintro e w1 ⟨rfl, hn⟩; have c2 := boxed_below a2 hn a2.lt; have c3 := boxed_below a3 hn a3.lt; have d2 := c2.cell; have d3 := c3.cell; have f2 := c2.frozen; have f3 := c3.frozen)
      exact leave _ hn (.inl hnb)
    · rw [hnb] at hcall
      by_cases hkc : k = count
      · gi_wp2_with (refine ⟨trivial, ?_⟩; gi_at_call 84; refine (CallsIn.inRound l (callsIn_wide.2 hcall)).mono ?_; rintro e w1 ⟨rfl, hn⟩; have c1 := boxed_below a1 hn a1.lt; have c2 := boxed_below a2 hn a2.lt; have c3 := boxed_below a3 hn a3.lt; have c4 := boxed_below hv hn hv.lt; have d1 := c1.cell; have d4 := c4.cell; have d2 := c2.cell; have d3 := c3.cell; have f2 := c2.frozen; have f3 := c3.frozen)
        exact leave _ hn (.inr (by rw [← hkp.out]; exact hkc))
      · have hkl : k < count := by have := hkp.out; omega
        have hne : ¬ (k : Int) = (count : Int) := by omega
        have hneb : ((k : Int) == (count : Int)) = false := by simpa using hne
        gi_wp2_with (first
          | (refine ⟨trivial, ?_⟩; gi_at_call 84; refine (CallsIn.inRound l (callsIn_wide.2 hcall)).mono ?_; rintro e w1 ⟨rfl, hn⟩; have c1 := boxed_below a1 hn a1.lt; have c2 := boxed_below a2 hn a2.lt; have c3 := boxed_below a3 hn a3.lt; have c4 := boxed_below hv hn hv.lt; have d1 := c1.cell; have d4 := c4.cell; have hrow1 := row_below hrow hn; have hsz := hn.size)
          | (gi_at_builtin; go_loud (refine wpListIn_append_own _ rfl _ _ 83 rfl (b + 1) 3 i0 (.int .i64 0) 1 8 Tryz.underlying83 hi hz0 hz1 hz2 rfl (by decide) _ _ _ rfl (hrow1.alloc _) ⟨w1.heap.size, 0, none⟩ 1 1 [.int .i64 (numV y.1.data.toList)] rfl rfl (cell_one_new _ _ _) (by simp [Value.oneCell']) (by have : maxLen = 9223372036854775807 := rfl; omega) (by omega) (by simp; omega) ?_; intro v' w2 hown' hgrow _; obtain ⟨g', cap', rfl⟩ := ownsRow_succ hown'; obtain ⟨hv1, hv2, hr2, hk2, hb2⟩ := c4.appended (by decide) hrow1 (by omega) (by omega) hown' hgrow; have hc1 := hv1.cell; have hf1 := hv1.frozen)))
        have e1 : nums (vals (pre ++ [y])) = nums (vals pre) ++ [numV y.1.data.toList] := by rw [vals_snoc]; simp [nums]
        have c2' : Boxed w2 (b + 1) 83 (.slice none 0 0) := (c2.alloc _).kept hgrow (c2.not_row (by decide) hrow1)
        have c3' : Boxed w2 (b + 1 + 1) 4 (.bool false) := (c3.alloc _).kept hgrow (c3.not_row (by decide) hrow1)
        refine ⟨(keeps_below _ hn).trans (hk2.from _), (hn.mono (by omega)).trans (hb2.mono (by omega)), ⟨⟨boxed_below c1 hb2 (by omega), boxed_other c2' (by omega) _, boxed_other c3' (by omega) _, ?_, ?_⟩, _, hv2, ?_, trivial⟩, (hB.trans (hn.mono (by omega))).trans (hb2.mono (by omega))⟩
        · rw [vals_snoc]; simp [a4, hnb]
        · have := hkp.out; simp; omega
        · rw [e1]; simpa [hk.out] using hr2
  case done =>
    rintro D ys W hD hys ⟨⟨⟨a1, a2, a3, a4, a5⟩, v, hv, hrow, -⟩, hB⟩ hK
    have hys' := Lib.hid hys
    clear hys
    obtain ⟨k, hk⟩ : ∃ k, (nums (vals ys)).length = k := ⟨_, rfl⟩
    rw [hk] at hrow
    replace hk := Lib.hid hk
    obtain ⟨p, c, rfl⟩ := row_form hrow
    have d1 := a1.cell
    have d2 := a2.cell
    have d3 := a3.cell
    have d4 := hv.cell
    have f2 := a2.frozen
    have f3 := a3.frozen
    gi_wp2
    gi_region
    gi_wp2
    have k1 := (((KeepsOthers.setCell W ⟨b + 1, 0, none⟩ (.slice p k c)).trans (KeepsOthers.setCell _ ⟨b + 1 + 1, 0, none⟩ (.bool ((k : Int) == (count : Int))))).trans (KeepsOthers.drew _))
    have hK' := k1.same D _ hK rfl
    have e2 : Boxed ((W.setCell ⟨b + 1, 0, none⟩ (.slice p k c)).setCell ⟨b + 1 + 1, 0, none⟩ (.bool ((k : Int) == (count : Int)))).drew (b + 1) 83 (.slice p k c) := boxed_other (a2.set _) (by omega) _
    have e3 : Boxed ((W.setCell ⟨b + 1, 0, none⟩ (.slice p k c)).setCell ⟨b + 1 + 1, 0, none⟩ (.bool ((k : Int) == (count : Int)))).drew (b + 1 + 1) 4 (.bool ((k : Int) == (count : Int))) := (boxed_other a3 (by omega) _).set _
    refine ⟨by simp, .inl ⟨_, _, rfl, run_takeDeferred hK', ?_⟩⟩
    have g2 := cell_kept e2.cell (grownBy_putObj' _ D (.deferred none)) (fun r e => by cases e; exact ⟨_, hK', rfl⟩)
    have g3 := cell_kept e3.cell (grownBy_putObj' _ D (.deferred none)) (fun r e => by cases e; exact ⟨_, hK', rfl⟩)
    have row1 := hrow.kept (grownBy_setCell' W (b + 1) (.slice p k c)) (.inr (a2.not_row (by decide) hrow).symm)
    have row2 := row1.kept (grownBy_setCell' _ (b + 1 + 1) (.bool ((k : Int) == (count : Int)))) (.inr ((boxed_other a3 (by omega) _).not_row (by decide) row1).symm)
    have row3 : ((W.setCell ⟨b + 1, 0, none⟩ (.slice p k c)).setCell ⟨b + 1 + 1, 0, none⟩ (.bool ((k : Int) == (count : Int)))).drew.ownsRow (b + 1) 3 1 (.slice p k c) k ((nums (vals ys)).map (Value.int .i64)) := row2
    have row4 := ownsRow_putObj row3 (.deferred none) hK' rfl
    have hlen : (flds x.data.toList).length = k := by rw [← hys'.out, ← hk.out]; simp [nums]
    have hall : (flds x.data.toList).all numB = true := by rw [← hys'.out]; exact a4
    have hnm : ((k : Int) == (count : Int)) = nmB x.data.toList count := by
      unfold nmB; rw [hall, hlen]
      by_cases h : k = count
      · subst h; simp
      · rw [decide_eq_false h]; simpa using (show ¬ (k : Int) = (count : Int) by omega)
    refine ⟨.tuple #[.slice p k c, .bool ((k : Int) == (count : Int))], ?_, .slice p k c, by rw [hnm], ?_, ?_⟩
    · simp [results, Tryz.f58, go_sem, g2, g3]
    · intro hz
      have hkc : k = count := by
        unfold nmB at hz; rw [hlen] at hz; simp at hz; exact hz.2
      subst hkc
      rw [← hys'.out, hb]
      exact row_base row4 (by omega)
    · rw [hb]
      exact ((((hB.setCell (p := ⟨b + 1, 0, none⟩) (show b ≤ b + 1 by omega) _).setCell (p := ⟨b + 1 + 1, 0, none⟩) (show b ≤ b + 1 + 1 by omega) _).drew).trans (belowK_b (w := w') hbw' _ D _ _ (by omega) hK' rfl rfl))
  case stop =>
    rintro D c pre W hD hpre ⟨⟨rfl, a2, a3, p, y, rfl, hbad⟩, hB⟩ hK
    have g2 := cell_kept a2.cell (grownBy_putObj' _ D (.deferred none)) (fun r e => by cases e; exact ⟨_, hK, rfl⟩)
    have g3 := cell_kept a3.cell (grownBy_putObj' _ D (.deferred none)) (fun r e => by cases e; exact ⟨_, hK, rfl⟩)
    have hz := Lib.hid hbad
    clear hbad
    gi_wp2
    refine ⟨by simp, .inl ⟨_, _, rfl, run_takeDeferred hK, ?_⟩⟩
    have hnm : nmB x.data.toList count = false := by
      obtain ⟨r, hr⟩ := hpre
      unfold nmB
      rw [← hr, vals_snoc]
      rcases hz.out with h | h
      · simp [h]
      · have : ¬ ((vals p ++ [y.1.data.toList] ++ r).length = count) := by simp [vals]; omega
        rw [decide_eq_false this]; simp
    refine ⟨.tuple #[.slice none 0 0, .bool false], ?_, .slice none 0 0, by rw [hnm], fun h => by rw [hnm] at h; simp at h, ?_⟩
    · simp [results, Tryz.f58, go_sem, g2, g3]
    · rw [hb]
      exact hB.trans (belowK_b (w := w') hbw' _ D _ _ (by omega) hK rfl rfl)
end Go.Proofs.YtegpajdahanhfaaGreatDoor
