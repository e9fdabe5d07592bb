/- Contracts of layer 6: the program's Text. -/
import Derived.Test.YtegpajdahanhfaaGreatDoorLeaG
namespace Go.Proofs.YtegpajdahanhfaaGreatDoor
open Go.RowKit Fx Cv Lp

/-- The table of the powers of ten. -/
def Lp.Tab (w : World) : Prop := Lib.TabIs Tryz.prog w "internal/strconv.uint64pow10" .u64 Lib.pow10Tab
theorem Lp.Tab.below {w w' : World} (h : Tab w) (hb : Below w.heap.size w w') : Tab w' := var_keep h hb
theorem Lp.below_grow (w : World) (k : Nat) (os : Array Obj) : Below w.heap.size w (Go.Sort.grow (w.drewN k) os) := by
  refine ⟨rfl, rfl, rfl, ?_, fun i hi => ?_⟩
  · show w.heap.size ≤ (w.heap ++ os).size
    rw [Array.size_append]; omega
  · show (w.heap ++ os)[i]? = w.heap[i]?
    rw [Array.getElem?_append_left hi]
/-- A number's text. -/
def Lp.nt (x : Int) : List UInt8 := Lib.itoa x
theorem Lp.digits_len (u : Nat) : ∀ m, u < 10 ^ m → 1 ≤ m → (Lib.decDigits u).length ≤ m := fun m h h1 => Pt.dec_le m u h1 h
theorem Lp.nt_len {x : Int} (h0 : -9223372036854775808 ≤ x) (h1 : x ≤ 9223372036854775807) : (nt x).length ≤ 20 := by
  unfold nt Lib.itoa
  by_cases h : x < 0
  · rw [if_pos h]
    have := digits_len x.natAbs 19 (by omega) (by decide)
    rw [List.length_cons]; omega
  · rw [if_neg h]
    have := digits_len x.toNat 19 (by omega) (by decide)
    omega
theorem Lp.mka (a b : List UInt8) : (⟨a.toArray⟩ : ByteArray) ++ ⟨b.toArray⟩ = ⟨(a ++ b).toArray⟩ := by apply ByteArray.ext; simp
theorem litoa_any (x : Int) (v : ByteArray) (w : World) (hv : (⟨(nt x).toArray⟩ : ByteArray) = v) (h0 : -9223372036854775808 ≤ x) (h1 : x ≤ 9223372036854775807) (ht : Tab w) :
    Calls Tryz.prog 43 #[.int .i64 x] w fun e w' => e = .returned (.string v) ∧ Below w.heap.size w w' := by
  subst hv
  refine (Tryz.strconv_Itoa x h0 h1 w ht).mono ?_
  rintro e w' ⟨rfl, k, os, rfl⟩
  exact ⟨rfl, below_grow w k os⟩
/-- The line of an entry; the lines of the entries before k; a table's text. -/
def Lp.etx (x y : Int) : List UInt8 := nt x ++ [32] ++ nt y ++ [10]
def Lp.ltx (f : Nat → Int × Int) : Nat → List UInt8
  | 0 => []
  | k + 1 => ltx f k ++ etx (f k).1 (f k).2
def Lp.hdx (B E : Int) : List UInt8 := [35, 64, 32] ++ nt E ++ [10] ++ ([35, 61, 32] ++ nt B ++ [10])
def Lp.txL (B E : Int) (f : Nat → Int × Int) (n : Nat) : ByteArray := if chkL B E f n = 0 then ⟨(hdx B E ++ ltx f n).toArray⟩ else ⟨#[]⟩
theorem Lp.strB (l : List UInt8) : Lib.strCells ⟨l.toArray⟩ = Lib.byteCells l := rfl
theorem Lp.cellsA (a b : List UInt8) : Lib.byteCells a ++ Lib.byteCells b = Lib.byteCells (a ++ b) := by simp [Lib.byteCells]

theorem Lp.bldAt_grown {B b : Nat} {p : Value} {bs : List Value} {w w' : World} {row : Option Nat} (h : BldAt B b p bs w) (hg : w.grownBy w' row) (hb : some b ≠ row) (hr : ∀ g, row = some g → ∀ cur fz, w.heap[g]? ≠ some (.cells cur 5 fz)) : BldAt B b p bs w' := by
  obtain ⟨hB, v, hbk, hown, hne⟩ := h
  refine ⟨hB, v, (hg.block b (Array.getElem?_eq_some_iff.1 hbk).1 hb).trans hbk, hown.kept hg ?_, hne⟩
  rcases hown.2 with ⟨rfl, _⟩ | ⟨g, cap, cur, rfl, _, hgb, _⟩
  · exact .inl rfl
  · refine .inr fun e => ?_
    simp only [Value.ownBlock] at e
    exact hr g e.symm _ _ hgb
theorem Lp.bld_grown {B b : Nat} {bs : List Value} {w w' : World} {row : Option Nat} (h : Bld B b bs w) (hg : w.grownBy w' row) (hb : some b ≠ row) (hr : ∀ g, row = some g → ∀ cur fz, w.heap[g]? ≠ some (.cells cur 5 fz)) : Bld B b bs w' := by
  rcases h with h | h
  · exact .inl (bldAt_grown h hg hb hr)
  · exact .inr (bldAt_grown h hg hb hr)
theorem Lp.bld_below {B b : Nat} {bs : List Value} {w w' : World} (h : Bld B b bs w) (hb : Below w.heap.size w w') : Bld B b bs w' :=
  bld_grown (row := none) h ⟨hb.os, hb.tape, hb.output, hb.size, fun k hk _ => hb.block k hk⟩ (by simp) (fun g e => by cases e)
theorem Lp.bld_alloc {B b : Nat} {bs : List Value} {w : World} (h : Bld B b bs w) (o : Obj) : Bld B b bs (w.alloc o) :=
  bld_below h ((Below.refl _ _).alloc (Nat.le_refl _) o)
theorem Lp.bld_other {B b C i : Nat} {bs : List Value} {w : World} (h : Bld B b bs w) (hne : b ≠ C) (hty : ∀ c fz, w.heap[C]? ≠ some (.cells c 5 fz)) (v : Value) : Bld B b bs (w.setCell ⟨C, i, none⟩ v) :=
  bld_grown (row := some C) h ⟨rfl, rfl, rfl, by simp [World.setCell], fun k _ hk => Below.heap_setCell _ _ _ _ (fun e => hk (by rw [e]))⟩ (fun e => hne (by injection e)) (fun g e => by cases e; exact hty)
theorem Lp.ltx_len {f : Nat → Int × Int} {n : Nat} (h : ∀ i, i < n → (-1000 ≤ (f i).2 ∧ (f i).2 ≤ 1000) ∧ (-8000000000 ≤ (f i).1 ∧ (f i).1 ≤ 8000000000)) : ∀ k, k ≤ n → (ltx f k).length ≤ 42 * k := by
  intro k
  induction k with
  | zero => intro _; simp [ltx]
  | succ k ih =>
    intro hk
    have := ih (by omega)
    obtain ⟨⟨a, b⟩, c, d⟩ := h k (by omega)
    have x := nt_len (x := (f k).1) (by omega) (by omega)
    have y := nt_len (x := (f k).2) (by omega) (by omega)
    rw [show ltx f (k + 1) = ltx f k ++ etx (f k).1 (f k).2 from rfl, List.length_append]
    simp only [etx, List.length_append, List.length_singleton]
    omega

set_option maxRecDepth 100000 in
theorem ltext_no (B E : Int) (a : Option Addr) (n c : Nat) (f : Nat → Int × Int) (w : World) (ht : MT w) (hr : LRd w w.heap.size a n f) (hz : ¬ chkL B E f n = 0) :
    Calls Tryz.prog 21 #[.agg #[.int .i64 B, .int .i64 E, .slice a n c]] w fun e w' => e = .returned (.string (txL B E f n)) ∧ Below w.heap.size w w' := by
  have HR := Lib.hid hr
  have HT := Lib.hid ht
  obtain ⟨v, hv⟩ : ∃ v, chkL B E f n = v := ⟨_, rfl⟩
  have h0 : v ≠ 0 := by rw [← hv]; exact hz
  have HC := Lib.hid hv
  have HX : Hid (txL B E f n = ⟨#[]⟩) := Lib.hid (if_neg hz)
  have g1 : decide (v = 0) = false := decide_eq_false h0
  have g2 : (v == 0) = false := by simpa using h0
  have g3 : (v != 0) = true := by simp [bne, g2]
  clear hr ht hv hz
  have BB0 := Lib.hid ((Below.refl w.heap.size w).alloc (Nat.le_refl _) (.cells #[.int .i64 B, .int .i64 E, .slice a n c] 24))
  have X0 := Lib.hid (tbx_new w B E a n c)
  obtain ⟨W0, hW0⟩ : ∃ W, w.alloc (.cells #[.int .i64 B, .int .i64 E, .slice a n c] 24) = W := ⟨_, rfl⟩
  rw [hW0] at BB0 X0
  obtain ⟨t0, t1, t2⟩ := X0.out.cells
  go_enter Tryz.func21, Tryz.ntmps21
  go_wp2_with fail
  refine (lchk_any B E a n c f _ (HT.out.below BB0.out) (show LRd W0 W0.heap.size a n f from (HR.out.below BB0.out).mono BB0.out.size)).mono ?_
  rintro e w1 ⟨rfl, hb⟩
  have X1 := Lib.hid (X0.out.below hb X0.out.lt)
  have B1 := Lib.hid (BB0.out.trans (hb.mono BB0.out.size))
  clear hb X0 BB0
  rw [HC.out]
  go_wp2_with fail
  go_ret
  exact ⟨ret_s HX.out.symm, B1.out⟩

set_option maxRecDepth 100000 in
set_option maxHeartbeats 2000000 in
theorem ltext_ok (B E : Int) (a : Option Addr) (n c : Nat) (f : Nat → Int × Int) (w : World) (ht : MT w) (hp : Tab w) (hr : LRd w w.heap.size a n f) (hz : chkL B E f n = 0) :
    Calls Tryz.prog 21 #[.agg #[.int .i64 B, .int .i64 E, .slice a n c]] w fun e w' => e = .returned (.string (txL B E f n)) ∧ Below w.heap.size w w' := by
  have HR := Lib.hid hr
  have HT := Lib.hid ht
  have HP := Lib.hid hp
  have HC := Lib.hid hz
  have HX : Hid (txL B E f n = ⟨(hdx B E ++ ltx f n).toArray⟩) := Lib.hid (if_pos hz)
  obtain ⟨hn, hR, _⟩ := chk_zero hz
  have HI := Lib.hid hR
  obtain ⟨⟨B0, B1⟩, ⟨E0, E1⟩, _⟩ := hR
  obtain ⟨p, hpE⟩ : ∃ p : ByteArray, (⟨(nt E).toArray⟩ : ByteArray) = p := ⟨_, rfl⟩
  obtain ⟨q, hqB⟩ : ∃ p : ByteArray, (⟨(nt B).toArray⟩ : ByteArray) = p := ⟨_, rfl⟩
  have ps : p.size ≤ 20 := by rw [← hpE]; exact (by simpa [ByteArray.size] using nt_len (x := E) (by omega) (by omega))
  have qs : q.size ≤ 20 := by rw [← hqB]; exact (by simpa [ByteArray.size] using nt_len (x := B) (by omega) (by omega))
  obtain ⟨p2, hp2⟩ : ∃ x : ByteArray, (⟨#[35, 64, 32]⟩ : ByteArray) ++ p ++ ⟨#[10]⟩ = x := ⟨_, rfl⟩
  obtain ⟨q2, hq2⟩ : ∃ x : ByteArray, (⟨#[35, 61, 32]⟩ : ByteArray) ++ q ++ ⟨#[10]⟩ = x := ⟨_, rfl⟩
  have ps2 : p2.size ≤ 24 := by rw [← hp2, ByteArray.size_append, ByteArray.size_append]; show 3 + p.size + 1 ≤ 24; omega
  have qs2 : q2.size ≤ 24 := by rw [← hq2, ByteArray.size_append, ByteArray.size_append]; show 3 + q.size + 1 ≤ 24; omega
  have HH : Hid (Lib.strCells p2 ++ Lib.strCells q2 = Lib.byteCells (hdx B E)) := Lib.hid (by
    rw [← hp2, ← hq2, ← hpE, ← hqB, show (⟨#[35, 64, 32]⟩ : ByteArray) = ⟨([35, 64, 32] : List UInt8).toArray⟩ from rfl, show (⟨#[35, 61, 32]⟩ : ByteArray) = ⟨([35, 61, 32] : List UInt8).toArray⟩ from rfl, show (⟨#[10]⟩ : ByteArray) = ⟨([10] : List UInt8).toArray⟩ from rfl, mka, mka, mka, mka, strB, strB, cellsA]
    rfl)
  have hlen : (hdx B E).length ≤ 48 := by
    have := congrArg List.length HH.out
    rw [List.length_append, Lib.strCells_length, Lib.strCells_length, Lib.byteCells_length] at this
    omega
  have HPE := Lib.hid hpE
  have HQB := Lib.hid hqB
  clear hr ht hp hz hpE hqB
  have BB0 := Lib.hid ((Below.refl w.heap.size w).alloc (Nat.le_refl _) (.cells #[.int .i64 B, .int .i64 E, .slice a n c] 24))
  have X0 := Lib.hid (tbx_new w B E a n c)
  obtain ⟨W0, hW0⟩ : ∃ W, w.alloc (.cells #[.int .i64 B, .int .i64 E, .slice a n c] 24) = W := ⟨_, rfl⟩
  rw [hW0] at BB0 X0
  obtain ⟨t0, t1, t2⟩ := X0.out.cells
  go_enter Tryz.func21, Tryz.ntmps21
  go_wp2_with fail
  refine (lchk_any B E a n c f _ (HT.out.below BB0.out) (show LRd W0 W0.heap.size a n f from (HR.out.below BB0.out).mono BB0.out.size)).mono ?_
  rintro e w1 ⟨rfl, hb⟩
  have X1 := Lib.hid (X0.out.below hb X0.out.lt)
  have B1 := Lib.hid (BB0.out.trans (hb.mono BB0.out.size))
  clear hb X0 BB0
  rw [HC.out]
  have szB := B1.out.size
  obtain ⟨b, hb⟩ : ∃ b, w1.heap.size = b := ⟨_, rfl⟩
  have N0 := Lib.hid (heap_alloc_new w1 (.cells #[.pointer none, .slice none 0 0] 67))
  have XX := Lib.hid (X1.out.alloc (.cells #[.pointer none, .slice none 0 0] 67))
  have BB := Lib.hid (B1.out.alloc szB (.cells #[.pointer none, .slice none 0 0] 67))
  have xlt := X1.out.lt
  obtain ⟨V, hV⟩ : ∃ W, w1.alloc (.cells #[.pointer none, .slice none 0 0] 67) = W := ⟨_, rfl⟩
  have vs : V.heap.size = b + 1 := by rw [← hV, ← hb]; simp
  rw [hV] at XX BB N0
  have HV := Lib.hid hV
  rw [hb] at N0 xlt szB
  have Hb := Lib.hid hb
  have M0 : Hid (Bld b b [] V) := Lib.hid (.inl ⟨Nat.le_refl _, .slice none 0 0, N0.out, ⟨by omega, .inl ⟨rfl, rfl⟩⟩, by simp [Value.ownBlock]⟩)
  clear X1 B1 N0
  obtain ⟨t2_0, t2_1, t2_2⟩ := XX.out.cells
  go_wp2_with fail
  clear hb hV t2_0 t2_1 t2_2
  have vz : b < V.heap.size := by omega
  clear vs
  refine (litoa_any E p _ HPE.out (by omega) (by omega) (HP.out.below BB.out)).mono ?_
  rintro e w3 ⟨rfl, hb⟩
  have X3 := Lib.hid (XX.out.below hb XX.out.lt)
  have B3 := Lib.hid (BB.out.trans (hb.mono BB.out.size))
  have M3 := Lib.hid (bld_below M0.out hb)
  have z3 := Nat.lt_of_lt_of_le vz hb.size
  clear hb XX BB M0
  obtain ⟨t4_0, t4_1, t4_2⟩ := X3.out.cells
  go_wp2_with fail
  refine (bwrite_any b b _ p2 _ M3.out (by simp; omega) (Nat.le_of_lt z3)).mono ?_
  rintro e w5 ⟨rfl, hm, hb, ho⟩
  have X5 := Lib.hid (X3.out.below hb xlt)
  have B5 := Lib.hid (B3.out.trans (hb.mono szB))
  have M5 := Lib.hid hm
  have z5 := Nat.lt_of_lt_of_le z3 hb.size
  clear hb hm ho X3 B3 M3
  obtain ⟨t6_0, t6_1, t6_2⟩ := X5.out.cells
  go_wp2_with fail
  refine (litoa_any B q _ HQB.out (by omega) (by omega) (HP.out.below B5.out)).mono ?_
  rintro e w7 ⟨rfl, hb⟩
  have X7 := Lib.hid (X5.out.below hb X5.out.lt)
  have B7 := Lib.hid (B5.out.trans (hb.mono B5.out.size))
  have M7 := Lib.hid (bld_below M5.out hb)
  have z7 := Nat.lt_of_lt_of_le z5 hb.size
  clear hb X5 B5 M5
  obtain ⟨t8_0, t8_1, t8_2⟩ := X7.out.cells
  go_wp2_with fail
  refine (bwrite_any b b _ q2 _ M7.out (by simp [Lib.strCells_length]; omega) (Nat.le_of_lt z7)).mono ?_
  rintro e w9 ⟨rfl, hm, hb, ho⟩
  have X9 := Lib.hid (X7.out.below hb xlt)
  have B9 := Lib.hid (B7.out.trans (hb.mono szB))
  have M9 := Lib.hid hm
  have z9 := Nat.lt_of_lt_of_le z7 hb.size
  clear hb hm ho X7 B7 M7
  have MH : Hid (Bld b b (Lib.byteCells (hdx B E ++ ltx f 0)) w9) := Lib.hid (by rw [show ltx f 0 = [] from rfl, List.append_nil, ← HH.out]; exact M9.out)
  obtain ⟨t10_0, t10_1, t10_2⟩ := X9.out.cells
  go_wp2_with fail
  clear hp2 hq2 HPE HQB HH M9 t10_0 t10_1 t10_2
  go_loopw [24] (fun iv wr => ∃ k : Nat, k ≤ n ∧ iv = .int .i64 k ∧ b < wr.heap.size ∧ Hid (Bld b b (Lib.byteCells (hdx B E ++ ltx f k)) wr) ∧ Hid (Below w.heap.size w wr)) (fun iv _ => n - (intOf iv).toNat)
  case atStart => exact ⟨0, by omega, rfl, z9, MH, B9⟩
  case round =>
    clear MH B9 X9
    obtain ⟨k, hk, rfl, zr, MR, HB⟩ := hrel
    have hll := ltx_len (f := f) (n := n) (fun i hi => HI.out.2.2 i hi) k hk
    by_cases hlt : k < n
    · obtain ⟨ab, off, rfl, hbl⟩ := HR.out.some (by omega)
      obtain ⟨e0, e1⟩ := (HR.out.below HB.out).at hlt
      have hki : (k : Int) < n := by omega
      have hib := HI.out.2.2 k hlt
      obtain ⟨x, hx⟩ : ∃ x, (f k).1 = x := ⟨_, rfl⟩
      obtain ⟨y, hy⟩ : ∃ y, (f k).2 = y := ⟨_, rfl⟩
      rw [hx] at e0
      rw [hy] at e1
      rw [hx, hy] at hib
      obtain ⟨⟨i0, i1⟩, i2, i3⟩ := hib
      obtain ⟨px, hpx⟩ : ∃ p : ByteArray, (⟨(nt x).toArray⟩ : ByteArray) = p := ⟨_, rfl⟩
      obtain ⟨py, hpy⟩ : ∃ p : ByteArray, (⟨(nt y).toArray⟩ : ByteArray) = p := ⟨_, rfl⟩
      have sx : px.size ≤ 20 := by rw [← hpx]; exact (by simpa [ByteArray.size] using nt_len (x := x) (by omega) (by omega))
      have sy : py.size ≤ 20 := by rw [← hpy]; exact (by simpa [ByteArray.size] using nt_len (x := y) (by omega) (by omega))
      obtain ⟨a1, ha1⟩ : ∃ a : ByteArray, px ++ ⟨#[32]⟩ = a := ⟨_, rfl⟩
      have s1 : a1.size = px.size + 1 := by rw [← ha1, ByteArray.size_append]; rfl
      have add1 : ∀ w : World, (Op.stringOp .add px ⟨#[32]⟩).run Tryz.prog w = .ok (.string a1) w := fun w => by
        rw [run_string_add_sum (w := w) px ⟨#[32]⟩ (by show px.size + 1 ≤ _; omega), ha1]
      obtain ⟨a2, ha2⟩ : ∃ a : ByteArray, a1 ++ py = a := ⟨_, rfl⟩
      have s2 : a2.size = px.size + 1 + py.size := by rw [← ha2, ByteArray.size_append, s1]
      have add2 : ∀ w : World, (Op.stringOp .add a1 py).run Tryz.prog w = .ok (.string a2) w := fun w => by
        rw [run_string_add_sum (w := w) a1 py (by omega), ha2]
      obtain ⟨a3, ha3⟩ : ∃ a : ByteArray, a2 ++ ⟨#[10]⟩ = a := ⟨_, rfl⟩
      have s3 : a3.size = px.size + 1 + py.size + 1 := by rw [← ha3, ByteArray.size_append, s2]; rfl
      have add3 : ∀ w : World, (Op.stringOp .add a2 ⟨#[10]⟩).run Tryz.prog w = .ok (.string a3) w := fun w => by
        rw [run_string_add_sum (w := w) a2 ⟨#[10]⟩ (by show a2.size + 1 ≤ _; omega), ha3]
      have HN : Hid (Lib.byteCells (hdx B E ++ ltx f k) ++ Lib.strCells a3 = Lib.byteCells (hdx B E ++ ltx f (k + 1))) := Lib.hid (by
        rw [show ltx f (k + 1) = ltx f k ++ etx (f k).1 (f k).2 from rfl, hx, hy, ← List.append_assoc, ← cellsA, ← ha3, ← ha2, ← ha1, ← hpx, ← hpy, show (⟨#[32]⟩ : ByteArray) = ⟨([32] : List UInt8).toArray⟩ from rfl, show (⟨#[10]⟩ : ByteArray) = ⟨([10] : List UInt8).toArray⟩ from rfl, mka, mka, mka, strB, cellsA, cellsA]
        rfl)
      have HPX := Lib.hid hpx
      have HPY := Lib.hid hpy
      clear hx hy ha1 ha2 ha3 hpx hpy s1 s2
      have sz := HB.out.size
      obtain ⟨z, hz⟩ : ∃ z, wr.heap.size = z := ⟨_, rfl⟩
      have P0 := Lib.hid (pbx_new wr 0 0)
      have C1 := Lib.hid (HB.out.alloc sz (.cells #[.int .i64 0, .int .i64 0] 44))
      have M1 := Lib.hid (bld_alloc MR.out (.cells #[.int .i64 0, .int .i64 0] 44))
      rw [hz] at P0
      obtain ⟨p0, p1, p2', p3⟩ := P0.out.cells
      have P1 := Lib.hid (P0.out.set0 x)
      have C2 := Lib.hid (below_set (C := z) (i := 0) C1.out (by omega) (.int .i64 x))
      have M2 := Lib.hid (bld_other M1.out (C := z) (i := 0) (by omega) (by rw [P0.out]; intro c fz h; cases h) (.int .i64 x))
      obtain ⟨V1, hV1⟩ : ∃ W, (wr.alloc (.cells #[.int .i64 0, .int .i64 0] 44)).setCell ⟨z, 0, none⟩ (.int .i64 x) = W := ⟨_, rfl⟩
      rw [hV1] at P1 C2 M2
      obtain ⟨u0, u1, u2, u3⟩ := P1.out.cells
      have P2 := Lib.hid (P1.out.set1 y)
      have C3 := Lib.hid (below_set (C := z) (i := 1) C2.out (by omega) (.int .i64 y))
      have M3 := Lib.hid (bld_other M2.out (C := z) (i := 1) (by omega) (by rw [P1.out]; intro c fz h; cases h) (.int .i64 y))
      obtain ⟨V2, hV2⟩ : ∃ W, V1.setCell ⟨z, 1, none⟩ (.int .i64 y) = W := ⟨_, rfl⟩
      rw [hV2] at P2 C3 M3
      obtain ⟨v0, v1, v2, v3⟩ := P2.out.cells
      have zb : b < z := by omega
      have zv := P2.out.lt
      clear C1 C2 M1 M2 P0 P1
      go_wp2_with fail
      clear hz
      go_region_held3 (fun w' => w'.cell? ⟨z, 0, none⟩ = some (.int .i64 x) ∧ w'.cell? ⟨z, 1, none⟩ = some (.int .i64 y)) (go_keep)
        (first
          | (go_at_call_of 43 (Value.int .i64 x); refine (litoa_any x px _ HPX.out ?_ ?_ ?_).mono ?_; omega; omega; exact (show Tab V2 from HP.out.below C3.out); rintro e u1 ⟨rfl, hw⟩; have hw' : Below V2.heap.size V2 u1 := ⟨hw.os, hw.tape, hw.output, hw.size, hw.block⟩; have P5 := Lib.hid (P2.out.below hw' zv); have C5 := Lib.hid (C3.out.trans (hw'.mono C3.out.size)); have M5 := Lib.hid (bld_below M3.out hw'); have zu := hw'.size; obtain ⟨q0, q1, q2', q3⟩ := P5.out.cells; clear hw hw' C3 M3)
          | (go_at_call_of 43 (Value.int .i64 y); refine (litoa_any y py _ HPY.out ?_ ?_ ?_).mono ?_; omega; omega; exact (show Tab u1 from HP.out.below C5.out); rintro e u2 ⟨rfl, hw⟩; have P6 := Lib.hid (P5.out.below hw P5.out.lt); have C6 := Lib.hid (C5.out.trans (hw.mono C5.out.size)); have M6 := Lib.hid (bld_below M5.out hw); have zu2 := hw.size; obtain ⟨o0, o1, o2, o3⟩ := P6.out.cells; clear hw C5 M5)
          | (go_at_call 42; refine (bwrite_any b b _ a3 _ M6.out ?_ ?_).mono ?_; rw [Lib.byteCells_length]; simp; omega; omega; rintro e u3 ⟨rfl, hm, hw, ho⟩; have P7 := Lib.hid (ho z _ P6.out (by intro e; injection e with e; omega) (by intro c fz h; cases h)); have C7 := Lib.hid (C6.out.trans (hw.mono szB)); have M7 := Lib.hid hm; have zu3 := hw.size; obtain ⟨n0, n1, n2, n3⟩ := PBx.cells P7.out; clear hw hm ho C6 M6))
      rw [HN.out] at M7
      go_wp2_with fail
      go_roundw
      case rel => exact ⟨k + 1, by omega, by go_num, by omega, M7, C7⟩
      case measure => simp [intOf]; omega
    · obtain rfl : k = n := by omega
      go_wp2_with fail
      refine (Tryz.Builder_String_any b b (hdx B E ++ ltx f k) wr MR.out (Nat.le_of_lt zr)).mono ?_
      rintro e u1 ⟨rfl, hw⟩
      have C7 := Lib.hid (HB.out.trans (hw.mono szB))
      clear hw
      go_wp2_with fail
      go_ret
      exact ⟨ret_s HX.out.symm, C7.out⟩
theorem ltext_any (B E : Int) (a : Option Addr) (n c : Nat) (f : Nat → Int × Int) (w : World) (ht : MT w) (hp : Tab w) (hr : LRd w w.heap.size a n f) :
    Calls Tryz.prog 21 #[.agg #[.int .i64 B, .int .i64 E, .slice a n c]] w fun e w' => e = .returned (.string (txL B E f n)) ∧ Below w.heap.size w w' := by
  by_cases h : chkL B E f n = 0
  · exact ltext_ok B E a n c f w ht hp hr h
  · exact ltext_no B E a n c f w ht hr h
end Go.Proofs.YtegpajdahanhfaaGreatDoor
