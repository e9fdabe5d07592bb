/- Contracts of layer 4: Text. -/
import Derived.Test.YtemflgjfoappaabDoorPtmF
import Derived.Test.YtemflgjfoappaabDoorPtmT
namespace Go.Proofs.YtemflgjfoappaabDoor
open Go.RowKit Fx Pt Wi

theorem Pt.var_keep {P : Program} {w w' : World} {n : String} {cs : Array Value} (hv : w.var? P n = some cs) (hb : Below w.heap.size w w') : w'.var? P n = some cs := by
  unfold World.var? at hv ⊢
  rcases hg : P.globalNamed n with _ | g
  · rw [hg] at hv; cases hv
  · rw [hg] at hv
    have hlt : g < w.heap.size := by
      rcases Nat.lt_or_ge g w.heap.size with h | h
      · exact h
      · simp only [Option.bind_some] at hv
        rw [Array.getElem?_eq_none h] at hv
        cases hv
    simp only [Option.bind_some] at hv ⊢
    rw [hb.block g hlt]
    exact hv
/-- The table of the powers of ten. -/
def Pt.Tab (w : World) : Prop := Lib.TabIs Tryd.prog w "internal/strconv.uint64pow10" .u64 Lib.pow10Tab
theorem Pt.Tab.below {w w' : World} (h : Tab w) (hb : Below w.heap.size w w') : Tab w' := var_keep h hb

theorem Pt.below_grow (w : World) (k : Nat) (os : Array Obj) : Below w.heap.size w (Go.Sort.grow (w.drewN k) os) := by
  refine ⟨rfl, rfl, rfl, ?_, fun i hi => ?_⟩
  · show w.heap.size ≤ (w.heap ++ os).size
    rw [Array.size_append]; omega
  · show (w.heap ++ os)[i]? = w.heap[i]?
    rw [Array.getElem?_append_left hi]

theorem itoa_any (n : Nat) (w : World) (h1 : n ≤ 9223372036854775807) (ht : Tab w) :
    Calls Tryd.prog 19 #[.int .i64 n] w fun e w' => e = .returned (.string ⟨(Lib.decDigits n).toArray⟩) ∧ Below w.heap.size w w' := by
  refine (Tryd.strconv_Itoa n (by omega) (by omega) w ht).mono ?_
  rintro e w' ⟨rfl, k, os, rfl⟩
  refine ⟨ret_str ?_, below_grow w k os⟩
  unfold Lib.itoa
  rw [if_neg (by omega), Int.toNat_natCast]

theorem Pt.mk_append (a b : List UInt8) : (⟨a.toArray⟩ : ByteArray) ++ ⟨b.toArray⟩ = ⟨(a ++ b).toArray⟩ := by
  apply ByteArray.ext
  rw [ByteArray.data_append]
  simp

/-- The text of a timestamp. -/
def Pt.txt (s n : Int) : ByteArray := if ok s n = true then ⟨(ptL s.toNat n.toNat).toArray⟩ else ⟨#[]⟩

set_option maxRecDepth 100000 in
theorem ptext_any (s n : Int) (w : World) (ht : Tab w) :
    Calls Tryd.prog 6 #[.agg #[.int .i64 s, .int .i64 n]] w fun e w' => e = .returned (.string (txt s n)) ∧ Below w.heap.size w w' := by
  have B0 := Lib.hid (((Below.refl w.heap.size w).alloc (Nat.le_refl _) (.cells #[.int .i64 s, .int .i64 n] 23)).alloc (by simp) (.cells #[.int .i64 s, .int .i64 n] 23))
  have X0 : Hid (Bx ((w.alloc (.cells #[.int .i64 s, .int .i64 n] 23)).alloc (.cells #[.int .i64 s, .int .i64 n] 23)) w.heap.size s n) := Lib.hid ((Below.heap_alloc _ _ _ (bx_new w s n).lt).trans (bx_new w s n))
  rcases ho : ok s n with _ | _
  · have HT : Hid (txt s n = ⟨#[]⟩) := Lib.hid (by unfold txt; rw [ho]; rfl)
    have HK : Hid (chk s n = 3) := Lib.hid (by unfold chk; rw [ho]; rfl)
    clear ho
    go_enter Tryd.func6, Tryd.ntmps6
    go_wp2_with fail
    refine (pcheck_any s n _).mono ?_
    rintro e w' ⟨rfl, rfl⟩
    rw [HK.out]
    go_wp2_with fail
    go_ret
    exact ⟨ret_str HT.out.symm, B0.out⟩
  · obtain ⟨s0, s1, n0, n1⟩ := ok_iff.1 ho
    have HK := Lib.hid (chk_yes s0 s1 n0 n1)
    obtain ⟨S, rfl⟩ := Int.eq_ofNat_of_zero_le s0
    obtain ⟨N, rfl⟩ := Int.eq_ofNat_of_zero_le n0
    have HT : Hid (txt S N = ⟨(ptL S N).toArray⟩) := Lib.hid (by unfold txt; rw [ho]; rfl)
    have hp := pad_nine (show N < 1000000000 by omega)
    have hl := dec_le 9 N (by decide) (by omega)
    obtain ⟨D, hD⟩ : ∃ D, Lib.decDigits N = D := ⟨_, rfl⟩
    rw [hD] at hp hl
    obtain ⟨c, hc⟩ : ∃ c : Nat, 9 - D.length = c := ⟨_, rfl⟩
    rw [hc] at hp
    obtain ⟨v, hv⟩ : ∃ v : ByteArray, (⟨D.toArray⟩ : ByteArray) = v := ⟨_, rfl⟩
    obtain ⟨y, hy⟩ : ∃ y : ByteArray, (⟨(Lib.decDigits S).toArray⟩ : ByteArray) = y := ⟨_, rfl⟩
    obtain ⟨q, hq⟩ : ∃ q : ByteArray, (⟨(Lib.repeatL [48] c).toArray⟩ : ByteArray) = q := ⟨_, rfl⟩
    have hvs : v.size = D.length := by rw [← hv]; simp [ByteArray.size]
    obtain ⟨m, hm⟩ : ∃ m : Nat, D.length = m := ⟨_, rfl⟩
    rw [hm] at hvs hl hc
    have hqs : q.size ≤ 9 := by rw [← hq]; simp [ByteArray.size, Lib.repeatL_length]; omega
    have hys : y.size ≤ 20 := by
      have := dec_le 20 S (by decide) (by omega)
      rw [← hy]; simpa [ByteArray.size] using this
    have HF : Hid (txt S N = y ++ ⟨#[46]⟩ ++ q ++ v) := Lib.hid (by
      rw [HT.out, ← hy, ← hq, ← hv, show (⟨#[46]⟩ : ByteArray) = ⟨([46] : List UInt8).toArray⟩ from rfl, mk_append, mk_append, mk_append]
      unfold ptL
      rw [← hp]
      simp)
    have HV := Lib.hid hv
    have HY := Lib.hid hy
    have HQ := Lib.hid hq
    have HD := Lib.hid hD
    have hc' : (9 : Int) - m = c := by omega
    clear ho hp hD hv hy hq hm HT
    go_enter Tryd.func6, Tryd.ntmps6
    go_wp2_with fail
    refine (pcheck_any S N _).mono ?_
    rintro e w' ⟨rfl, rfl⟩
    rw [HK.out]
    obtain ⟨W0, hW0⟩ : ∃ W, (w.alloc (.cells #[.int .i64 S, .int .i64 N] 23)).alloc (.cells #[.int .i64 S, .int .i64 N] 23) = W := ⟨_, rfl⟩
    rw [hW0] at B0 X0
    have HW0 := Lib.hid hW0
    clear hW0
    obtain ⟨x0, x1, _, _, _⟩ := two_cells X0.out
    go_wp2_with fail
    rw [HW0.out]
    have z0 : w.heap.size + 1 < W0.heap.size := by have := HW0.out; rw [← this]; simp
    have T0 := Lib.hid (ht.below B0.out)
    refine (itoa_any N W0 (by omega) T0.out).mono ?_
    rintro e w1 ⟨rfl, hw1⟩
    rw [HD.out, HV.out]
    have X1 := Lib.hid (X0.out.below hw1 (by omega))
    have B1 := Lib.hid (B0.out.trans (hw1.mono (by omega)))
    have T1 := Lib.hid (T0.out.below hw1)
    have z1 := hw1.size
    clear hw1 X0 B0 T0 x0 x1
    go_wp2_with fail
    refine (Tryd.strings_Repeat ⟨#[48]⟩ c _ (by omega) (by show 1 * c ≤ _; omega)).mono ?_
    rintro e w2 ⟨rfl, hw2⟩
    rw [show (Lib.repeatL (⟨#[48]⟩ : ByteArray).data.toList c) = Lib.repeatL [48] c from rfl, HQ.out]
    have X2 := Lib.hid (X1.out.below hw2 (by omega))
    have B2 := Lib.hid (B1.out.trans (hw2.mono (by omega)))
    have T2 := Lib.hid (T1.out.below hw2)
    have z2 := hw2.size
    obtain ⟨x0, x1, _, _, _⟩ := two_cells X2.out
    clear hw2 X1 B1 T1
    go_wp2_with fail
    refine (itoa_any S w2 (by omega) T2.out).mono ?_
    rintro e w3 ⟨rfl, hw3⟩
    rw [HY.out]
    have B3 := Lib.hid (B2.out.trans (hw3.mono (by omega)))
    clear hw3 X2 B2 T2
    go_wp2_with fail
    go_ret
    exact ⟨ret_str HF.out.symm, B3.out⟩
end Go.Proofs.YtemflgjfoappaabDoor
