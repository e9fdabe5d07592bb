/- Contracts of layer 4: Decode. -/
import Derived.Test.YtiecbpecpoojkaaPtmE
import Derived.Deep.RegionHeld3
namespace Go.Proofs.Ytiecbpecpoojkaa
open Go.RowKit Fx Pt Wi

/-- What Decode returns. -/
def Pt.dS (l : List Int) : Int := beVal (l.take 6)
def Pt.dN (l : List Int) : Int := beVal ((l.drop 6).take 4)
def Pt.decE (l : List Int) : Int := if l.length < 10 then 5 else if 10 < l.length then 6 else chk (dS l) (dN l)
def Pt.decS (l : List Int) : Int := if decE l = 0 then dS l else 0
def Pt.decN (l : List Int) : Int := if decE l = 0 then dN l else 0
theorem Pt.dS_bounds {l : List Int} (hb : Bytes l) : 0 ≤ dS l ∧ dS l ≤ 281474976710655 := by
  have b := beVal_bounds _ (hb.take 6)
  have h : (l.take 6).length ≤ 6 := by rw [List.length_take]; omega
  have p := Nat.pow_le_pow_right (show 0 < 256 by decide) h
  have e : (256 : Nat) ^ 6 = 281474976710656 := by decide
  unfold dS; omega
theorem Pt.dN_bounds {l : List Int} (hb : Bytes l) : 0 ≤ dN l ∧ dN l ≤ 4294967295 := by
  have b := beVal_bounds _ ((hb.drop 6).take 4)
  have h : ((l.drop 6).take 4).length ≤ 4 := by rw [List.length_take]; omega
  have p := Nat.pow_le_pow_right (show 0 < 256 by decide) h
  have e : (256 : Nat) ^ 4 = 4294967296 := by decide
  unfold dN; omega

theorem decode_long (A : Option Addr) (n c : Nat) (l : List Int) (w : World) (hl : l.length = n) (hm : n ≤ 9223372036854775807) (h : n < 10 ∨ 10 < n) :
    Calls Try.prog 10 #[.slice A n c] w fun e w' => e = .returned (.tuple #[.agg #[.int .i64 (decS l), .int .i64 (decN l)], .int .i64 (decE l)]) ∧ Below w.heap.size w w' := by
  by_cases h1 : n < 10
  · have hE : decE l = 5 := if_pos (by omega)
    rw [show decS l = 0 from by unfold decS; rw [hE]; rfl, show decN l = 0 from by unfold decN; rw [hE]; rfl, hE]
    clear hE hl h
    go_enter Try.func10, Try.ntmps10
    go_wp2
    exact bodyPost_ret (v := .tuple #[.agg #[.int .i64 0, .int .i64 0], .int .i64 5]) (by simp [results, Try.results10, go_sem]) rfl ⟨rfl, (Below.refl _ _).alloc (Nat.le_refl _) _⟩
  · have hE : decE l = 6 := (if_neg (by omega)).trans (if_pos (by omega))
    have h2 : 10 < n := by omega
    rw [show decS l = 0 from by unfold decS; rw [hE]; rfl, show decN l = 0 from by unfold decN; rw [hE]; rfl, hE]
    clear hE hl h
    go_enter Try.func10, Try.ntmps10
    go_wp2
    exact bodyPost_ret (v := .tuple #[.agg #[.int .i64 0, .int .i64 0], .int .i64 6]) (by simp [results, Try.results10, go_sem]) rfl ⟨rfl, (Below.refl _ _).alloc (Nat.le_refl _) _⟩
theorem Pt.bx_end {w : World} {B : Nat} {a b : Int} (h : Bx w B a b) (s n : Int) (o o' : Obj) : Bx ((((w.setCell ⟨B, 0, none⟩ (.int .i64 s)).setCell ⟨B, 1, none⟩ (.int .i64 n)).alloc o).alloc o') B s n := by
  have h1 : Bx ((w.setCell ⟨B, 0, none⟩ (.int .i64 s)).setCell ⟨B, 1, none⟩ (.int .i64 n)) B s n := two_set1 (two_set0 h _) _
  have h2 : Bx (((w.setCell ⟨B, 0, none⟩ (.int .i64 s)).setCell ⟨B, 1, none⟩ (.int .i64 n)).alloc o) B s n := (Below.heap_alloc _ _ _ h1.lt).trans h1
  exact (Below.heap_alloc _ _ _ h2.lt).trans h2

set_option maxRecDepth 100000 in
theorem decode_ten (A : Option Addr) (c : Nat) (l : List Int) (w : World) (hr : BReads w w.heap.size A 10 l) :
    Calls Try.prog 10 #[.slice A 10 c] w fun e w' => e = .returned (.tuple #[.agg #[.int .i64 (decS l), .int .i64 (decN l)], .int .i64 (decE l)]) ∧ Below w.heap.size w w' := by
  have hl := hr.1
  have hb := hr.2.1
  have sb := dS_bounds hb
  have nb := dN_bounds hb
  have hE : decE l = chk (dS l) (dN l) := (if_neg (by omega)).trans (if_neg (by omega))
  have hl6 : (l.drop 6).length = 4 := by rw [List.length_drop, hl]
  have v1 : numV l 0 6 = dS l := by unfold numV getV getE; rw [if_pos rfl, if_pos (by rw [hl]; decide)]; rfl
  have v2 : numL l 0 6 = l.drop 6 := by unfold numL getE; rw [if_pos ⟨rfl, by rw [hl]; decide⟩]; rfl
  have v3 : numE l 0 6 = 0 := by unfold numE getE; rw [if_pos rfl, hl]; decide
  have v4 : numV (l.drop 6) 0 4 = dN l := by unfold numV getV getE; rw [if_pos rfl, if_pos (by rw [hl6]; decide)]; rfl
  obtain ⟨S, hS⟩ : ∃ S, dS l = S := ⟨_, rfl⟩
  obtain ⟨N, hN⟩ : ∃ N, dN l = N := ⟨_, rfl⟩
  rw [hS] at sb v1
  rw [hN] at nb v4
  obtain ⟨s0, s1⟩ := sb
  obtain ⟨n0, n1⟩ := nb
  have HR1 := Lib.hid ((hr.alloc (Nat.le_refl _) (.cells #[.int .i64 0, .int .i64 0] 33)).more (B' := (w.alloc (.cells #[.int .i64 0, .int .i64 0] 33)).heap.size) (by simp))
  have V := Lib.hid (And.intro v1 (And.intro v2 (And.intro v3 v4)))
  have X0 := Lib.hid (bx_new w 0 0)
  have B0 := Lib.hid ((Below.refl w.heap.size w).alloc (Nat.le_refl _) (.cells #[.int .i64 0, .int .i64 0] 33))
  have hE' : Hid (decE l = chk S N) := Lib.hid (by rw [hE, hS, hN])
  have HS := Lib.hid (And.intro hS hN)
  obtain ⟨W0, hW0⟩ : ∃ W, w.alloc (.cells #[.int .i64 0, .int .i64 0] 33) = W := ⟨_, rfl⟩
  have z0 := size_alloc w (.cells #[.int .i64 0, .int .i64 0] 33)
  rw [hW0] at X0 B0 z0 HR1
  have HW0 := Lib.hid hW0
  clear hr hl hb hE hl6 v1 v2 v3 v4 hS hN hW0
  go_enter Try.func10, Try.ntmps10
  go_wp2_with fail
  rw [HW0.out]
  refine (pnew_any A 10 c l W0 HR1.out (by decide)).mono ?_
  rintro e w1 ⟨g, rfl, hg, hP1, hw1⟩
  have P1 := Lib.hid hP1
  have X1 := Lib.hid (X0.out.below hw1 (by omega))
  have B1 := Lib.hid (B0.out.trans (hw1.mono (by omega)))
  have z1 := hw1.size
  clear hP1 hw1 X0 B0 HR1
  go_wp2_with fail
  refine (puint_any g l 0 6 w1 P1.out).mono ?_
  rintro e w2 ⟨rfl, hP2, hg2⟩
  rw [V.out.2.1, V.out.2.2.1] at hP2
  rw [V.out.1]
  have P2 := Lib.hid hP2
  have X2 : Hid (Bx w2 w.heap.size 0 0) := Lib.hid ((hg2.block w.heap.size X1.out.lt (fun e => by injection e with e; omega)).trans X1.out)
  have B2 := Lib.hid (B1.out.grown hg2 B1.out.size (fun k hk => by injection hk with hk; omega))
  have z2 := hg2.size
  clear hP2 hg2 P1 X1 B1
  go_wp2_with fail
  refine (puint_any g (l.drop 6) 0 4 w2 P2.out).mono ?_
  rintro e w3 ⟨rfl, hP3, hg3⟩
  rw [V.out.2.2.2]
  have X3 : Hid (Bx w3 w.heap.size 0 0) := Lib.hid ((hg3.block w.heap.size X2.out.lt (fun e => by injection e with e; omega)).trans X2.out)
  have B3 := Lib.hid (B2.out.grown hg3 B2.out.size (fun k hk => by injection hk with hk; omega))
  have z3 := hg3.size
  clear hP3 hg3 P2 X2 B2
  obtain ⟨x0, x1, f0, f1, x2⟩ := two_cells X3.out
  go_wp2_with fail
  refine (pcheck_any S N _).mono ?_
  rintro e w' ⟨rfl, rfl⟩
  by_cases ho : ok S N = true
  · have HK : Hid (chk S N = 0) := Lib.hid (if_pos ho)
    have HE : Hid (decE l = 0 ∧ decS l = S ∧ decN l = N) := Lib.hid (by
      have : decE l = 0 := by rw [hE'.out]; exact if_pos ho
      exact ⟨this, (if_pos this).trans HS.out.1, (if_pos this).trans HS.out.2⟩)
    clear ho
    rw [HK.out]
    go_wp2_with fail
    rw [HE.out.1, HE.out.2.1, HE.out.2.2]
    obtain ⟨c0, c1, _, _, _⟩ := two_cells (bx_end X3.out S N (.cells #[.int .i64 S, .int .i64 N] 33) (.cells #[.int .i64 S, .int .i64 N] 33))
    exact bodyPost_ret (v := .tuple #[.agg #[.int .i64 S, .int .i64 N], .int .i64 0]) (by simp [results, Try.results10, go_sem, c0, c1]) rfl ⟨rfl, (((B3.out.setCell (Nat.le_refl _) _).setCell (Nat.le_refl _) _).alloc (by simp; omega) _).alloc (by simp; omega) _⟩
  · have HK : Hid (chk S N = 3) := Lib.hid (if_neg ho)
    have HE : Hid (decE l = 3 ∧ decS l = 0 ∧ decN l = 0) := Lib.hid (by
      have : decE l = 3 := by rw [hE'.out]; exact if_neg ho
      exact ⟨this, if_neg (by rw [this]; decide), if_neg (by rw [this]; decide)⟩)
    clear ho
    rw [HK.out]
    go_wp2_with fail
    rw [HE.out.1, HE.out.2.1, HE.out.2.2]
    obtain ⟨c0, c1, _, _, _⟩ := two_cells (bx_end X3.out 0 0 (.cells #[.int .i64 S, .int .i64 N] 33) (.cells #[.int .i64 S, .int .i64 N] 33))
    exact bodyPost_ret (v := .tuple #[.agg #[.int .i64 0, .int .i64 0], .int .i64 3]) (by simp [results, Try.results10, go_sem, c0, c1]) rfl ⟨rfl, (((B3.out.setCell (Nat.le_refl _) _).setCell (Nat.le_refl _) _).alloc (by simp; omega) _).alloc (by simp; omega) _⟩
end Go.Proofs.Ytiecbpecpoojkaa
