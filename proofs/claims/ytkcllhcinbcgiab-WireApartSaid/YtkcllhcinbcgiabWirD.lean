/- Contracts of layer 2: the specification's Append, slices.Clone. -/
import Derived.Test.YtkcllhcinbcgiabWirC
import Derived.Laws.AppendOwnNone
namespace Go.Proofs.Ytkcllhcinbcgiab
open Go.RowKit Wi

theorem empty_own (w : World) : (w.alloc (.cells #[] 5)).ownsRow w.heap.size 5 1 (.slice (some ⟨w.heap.size, 0, none⟩) 0 0) 0 [] :=
  World.ownsRow_made w #[] 0 (Nat.le_refl _) (Nat.zero_le _) rfl
theorem cells_add {w : World} {b off n : Nat} {l : List Int} (hl : l.length = n) (hc : ∀ i, i < n → w.cell? ⟨b, off + i, none⟩ = some (.int .u8 (l.getD i 0))) :
    ∀ j u, (l.map (Value.int .u8))[j]? = some u → w.cell? ((⟨b, off, none⟩ : Addr).add j) = some u := by
  intro j v hj
  rw [List.getElem?_map] at hj
  rcases hx : l[j]? with _ | x
  · rw [hx] at hj; cases hj
  · rw [hx] at hj
    injection hj with hj
    have hlt : j < n := by
      rw [← hl]
      rcases Nat.lt_or_ge j l.length with hlt | hge
      · exact hlt
      · rw [List.getElem?_eq_none hge] at hx; cases hx
    rw [Go.WideShapes.add_plain, hc j hlt, List.getD_eq_getElem?_getD, hx, ← hj]
    rfl
theorem BReads.alloc {w : World} {B : Nat} {A : Option Addr} {n : Nat} {l : List Int} (h : BReads w B A n l) (hB : B ≤ w.heap.size) (o : Obj) : BReads (w.alloc o) B A n l := h.keep fun p hp => World.cell?_alloc_lt w o p (by omega)
theorem BReads.add {w : World} {B : Nat} {ad : Addr} {n : Nat} {l : List Int} (h : BReads w B (some ad) n l) : ∀ j u, (l.map (Value.int .u8))[j]? = some u → w.cell? (ad.add j) = some u := by
  intro j u hj
  have hn : 0 < n := by
    rw [← h.1]
    rcases Nat.eq_zero_or_pos l.length with h0 | h0
    · rw [List.eq_nil_of_length_eq_zero h0] at hj; simp at hj
    · exact h0
  obtain ⟨b, off, e, _, hc⟩ := h.2.2 hn
  injection e with e
  subst e
  exact cells_add h.1 hc j u hj

theorem clone_none (w : World) :
    Calls Try.prog 15 #[.slice none 0 0] w fun e w' => e = .returned (.slice none 0 0) ∧ w = w' := by
  have hnil := fun wx => Lib.run_eql_slice_nil (P := Try.prog) wx 22 5 none 0 0 0 0 Try.underlying22
  go_enter Try.func15, Try.ntmps15
  go_wp2_with fail
  go_ret
  exact ⟨rfl, rfl⟩

theorem clone_some (ad : Addr) (n c : Nat) (l : List Int) (w : World) (hr : BReads w w.heap.size (some ad) n l) (hm : n ≤ 140737488351232) :
    Calls Try.prog 15 #[.slice (some ad) n c] w fun e w' => ∃ v, e = .returned v ∧ w'.ownsRow w.heap.size 5 1 v n (l.map (Value.int .u8)) ∧ Below w.heap.size w w' := by
  obtain ⟨i0, hi0, hz0, hz1, hz2⟩ := info_parts info_u8
  have hl := Lib.hid (show (l.map (Value.int .u8)).length = n * 1 by rw [List.length_map, hr.1, Nat.mul_one])
  have ha := Lib.hid ((hr.alloc (Nat.le_refl _) (.cells #[] 5)).add)
  clear hr
  have hnil := fun wx => Lib.run_eql_slice_nil (P := Try.prog) wx 22 5 (some ad) n c 0 0 Try.underlying22
  go_enter Try.func15, Try.ntmps15
  go_wp2_with (first
    | (at_builtin; refine wpList_append_own _ rfl (.tmp 5) (.tmp 6) _ rfl w.heap.size 5 i0 (.int .u8 0) 1 1 Try.underlying22 hi0 hz0 hz1 hz2 rfl (by decide) _ 0 [] rfl (empty_own w) ad n c (l.map (Value.int .u8)) rfl hl.out ha.out (oneCell_u8 l) (by unfold maxLen; omega) (by omega) (by simp) ?_; intro v1 w1 hown1 hgr1 _))
  rw [Nat.zero_add, List.nil_append] at hown1
  have hgr2 : (w.alloc (.cells #[] 5)).grownBy w1 (some w.heap.size) := hgr1
  have hw1 : Below w.heap.size w w1 := ((Below.refl _ _).alloc (Nat.le_refl _) _).grown hgr2 (by simp) (fun k hk => by injection hk with hk; omega)
  have Ho := Lib.hid hown1
  clear hown1 hgr1 hgr2
  go_wp2_with fail
  go_ret
  exact ⟨_, rfl, Ho.out, hw1⟩

end Go.Proofs.Ytkcllhcinbcgiab
