/- Contracts of layer 2: the specification's reader. -/
import Derived.Test.YtkcllhcinbcgiaaWirQ
namespace Go.Proofs.Ytkcllhcinbcgiaa
open Go.RowKit Wi

/-- An address that is not in block q. -/
def Off (A : Option Addr) (q : Nat) : Prop := ∀ a, A = some a → a.block ≠ q
theorem Off.add {a : Addr} {q : Nat} (h : Off (some a) q) (k : Nat) : Off (some (a.add k)) q := fun b e => by
  injection e with e
  subst e
  have := h a rfl
  unfold Addr.add
  split <;> exact this
/-- Block g is a reader of the specification's with these bytes left and this error. -/
def RRd (w : World) (g q : Nat) (l : List Int) (err : Int) : Prop :=
  ∃ A n c, w.heap[g]? = some (.cells #[.slice A n c, .int .i64 err] 74 (0, 0)) ∧ BReads w g A n l ∧ n ≤ c ∧ c ≤ 9223372036854775807 ∧ (A = none → c = 0) ∧ Off A q
theorem RRd.below {w w' : World} {g q : Nat} {l : List Int} {err : Int} (h : RRd w g q l err) (hb : Below w.heap.size w w') : RRd w' g q l err := by
  obtain ⟨A, n, c, hh, hr, hnc, hcm, hA0, hoff⟩ := h
  have hg := (two_cells hh).2.2.2.2
  exact ⟨A, n, c, (hb.block g hg).trans hh, hr.keep fun p hp => hb.cell (by omega), hnc, hcm, hA0, hoff⟩
theorem RRd.other {w w' : World} {g q : Nat} {l : List Int} {err : Int} (h : RRd w g q l err) (hg : w.grownBy w' (some q)) (hne : g ≠ q) : RRd w' g q l err := by
  obtain ⟨A, n, c, hh, hr, hnc, hcm, hA0, hoff⟩ := h
  have hlt := (two_cells hh).2.2.2.2
  refine ⟨A, n, c, (hg.block g hlt (fun e => by injection e with e; omega)).trans hh, ⟨hr.1, hr.2.1, fun hn => ?_⟩, hnc, hcm, hA0, hoff⟩
  obtain ⟨b, off, e, hb, hc⟩ := hr.2.2 hn
  have hbq : b ≠ q := hoff _ e
  exact ⟨b, off, e, hb, fun i hi => (World.cell?_of_block (hg.block b (by omega) (fun e => by injection e with e; omega))).trans (hc i hi)⟩
theorem RRd.lt {w : World} {g q : Nat} {l : List Int} {err : Int} (h : RRd w g q l err) : g < w.heap.size := by
  obtain ⟨A, n, c, hh, _⟩ := h
  exact (two_cells hh).2.2.2.2
theorem PRd.lt {w : World} {g : Nat} {l : List Int} {err : Int} (h : PRd w g l err) : g < w.heap.size := by
  obtain ⟨A, n, c, hh, _⟩ := h
  exact (two_cells hh).2.2.2.2

theorem rerr_any (g q : Nat) (l : List Int) (err : Int) (w : World) (h : RRd w g q l err) :
    Calls Try.prog 60 #[.pointer (some ⟨g, 0, none⟩)] w fun e w' => e = .returned (.int .i64 err) ∧ w = w' := by
  obtain ⟨A, n, c, hh, _⟩ := h
  obtain ⟨c0, c1, f0, f1, _⟩ := two_cells hh
  clear hh
  go_enter Try.func60, Try.ntmps60
  go_wp2_with fail
  go_ret
  exact ⟨rfl, rfl⟩

theorem rleft_any (g q : Nat) (l : List Int) (err : Int) (w : World) (h : RRd w g q l err) :
    Calls Try.prog 59 #[.pointer (some ⟨g, 0, none⟩)] w fun e w' => e = .returned (.int .i64 l.length) ∧ w = w' := by
  obtain ⟨A, n, c, hh, hr, _⟩ := h
  obtain ⟨c0, c1, f0, f1, _⟩ := two_cells hh
  have hl := Lib.hid hr.1
  clear hh hr
  go_enter Try.func59, Try.ntmps59
  go_wp2_with fail
  go_ret
  exact ⟨by rw [hl.out]; rfl, rfl⟩

/-- What take does where it is told whether its argument is good. -/
def Wi.tkOk (l : List Int) (err n : Int) (ok : Bool) : Prop := err = 0 ∧ ok = true ∧ n ≤ l.length
instance (l : List Int) (err n : Int) (ok : Bool) : Decidable (tkOk l err n ok) := by unfold tkOk; infer_instance
def Wi.tkV (l : List Int) (err n : Int) (ok : Bool) : List Int := if tkOk l err n ok then l.take n.toNat else []
def Wi.tkL (l : List Int) (err n : Int) (ok : Bool) : List Int := if tkOk l err n ok then l.drop n.toNat else l
def Wi.tkE (l : List Int) (err n : Int) (ok : Bool) : Int := if err = 0 then (if ok = true then (if (l.length : Int) < n then 5 else 0) else 2) else err

def TkPost (l : List Int) (err n : Int) (ok : Bool) (g q : Nat) (w : World) (e : Ending) (w' : World) : Prop :=
  ∃ A c, e = .returned (.slice A (tkV l err n ok).length c) ∧ BReads w' w'.heap.size A (tkV l err n ok).length (tkV l err n ok) ∧ (A = none → (tkV l err n ok).length = 0 ∧ c = 0) ∧ (tkV l err n ok).length ≤ c ∧ c ≤ 9223372036854775807 ∧ RRd w' g q (tkL l err n ok) (tkE l err n ok) ∧ w.grownBy w' (some g)

theorem reader_kept {w w1 : World} {g : Nat} {o : Obj} {cs : Array Value} {t : TypeId} (h : (w.alloc o).grownBy w1 (some w.heap.size)) (hh : w.heap[g]? = some (.cells cs t (0, 0))) : w1.heap[g]? = some (.cells cs t (0, 0)) := by
  have hg : g < w.heap.size := by
    rcases Nat.lt_or_ge g w.heap.size with hlt | hge
    · exact hlt
    · rw [Array.getElem?_eq_none hge] at hh; cases hh
  exact (h.block g (by simp; omega) (fun e => by injection e with e; omega)).trans ((Below.heap_alloc w o g hg).trans hh)
theorem reads_kept {w w1 : World} {g n : Nat} {o : Obj} {A : Option Addr} {l : List Int} (h : (w.alloc o).grownBy w1 (some w.heap.size)) (hr : BReads w g A n l) (hg : g < w.heap.size) : BReads w1 g A n l :=
  hr.keep fun p hp => World.cell?_of_block ((h.block p.block (by simp; omega) (fun e => by injection e with e; omega)).trans (Below.heap_alloc w o p.block (by omega)))
theorem grown_fin {w w1 : World} {g : Nat} {o : Obj} (h : (w.alloc o).grownBy w1 (some w.heap.size)) (u : Value) : w.grownBy (w1.setCell ⟨g, 0, none⟩ u) (some g) := by
  have hs := h.size
  refine ⟨h.os, h.tape, h.output, by simp [World.setCell] at hs ⊢; omega, fun k hk hne => ?_⟩
  refine (Below.heap_setCell w1 ⟨g, 0, none⟩ u k (fun e => hne (by rw [e]))).trans ?_
  exact (h.block k (by simp; omega) (fun e => by injection e with e; omega)).trans (Below.heap_alloc w o k hk)

set_option maxRecDepth 100000 in
theorem rtake_any (g q : Nat) (l : List Int) (err size : Int) (ok : Bool) (w : World) (h : RRd w g q l err) (hok : ok = true → 0 ≤ size) (hm : l.length ≤ 140737488351232) :
    Calls Try.prog 75 #[.pointer (some ⟨g, 0, none⟩), .int .i64 size, .bool ok] w (TkPost l err size ok g q w) := by
  have h' := h
  obtain ⟨A, n, c, hh, hr, hnc, hcm, hA0, hoff⟩ := h
  obtain ⟨c0, c1, f0, f1, hg⟩ := two_cells hh
  have hl := hr.1
  have HP := Lib.hid h'
  have HH := Lib.hid hh
  by_cases he : err = 0
  · subst he
    cases ok with
    | false =>
      have V : tkV l 0 size false = [] := if_neg (by unfold tkOk; simp)
      have L : tkL l 0 size false = l := if_neg (by unfold tkOk; simp)
      have X : tkE l 0 size false = 2 := by unfold tkE; rw [if_pos rfl, if_neg (by decide)]
      have P : ∀ w', RRd w' g q l 2 → w.grownBy w' (some g) → TkPost l 0 size false g q w (.returned (.slice none 0 0)) w' := fun w' a b => by
        unfold TkPost; rw [V, L, X]
        exact ⟨none, 0, rfl, BReads.nil, fun _ => ⟨rfl, rfl⟩, Nat.le_refl _, by omega, a, b⟩
      clear hh h' V L X hl
      go_enter Try.func75, Try.ntmps75
      go_wp2_with fail
      go_ret
      exact P _ ⟨A, n, c, two_set1 HH.out _, hr.setCell (Nat.le_refl _) _, hnc, hcm, hA0, hoff⟩ (grownBy_setCell _ _ _ _)
    | true =>
      have h0 := hok rfl
      by_cases h2 : (n : Int) < size
      · have V : tkV l 0 size true = [] := if_neg (by unfold tkOk; omega)
        have L : tkL l 0 size true = l := if_neg (by unfold tkOk; omega)
        have X : tkE l 0 size true = 5 := by unfold tkE; rw [if_pos rfl, if_pos rfl, if_pos (by omega)]
        have P : ∀ w', RRd w' g q l 5 → w.grownBy w' (some g) → TkPost l 0 size true g q w (.returned (.slice none 0 0)) w' := fun w' a b => by
          unfold TkPost; rw [V, L, X]
          exact ⟨none, 0, rfl, BReads.nil, fun _ => ⟨rfl, rfl⟩, Nat.le_refl _, by omega, a, b⟩
        clear hh h' V L X hl hok
        go_enter Try.func75, Try.ntmps75
        go_wp2_with fail
        go_ret
        exact P _ ⟨A, n, c, two_set1 HH.out _, hr.setCell (Nat.le_refl _) _, hnc, hcm, hA0, hoff⟩ (grownBy_setCell _ _ _ _)
      · obtain ⟨k, rfl⟩ := Int.eq_ofNat_of_zero_le h0
        have hk : k ≤ n := by omega
        have V : tkV l 0 k true = l.take k := by unfold tkV; rw [if_pos (by unfold tkOk; exact ⟨rfl, rfl, by omega⟩)]; rfl
        have L : tkL l 0 k true = l.drop k := by unfold tkL; rw [if_pos (by unfold tkOk; exact ⟨rfl, rfl, by omega⟩)]; rfl
        have X : tkE l 0 k true = 0 := by unfold tkE; rw [if_pos rfl, if_pos rfl, if_neg (by omega)]
        have tl : (l.take k).length = k := by rw [List.length_take]; omega
        have hnm : n ≤ 140737488351232 := by omega
        have P : ∀ w' v, w'.ownsRow w.heap.size 5 1 v k ((l.take k).map (Value.int .u8)) → RRd w' g q (l.drop k) 0 → w.grownBy w' (some g) → TkPost l 0 k true g q w (.returned v) w' := fun w' v r a b => by
          obtain ⟨A', c', rfl, q1, q2, q3, q4⟩ := own_reads r (hr.2.1.take k)
          unfold TkPost; rw [V, L, X, tl]
          exact ⟨_, _, rfl, q1, q2, q3, q4, a, b⟩
        clear hh h' V L X hl hok
        obtain ⟨i0, hi0, hz0, hz1, hz2⟩ := info_parts info_u8
        rcases A with _ | ad
        · obtain rfl : c = 0 := hA0 rfl
          obtain rfl : n = 0 := by omega
          obtain rfl : k = 0 := by omega
          have hs0 : (w.setCell ⟨g, 0, none⟩ (.slice none 0 0)).heap.size = w.heap.size := by simp [World.setCell]
          have HH0 : Hid (((w.setCell ⟨g, 0, none⟩ (.slice none 0 0)).alloc (.cells #[] 5)).heap[g]? = some (.cells #[.slice none 0 0, .int .i64 0] 74 (0, 0))) :=
            Lib.hid ((Below.heap_alloc _ _ g (by rw [hs0]; exact hg)).trans (two_set0 HH.out _))
          have hfin : w.grownBy ((w.setCell ⟨g, 0, none⟩ (.slice none 0 0)).alloc (.cells #[] 5)) (some g) := by
            refine ⟨rfl, rfl, rfl, by simp [World.setCell], fun q hq hne => ?_⟩
            exact (Below.heap_alloc _ _ q (by rw [hs0]; exact hq)).trans (Below.heap_setCell w ⟨g, 0, none⟩ _ q (fun e => hne (by rw [e])))
          have hown := empty_own (w.setCell ⟨g, 0, none⟩ (.slice none 0 0))
          rw [hs0] at hown
          have HOWN := Lib.hid hown
          have HBR := Lib.hid ((hr.setCell (p := ⟨g, 0, none⟩) (Nat.le_refl _) (.slice none 0 0)).alloc (by rw [hs0]; exact Nat.le_of_lt hg) (.cells #[] 5))
          clear hown
          go_enter Try.func75, Try.ntmps75
          go_wp2_with (first
            | (at_builtin; refine wpList_append_own_none rfl (.tmp 32) (.tmp 38) _ rfl w.heap.size 5 i0 1 Try.underlying31 hi0 _ 0 [] rfl (empty_own w) rfl ?_))
          go_ret
          exact P _ _ HOWN.out ⟨none, 0, 0, HH0.out, by simpa using HBR.out, by omega, by omega, fun _ => rfl, hoff⟩ hfin
        · have ht := hr.tail' hk hnc
          have hcut := ((hr.cut hk).more (Nat.le_of_lt hg)).alloc (Nat.le_refl _) (.cells #[] 5)
          have HCA := Lib.hid hcut.add
          have HCL := Lib.hid (show ((l.take k).map (Value.int .u8)).length = k * 1 by rw [List.length_map, tl, Nat.mul_one])
          have hkc : k ≤ c := by omega
          clear hcut
          by_cases hcs : c = k
          · rw [if_pos hcs] at ht
            obtain rfl : k = c := hcs.symm
            obtain rfl : k = n := by omega
            rw [Nat.sub_self] at ht
            have HT := Lib.hid ht
            have HR := Lib.hid hr
            clear ht hr
            go_enter Try.func75, Try.ntmps75
            go_wp2_with (first
              | (at_builtin; refine wpList_append_own _ rfl (.tmp 32) (.tmp 38) _ rfl w.heap.size 5 i0 (.int .u8 0) 1 1 Try.underlying31 hi0 hz0 hz1 hz2 rfl (by decide) _ 0 [] rfl (empty_own w) ad k k ((l.take k).map (Value.int .u8)) rfl HCL.out HCA.out (oneCell_u8 _) (by unfold maxLen; omega) (by omega) (by simp) ?_; intro v1 w1 hown1 hgr1 hii; clear hii; have hgr2 : (w.alloc (.cells #[] 5)).grownBy w1 (some w.heap.size) := hgr1; have hh1 := reader_kept hgr2 HH.out; have HH1 := Lib.hid hh1; obtain ⟨d0, d1, d2, d3, _⟩ := two_cells hh1; have HO1 := Lib.hid hown1; have HG2 := Lib.hid hgr2; clear hown1 hgr1 hgr2 hh1))
            go_ret
            refine P _ _ ?_ ⟨_, 0, 0, two_set0 HH1.out _, (reads_kept HG2.out HT.out hg).setCell (Nat.le_refl _) _, by omega, by omega, (fun e => by cases e), hoff⟩ (grown_fin HG2.out _)
            have := HO1.out
            rw [Nat.zero_add, List.nil_append] at this
            exact ownsRow_setCell_below this hg _
          · rw [if_neg hcs] at ht
            have HT := Lib.hid ht
            have HR := Lib.hid hr
            clear ht hr
            go_enter Try.func75, Try.ntmps75
            go_wp2_with (first
              | (at_builtin; refine wpList_append_own _ rfl (.tmp 32) (.tmp 38) _ rfl w.heap.size 5 i0 (.int .u8 0) 1 1 Try.underlying31 hi0 hz0 hz1 hz2 rfl (by decide) _ 0 [] rfl (empty_own w) ad k c ((l.take k).map (Value.int .u8)) rfl HCL.out HCA.out (oneCell_u8 _) (by unfold maxLen; omega) (by omega) (by simp) ?_; intro v1 w1 hown1 hgr1 hii; clear hii; have hgr2 : (w.alloc (.cells #[] 5)).grownBy w1 (some w.heap.size) := hgr1; have hh1 := reader_kept hgr2 HH.out; have HH1 := Lib.hid hh1; obtain ⟨d0, d1, d2, d3, _⟩ := two_cells hh1; have HO1 := Lib.hid hown1; have HG2 := Lib.hid hgr2; clear hown1 hgr1 hgr2 hh1))
            go_ret
            refine P _ _ ?_ ⟨_, n - k, c - k, two_set0 HH1.out _, (reads_kept HG2.out HT.out hg).setCell (Nat.le_refl _) _, by omega, by omega, (fun e => by cases e), hoff.add _⟩ (grown_fin HG2.out _)
            have := HO1.out
            rw [Nat.zero_add, List.nil_append] at this
            exact ownsRow_setCell_below this hg _
  · have V : tkV l err size ok = [] := if_neg (fun h => he h.1)
    have L : tkL l err size ok = l := if_neg (fun h => he h.1)
    have X : tkE l err size ok = err := if_neg he
    have P : TkPost l err size ok g q w (.returned (.slice none 0 0)) w := by
      unfold TkPost; rw [V, L, X]
      exact ⟨none, 0, rfl, BReads.nil, fun _ => ⟨rfl, rfl⟩, Nat.le_refl _, by omega, h', World.grownBy.refl _ _⟩
    have he' : (err == 0) = false := by simpa using he
    clear hh h' V L X hl hr hok
    go_enter Try.func75, Try.ntmps75
    go_wp2_with fail
    go_ret
    exact P
end Go.Proofs.Ytkcllhcinbcgiaa
