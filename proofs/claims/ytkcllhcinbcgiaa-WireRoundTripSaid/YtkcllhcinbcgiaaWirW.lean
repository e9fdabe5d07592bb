/- Contracts of layer 2: the specification's Int where it fails, and its NewReader. -/
import Derived.Test.YtkcllhcinbcgiaaWirV
namespace Go.Proofs.Ytkcllhcinbcgiaa
open Go.RowKit Wi

set_option maxRecDepth 100000 in
theorem rint_no (g q : Nat) (l : List Int) (err size : Int) (w : World) (h : RRd w g q l err) (hm : l.length ≤ 140737488351232) (hz : numE l err size ≠ 0) :
    Calls Try.prog 54 #[.pointer (some ⟨g, 0, none⟩), .int .i64 size] w fun e w' =>
      e = .returned (.int .i64 (intV l err size)) ∧ RRd w' g q (numL l err size) (numE l err size) ∧ w.grownBy w' (some g) := by
  have H := Lib.hid h
  have HM := Lib.hid hm
  clear h hm
  by_cases h1 : 1 ≤ size
  · by_cases h8 : size ≤ 8
    · have HN := Lib.hid hz
      have HT := Lib.hid (tk_num (l := l) (err := err) (n := size) (ok := true) (decide_eq_true ⟨h1, h8⟩).symm)
      have HV := Lib.hid (show tkV l err size true = [] from if_neg (fun c => hz (HT.out.2.2.2.mp c)))
      have HI := Lib.hid (show intV l err size = 0 from if_neg hz)
      clear hz
      go_enter Try.func54, Try.ntmps54
      go_wp2_with fail
      refine (rtake_any g q l err size true _ H.out (fun _ => by omega) HM.out).mono ?_
      rintro e w1 ⟨A, c, rfl, hr, _, hc, hcm, hp, hg⟩
      rw [HV.out]
      rw [HT.out.1, HT.out.2.1] at hp
      have HP := Lib.hid hp
      have HG := Lib.hid hg
      clear hp hg hr hc
      simp only [List.length_nil]
      go_wp2_with fail
      go_ret
      exact ⟨by rw [HI.out]; rfl, HP.out, HG.out⟩
    · have HN := Lib.hid hz
      have HT := Lib.hid (tk_num (l := l) (err := err) (n := size) (ok := false) (decide_eq_false (by omega)).symm)
      have HV := Lib.hid (show tkV l err size false = [] from if_neg (fun c => hz (HT.out.2.2.2.mp c)))
      have HI := Lib.hid (show intV l err size = 0 from if_neg hz)
      clear hz
      go_enter Try.func54, Try.ntmps54
      go_wp2_with fail
      refine (rtake_any g q l err size false _ H.out (fun h => by cases h) HM.out).mono ?_
      rintro e w1 ⟨A, c, rfl, hr, _, hc, hcm, hp, hg⟩
      rw [HV.out]
      rw [HT.out.1, HT.out.2.1] at hp
      have HP := Lib.hid hp
      have HG := Lib.hid hg
      clear hp hg hr hc
      simp only [List.length_nil]
      go_wp2_with fail
      go_ret
      exact ⟨by rw [HI.out]; rfl, HP.out, HG.out⟩
  · have HN := Lib.hid hz
    have HT := Lib.hid (tk_num (l := l) (err := err) (n := size) (ok := false) (decide_eq_false (by omega)).symm)
    have HV := Lib.hid (show tkV l err size false = [] from if_neg (fun c => hz (HT.out.2.2.2.mp c)))
    have HI := Lib.hid (show intV l err size = 0 from if_neg hz)
    clear hz
    go_enter Try.func54, Try.ntmps54
    go_wp2_with fail
    refine (rtake_any g q l err size false _ H.out (fun h => by cases h) HM.out).mono ?_
    rintro e w1 ⟨A, c, rfl, hr, _, hc, hcm, hp, hg⟩
    rw [HV.out]
    rw [HT.out.1, HT.out.2.1] at hp
    have HP := Lib.hid hp
    have HG := Lib.hid hg
    clear hp hg hr hc
    simp only [List.length_nil]
    go_wp2_with fail
    go_ret
    exact ⟨by rw [HI.out]; rfl, HP.out, HG.out⟩

theorem rint_any (g q : Nat) (l : List Int) (err size : Int) (w : World) (h : RRd w g q l err) (hm : l.length ≤ 140737488351232) :
    Calls Try.prog 54 #[.pointer (some ⟨g, 0, none⟩), .int .i64 size] w fun e w' =>
      e = .returned (.int .i64 (intV l err size)) ∧ RRd w' g q (numL l err size) (numE l err size) ∧ w.grownBy w' (some g) := by
  by_cases hz : numE l err size = 0
  · obtain ⟨_, h1, h8, _, _⟩ := numE_zero hz
    have hby : Bytes l := by obtain ⟨A, n, c, _, hr, _⟩ := h; exact hr.2.1
    obtain ⟨s, rfl⟩ := Int.eq_ofNat_of_zero_le (by omega : 0 ≤ size)
    by_cases hs : 128 ≤ (l.take s).getD 0 0
    · exact rint_ok1 g q l err s w h hby hm hz (by omega) (by omega) hs
    · exact rint_ok0 g q l err s w h hby hm hz (by omega) (by omega) (by omega)
  · exact rint_no g q l err size w h hm hz

set_option maxRecDepth 100000 in
theorem rnew_any (A : Option Addr) (n c : Nat) (l : List Int) (w : World) (hr : BReads w w.heap.size A n l) (hA : A = none → n = 0 ∧ c = 0) (hm : n ≤ 140737488351232) :
    Calls Try.prog 47 #[.slice A n c] w fun e w' =>
      ∃ g, e = .returned (.pointer (some ⟨g, 0, none⟩)) ∧ w.heap.size ≤ g ∧ (∀ q, q < w.heap.size → RRd w' g q l 0) ∧ Below w.heap.size w w' := by
  obtain ⟨i0, hi0, hz0, hz1, hz2⟩ := info_parts info_u8
  have FIN : ∀ (w2 : World) (v : Value) (N : Nat), w2.heap.size = N → w2.ownsRow w.heap.size 5 1 v n (l.map (Value.int .u8)) → Below w.heap.size w w2 →
      ∃ g, Ending.returned (.pointer (some ⟨N, 0, none⟩)) = Ending.returned (.pointer (some ⟨g, 0, none⟩)) ∧ w.heap.size ≤ g ∧ (∀ q, q < w.heap.size → RRd (w2.alloc (.cells #[v, .int .i64 0] 74)) g q l 0) ∧ Below w.heap.size w (w2.alloc (.cells #[v, .int .i64 0] 74)) := fun w2 v N hN r hb => by
    subst hN
    obtain ⟨A', c', hoff, rfl, q1, q2, q3, q4⟩ : ∃ A' c', (∀ q, q < w.heap.size → Off A' q) ∧ v = .slice A' n c' ∧ BReads w2 w2.heap.size A' n l ∧ (A' = none → n = 0 ∧ c' = 0) ∧ n ≤ c' ∧ c' ≤ 9223372036854775807 := by
      obtain ⟨A', c', e, qq⟩ := own_reads r hr.2.1
      refine ⟨A', c', fun q hq a ea => ?_, e, qq⟩
      rcases r.2 with ⟨e2, _⟩ | ⟨g, cap, cur, e2, hB, _⟩
      · rw [e] at e2; subst ea; cases e2
      · rw [e] at e2
        subst ea
        injection e2 with e2
        injection e2 with e2
        subst e2
        show g ≠ q
        omega
    refine ⟨_, rfl, hb.size, fun q hq => ⟨A', n, c', heap_alloc_new w2 _, q1.alloc (Nat.le_refl _) _, q3, q4, fun e => (q2 e).2, hoff q hq⟩, hb.alloc hb.size _⟩
  rcases A with _ | ad
  · obtain ⟨rfl, rfl⟩ := hA rfl
    obtain rfl : l = [] := List.eq_nil_of_length_eq_zero hr.1
    have hown1 : (w.alloc (.cells #[] 5)).ownsRow w.heap.size 5 1 (.slice (some ⟨w.heap.size, 0, none⟩) 0 0) 0 (([] : List Int).map (Value.int .u8)) := empty_own w
    have hw1 : Below w.heap.size w (w.alloc (.cells #[] 5)) := (Below.refl _ _).alloc (Nat.le_refl _) _
    have HO := Lib.hid hown1
    clear hown1
    go_enter Try.func47, Try.ntmps47
    go_wp2_with (first
      | (at_builtin; refine wpList_append_own_none rfl (.tmp 3) (.tmp 4) _ rfl w.heap.size 5 i0 1 Try.underlying31 hi0 _ 0 [] rfl (empty_own w) rfl ?_))
    go_ret
    exact FIN _ _ _ (by simp) HO.out hw1
  · have HCA := Lib.hid ((hr.more (Nat.le_refl _)).alloc (Nat.le_refl _) (.cells #[] 5)).add
    have HCL := Lib.hid (show (l.map (Value.int .u8)).length = n * 1 by rw [List.length_map, hr.1, Nat.mul_one])
    have hw1 : Below w.heap.size w (w.alloc (.cells #[] 5)) := (Below.refl _ _).alloc (Nat.le_refl _) _
    have HF := Lib.hid FIN
    have HBY := Lib.hid hr.2.1
    clear FIN hr
    go_enter Try.func47, Try.ntmps47
    go_wp2_with (first
      | (at_builtin; go_loud (refine wpList_append_own _ rfl (.tmp 3) (.tmp 4) _ rfl w.heap.size 5 i0 (.int .u8 0) 1 1 Try.underlying31 hi0 hz0 hz1 hz2 rfl (by decide) _ 0 [] rfl (empty_own w) ad n c (l.map (Value.int .u8)) rfl HCL.out HCA.out (oneCell_u8 _) (by unfold maxLen; omega) (by omega) (by simp) ?_; intro v1 w1 hown1 hgr1 hii; clear hii; have hgr2 : (w.alloc (.cells #[] 5)).grownBy w1 (some w.heap.size) := hgr1; have hw2 : Below w.heap.size w w1 := hw1.grown hgr2 hw1.size (fun k hk => by injection hk with hk; omega); have hown2 : w1.ownsRow w.heap.size 5 1 v1 n (l.map (Value.int .u8)) := (by have h := hown1; rwa [Nat.zero_add, List.nil_append] at h); obtain ⟨A1, c1, rfl, _⟩ := own_reads hown2 HBY.out; have HO1 := Lib.hid hown2; clear hown1 hown2 hgr1 hgr2)))
    go_ret
    exact HF.out w1 _ _ rfl HO1.out hw2
end Go.Proofs.Ytkcllhcinbcgiaa
