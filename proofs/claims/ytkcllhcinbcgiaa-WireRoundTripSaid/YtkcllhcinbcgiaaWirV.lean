/- Contracts of layer 2: the specification's reader, its calls. -/
import Derived.Test.YtkcllhcinbcgiaaWirU
namespace Go.Proofs.Ytkcllhcinbcgiaa
open Go.RowKit Wi

theorem Wi.tk_take {l : List Int} {err n : Int} {ok : Bool} (h : ok = decide (0 ≤ n)) : tkV l err n ok = takeV l err n ∧ tkL l err n ok = takeL l err n ∧ tkE l err n ok = takeE l err n := by
  have e : tkOk l err n ok ↔ takeOk l err n := by
    subst h
    unfold tkOk takeOk
    simp
  refine ⟨?_, ?_, ?_⟩
  · unfold tkV takeV; by_cases c : takeOk l err n
    · rw [if_pos (e.2 c), if_pos c]
    · rw [if_neg (fun h => c (e.1 h)), if_neg c]
  · unfold tkL takeL; by_cases c : takeOk l err n
    · rw [if_pos (e.2 c), if_pos c]
    · rw [if_neg (fun h => c (e.1 h)), if_neg c]
  · unfold tkE takeE
    by_cases he : err = 0
    · rw [if_pos he, if_pos he]
      by_cases hn : n < 0
      · rw [if_pos hn, if_neg (by rw [h]; simp; omega)]
      · rw [if_neg hn, if_pos (by rw [h]; simp; omega)]
    · rw [if_neg he, if_neg he]

theorem Wi.tk_num {l : List Int} {err n : Int} {ok : Bool} (h : ok = decide (1 ≤ n ∧ n ≤ 8)) : tkL l err n ok = numL l err n ∧ tkE l err n ok = numE l err n ∧ getV (tkV l err n ok) 0 n = numV l err n ∧ (tkOk l err n ok ↔ numE l err n = 0) := by
  by_cases he : err = 0
  · by_cases hs : 1 ≤ n ∧ n ≤ 8
    · have hk : ok = true := by rw [h]; exact decide_eq_true hs
      by_cases hl : (l.length : Int) < n
      · have E : getE l.length 0 n = 5 := by unfold getE; rw [if_neg (by omega), if_pos (by right; omega)]
        have c : ¬ tkOk l err n ok := by unfold tkOk; omega
        refine ⟨?_, ?_, ?_, ?_⟩
        · unfold tkL numL; rw [if_neg c, if_neg (by rw [E]; omega)]
        · unfold tkE numE; rw [if_pos he, if_pos hk, if_pos hl, if_pos he, E]
        · unfold tkV numV; rw [if_neg c, if_pos he]
          unfold getV; rw [if_neg (show ¬ getE l.length 0 n = 0 by rw [E]; decide)]
          split <;> simp [beVal]
        · exact ⟨fun h => absurd h c, fun h => by unfold numE at h; rw [if_pos he, E] at h; exact absurd h (by decide)⟩
      · have E : getE l.length 0 n = 0 := by unfold getE; rw [if_neg (by omega), if_neg (by omega)]
        have c : tkOk l err n ok := ⟨he, hk, by omega⟩
        refine ⟨?_, ?_, ?_, ?_⟩
        · unfold tkL numL; rw [if_pos c, if_pos ⟨he, E⟩]
        · unfold tkE numE; rw [if_pos he, if_pos hk, if_neg hl, if_pos he, E]
        · unfold tkV numV; rw [if_pos c, if_pos he]
          have E2 : getE (l.take n.toNat).length 0 n = 0 := by unfold getE; rw [if_neg (by omega), if_neg (by rw [List.length_take]; omega)]
          unfold getV; rw [if_pos E, if_pos E2]
          simp [List.take_take]
        · exact ⟨fun _ => by unfold numE; rw [if_pos he, E], fun _ => c⟩
    · have hk : ok = false := by rw [h]; exact decide_eq_false hs
      have E : getE l.length 0 n = 2 := by unfold getE; rw [if_pos (by omega)]
      have c : ¬ tkOk l err n ok := by unfold tkOk; rw [hk]; simp
      refine ⟨?_, ?_, ?_, ?_⟩
      · unfold tkL numL; rw [if_neg c, if_neg (by rw [E]; omega)]
      · unfold tkE numE; rw [if_pos he, hk, if_neg (by decide), if_pos he, E]
      · unfold tkV numV; rw [if_neg c, if_pos he]
        unfold getV; rw [if_neg (show ¬ getE l.length 0 n = 0 by rw [E]; decide)]
        split <;> simp [beVal]
      · exact ⟨fun h => absurd h c, fun h => by unfold numE at h; rw [if_pos he, E] at h; exact absurd h (by decide)⟩
  · have c : ¬ tkOk l err n ok := fun h => he h.1
    refine ⟨?_, ?_, ?_, ?_⟩
    · unfold tkL numL; rw [if_neg c, if_neg (fun h => he h.1)]
    · unfold tkE numE; rw [if_neg he, if_neg he]
    · unfold tkV numV; rw [if_neg c, if_neg he]
      unfold getV; split <;> simp [beVal]
    · exact ⟨fun h => absurd h.1 he, fun h => by unfold numE at h; rw [if_neg he] at h; exact absurd h he⟩

set_option maxRecDepth 100000 in
theorem ruint_any (g q : Nat) (l : List Int) (err size : Int) (w : World) (h : RRd w g q l err) (hm : l.length ≤ 140737488351232) :
    Calls Try.prog 52 #[.pointer (some ⟨g, 0, none⟩), .int .i64 size] w fun e w' =>
      e = .returned (.int .u64 (numV l err size)) ∧ RRd w' g q (numL l err size) (numE l err size) ∧ w.grownBy w' (some g) := by
  have H := Lib.hid h
  have HM := Lib.hid hm
  clear h hm
  by_cases h1 : 1 ≤ size
  · by_cases h8 : size ≤ 8
    · have HT := Lib.hid (tk_num (l := l) (err := err) (n := size) (ok := true) (decide_eq_true ⟨h1, h8⟩).symm)
      go_enter Try.func52, Try.ntmps52
      go_wp2_with fail
      refine (rtake_any g q l err size true _ H.out (fun _ => by omega) HM.out).mono ?_
      rintro e w1 ⟨A, c, rfl, hr, _, hc, hcm, hp, hg⟩
      have HP := Lib.hid hp
      have HG := Lib.hid hg
      have HR := Lib.hid hr
      have HC := Lib.hid hc
      clear hp hg hr hc
      go_wp2_with fail
      refine (rget_any A _ c _ 0 size _ w1.heap.size HR.out (Nat.le_trans HC.out hcm) (by decide) (by decide)).mono ?_
      rintro e w' ⟨rfl, rfl⟩
      rw [HT.out.2.2.1]
      go_wp2_with fail
      go_ret
      refine ⟨rfl, ?_, HG.out⟩
      have := HP.out
      rw [HT.out.1, HT.out.2.1] at this
      exact this
    · have HT := Lib.hid (tk_num (l := l) (err := err) (n := size) (ok := false) (decide_eq_false (by omega)).symm)
      go_enter Try.func52, Try.ntmps52
      go_wp2_with fail
      refine (rtake_any g q l err size false _ H.out (fun h => by cases h) HM.out).mono ?_
      rintro e w1 ⟨A, c, rfl, hr, _, hc, hcm, hp, hg⟩
      have HP := Lib.hid hp
      have HG := Lib.hid hg
      have HR := Lib.hid hr
      have HC := Lib.hid hc
      clear hp hg hr hc
      go_wp2_with fail
      refine (rget_any A _ c _ 0 size _ w1.heap.size HR.out (Nat.le_trans HC.out hcm) (by decide) (by decide)).mono ?_
      rintro e w' ⟨rfl, rfl⟩
      rw [HT.out.2.2.1]
      go_wp2_with fail
      go_ret
      refine ⟨rfl, ?_, HG.out⟩
      have := HP.out
      rw [HT.out.1, HT.out.2.1] at this
      exact this
  · have HT := Lib.hid (tk_num (l := l) (err := err) (n := size) (ok := false) (decide_eq_false (by omega)).symm)
    go_enter Try.func52, Try.ntmps52
    go_wp2_with fail
    refine (rtake_any g q l err size false _ H.out (fun h => by cases h) HM.out).mono ?_
    rintro e w1 ⟨A, c, rfl, hr, _, hc, hcm, hp, hg⟩
    have HP := Lib.hid hp
    have HG := Lib.hid hg
    have HR := Lib.hid hr
    have HC := Lib.hid hc
    clear hp hg hr hc
    go_wp2_with fail
    refine (rget_any A _ c _ 0 size _ w1.heap.size HR.out (Nat.le_trans HC.out hcm) (by decide) (by decide)).mono ?_
    rintro e w' ⟨rfl, rfl⟩
    rw [HT.out.2.2.1]
    go_wp2_with fail
    go_ret
    refine ⟨rfl, ?_, HG.out⟩
    have := HP.out
    rw [HT.out.1, HT.out.2.1] at this
    exact this

theorem rskip_any (g q : Nat) (l : List Int) (err n : Int) (w : World) (h : RRd w g q l err) (hm : l.length ≤ 140737488351232) :
    Calls Try.prog 58 #[.pointer (some ⟨g, 0, none⟩), .int .i64 n] w fun e w' =>
      e = .returned (.tuple #[]) ∧ RRd w' g q (takeL l err n) (takeE l err n) ∧ w.grownBy w' (some g) := by
  have H := Lib.hid h
  have HM := Lib.hid hm
  clear h hm
  by_cases h0 : 0 ≤ n
  · have HT := Lib.hid (tk_take (l := l) (err := err) (n := n) (ok := true) (decide_eq_true h0).symm)
    go_enter Try.func58, Try.ntmps58
    go_wp2_with fail
    refine (rtake_any g q l err n true _ H.out (fun _ => by omega) HM.out).mono ?_
    rintro e w1 ⟨A, c, rfl, hr, hA, hc, hcm, hp, hg⟩
    have HP := Lib.hid hp
    have HG := Lib.hid hg
    have HR := Lib.hid hr
    have HC := Lib.hid hc
    have HA := Lib.hid hA
    clear hp hg hr hc hA
    go_wp2_with fail
    go_end0
    have := HP.out
    rw [HT.out.2.1, HT.out.2.2] at this
    exact ⟨rfl, this, HG.out⟩
  · have HT := Lib.hid (tk_take (l := l) (err := err) (n := n) (ok := false) (decide_eq_false h0).symm)
    go_enter Try.func58, Try.ntmps58
    go_wp2_with fail
    refine (rtake_any g q l err n false _ H.out (fun h => by cases h) HM.out).mono ?_
    rintro e w1 ⟨A, c, rfl, hr, hA, hc, hcm, hp, hg⟩
    have HP := Lib.hid hp
    have HG := Lib.hid hg
    have HR := Lib.hid hr
    have HC := Lib.hid hc
    have HA := Lib.hid hA
    clear hp hg hr hc hA
    go_wp2_with fail
    go_end0
    have := HP.out
    rw [HT.out.2.1, HT.out.2.2] at this
    exact ⟨rfl, this, HG.out⟩

theorem rbytes_any (g q : Nat) (l : List Int) (err n : Int) (w : World) (h : RRd w g q l err) (hm : l.length ≤ 140737488351232) :
    Calls Try.prog 56 #[.pointer (some ⟨g, 0, none⟩), .int .i64 n] w fun e w' =>
      ∃ A c, e = .returned (.slice A (takeV l err n).length c) ∧ BReads w' w'.heap.size A (takeV l err n).length (takeV l err n) ∧ (takeV l err n).length ≤ c ∧ c ≤ 9223372036854775807 ∧ RRd w' g q (takeL l err n) (takeE l err n) ∧ w.grownBy w' (some g) := by
  have H := Lib.hid h
  have HM := Lib.hid hm
  clear h hm
  by_cases h0 : 0 ≤ n
  · have HT := Lib.hid (tk_take (l := l) (err := err) (n := n) (ok := true) (decide_eq_true h0).symm)
    go_enter Try.func56, Try.ntmps56
    go_wp2_with fail
    refine (rtake_any g q l err n true _ H.out (fun _ => by omega) HM.out).mono ?_
    rintro e w1 ⟨A, c, rfl, hr, hA, hc, hcm, hp, hg⟩
    have HP := Lib.hid hp
    have HG := Lib.hid hg
    have HR := Lib.hid hr
    have HC := Lib.hid hc
    have HA := Lib.hid hA
    clear hp hg hr hc hA
    go_wp2_with fail
    go_ret
    have := HP.out
    have h2 := HR.out
    have h3 := HC.out
    rw [HT.out.2.1, HT.out.2.2] at this
    rw [HT.out.1] at h2 h3
    exact ⟨A, c, by rw [HT.out.1]; rfl, h2, h3, hcm, this, HG.out⟩
  · have HT := Lib.hid (tk_take (l := l) (err := err) (n := n) (ok := false) (decide_eq_false h0).symm)
    go_enter Try.func56, Try.ntmps56
    go_wp2_with fail
    refine (rtake_any g q l err n false _ H.out (fun h => by cases h) HM.out).mono ?_
    rintro e w1 ⟨A, c, rfl, hr, hA, hc, hcm, hp, hg⟩
    have HP := Lib.hid hp
    have HG := Lib.hid hg
    have HR := Lib.hid hr
    have HC := Lib.hid hc
    have HA := Lib.hid hA
    clear hp hg hr hc hA
    go_wp2_with fail
    go_ret
    have := HP.out
    have h2 := HR.out
    have h3 := HC.out
    rw [HT.out.2.1, HT.out.2.2] at this
    rw [HT.out.1] at h2 h3
    exact ⟨A, c, by rw [HT.out.1]; rfl, h2, h3, hcm, this, HG.out⟩

/-- What Int's loop holds after k bytes: the number, less 256^k where the first byte says that it is negative, modulo 2^64. -/
def Wi.rintN (c V : Int) (k : Nat) : Int := (V - c * ((256 ^ k : Nat) : Int)) % 18446744073709551616
theorem Wi.rint_step (c V x : Int) (k : Nat) (hx0 : 0 ≤ x) (hx1 : x ≤ 255) (hc : c = 0 ∨ c = 1) : bits .or .u64 (IntKind.u64.wrap (rintN c V k * 256)) x = rintN c (V * 256 + x) (k + 1) := by
  have h0 : 0 ≤ rintN c V k := Int.emod_nonneg _ (by decide)
  rw [IntKind.wrap_u64, u64_or _ _ (by omega) (by omega) hx0 (by omega), nat_join 8 _ _ (by omega) (by omega)]
  unfold rintN
  have hp : ((256 ^ (k + 1) : Nat) : Int) = 256 * ((256 ^ k : Nat) : Int) := by rw [Nat.pow_succ, Int.natCast_mul, Int.mul_comm]; rfl
  rw [hp]
  generalize ((256 ^ k : Nat) : Int) = P
  rcases hc with rfl | rfl <;> omega
theorem Wi.top_byte (l : List Int) (hb : Bytes l) (x : Int) : x * ((256 ^ l.length : Nat) : Int) ≤ beVal (x :: l) ∧ beVal (x :: l) < (x + 1) * ((256 ^ l.length : Nat) : Int) := by
  have e : beVal (x :: l) = x * ((256 ^ l.length : Nat) : Int) + beVal l := by
    show l.foldl (fun n b => n * 256 + b) (0 * 256 + x) = _
    rw [fold_add]; simp
  have b := beVal_bounds l hb
  rw [e, Int.add_mul, Int.one_mul]
  omega
theorem Wi.rint_end {l : List Int} (hb : Bytes l) (h1 : 1 ≤ l.length) (h8 : l.length ≤ 8) {c : Int} (hc : (c = 1 ∧ 128 ≤ l.getD 0 0) ∨ (c = 0 ∧ l.getD 0 0 < 128)) : wrap64 (rintN c (beVal l) l.length) = sgn (beVal l) l.length := by
  have b := beVal_bounds l hb
  rcases l with _ | ⟨x, t⟩
  · simp at h1
  · have hx := hb x (by simp)
    have tb := top_byte t (fun y hy => hb y (List.mem_cons_of_mem _ hy)) x
    simp only [List.getD_cons_zero] at hc
    generalize beVal (x :: t) = V at *
    simp only [List.length_cons] at *
    generalize t.length = m at *
    unfold sgn rintN wrap64
    obtain rfl | rfl | rfl | rfl | rfl | rfl | rfl | rfl : m = 0 ∨ m = 1 ∨ m = 2 ∨ m = 3 ∨ m = 4 ∨ m = 5 ∨ m = 6 ∨ m = 7 := by omega
    all_goals
      simp only [Nat.reducePow, Nat.reduceAdd] at *
      rcases hc with ⟨rfl, hx2⟩ | ⟨rfl, hx2⟩ <;> split <;> omega

theorem Wi.rint_facts {l : List Int} {err : Int} {s : Nat} (hz : numE l err s = 0) (h1 : 1 ≤ s) (h8 : s ≤ 8) :
    tkV l err s true = l.take s ∧ (l.take s).length = s ∧ intV l err s = sgn (beVal (l.take s)) s ∧ tkL l err s true = numL l err s ∧ tkE l err s true = numE l err s := by
  obtain ⟨q1, q2, q3, q4⟩ := tk_num (l := l) (err := err) (n := s) (ok := true) (decide_eq_true (show (1 : Int) ≤ s ∧ (s : Int) ≤ 8 by omega)).symm
  have hok := q4.2 hz
  have hV : tkV l err s true = l.take s := by unfold tkV; rw [if_pos hok]; rfl
  have hls : s ≤ l.length := by have := hok.2.2; omega
  have hlen : (l.take s).length = s := by rw [List.length_take]; omega
  refine ⟨hV, hlen, ?_, q1, q2⟩
  unfold intV; rw [if_pos hz, ← q3, hV]
  unfold getV; rw [if_pos (by unfold getE; rw [if_neg (by omega), if_neg (by rw [hlen]; omega)])]
  simp [List.take_take]
set_option maxRecDepth 100000 in
theorem rint_ok1 (g q : Nat) (l : List Int) (err : Int) (s : Nat) (w : World) (h : RRd w g q l err) (hby : Bytes l) (hm : l.length ≤ 140737488351232) (hz : numE l err s = 0) (h1 : 1 ≤ s) (h8 : s ≤ 8) (hsg : 128 ≤ (l.take s).getD 0 0) :
    Calls Try.prog 54 #[.pointer (some ⟨g, 0, none⟩), .int .i64 s] w fun e w' =>
      e = .returned (.int .i64 (intV l err s)) ∧ RRd w' g q (numL l err s) (numE l err s) ∧ w.grownBy w' (some g) := by
  have H := Lib.hid h
  have HM := Lib.hid hm
  obtain ⟨hV, hlen, hI, e1, e2⟩ := rint_facts hz h1 h8
  have HE := Lib.hid (And.intro e1 e2)
  have HI := Lib.hid hI
  have HV := Lib.hid hV
  have Hlen := Lib.hid hlen
  have hbt := hby.take s
  have hx0 := hbt.getD 0
  have hsg' : 128 ≤ (l.take s).getD 0 0 := hsg
  clear h hm hV hI hlen hz e1 e2 hsg
  obtain ⟨L, hL⟩ : ∃ L, l.take s = L := ⟨_, rfl⟩
  rw [hL] at HV HI Hlen hbt hx0 hsg'
  clear hL
  have i1 : (1 : Int) ≤ (s : Int) := by omega
  have i8 : (s : Int) ≤ 8 := by omega
  go_enter Try.func54, Try.ntmps54
  go_wp2_with fail
  refine (rtake_any g q l err s true _ H.out (fun _ => by omega) HM.out).mono ?_
  rintro e w1 ⟨A, c, rfl, hr, _, hc, hcm, hp, hg⟩
  rw [HV.out] at hr hc
  rw [HV.out, Hlen.out]
  rw [Hlen.out] at hr hc
  have HP := Lib.hid hp
  have HG := Lib.hid hg
  have HR := Lib.hid hr
  clear hp hg hr
  obtain ⟨b, off, rfl, _, hcell⟩ := HR.out.2.2 (by omega)
  have hc0 := hcell 0 (by omega)
  have hs0 : ((s : Int) == 0) = false := by simp; omega
  have hfin : ∀ c : Int, ((c = 1 ∧ 128 ≤ L.getD 0 0) ∨ (c = 0 ∧ L.getD 0 0 < 128)) → wrap64 (rintN c (beVal L) s) = sgn (beVal L) s := fun c hc => by
    have := rint_end hbt (by rw [Hlen.out]; exact h1) (by rw [Hlen.out]; exact h8) hc
    rwa [Hlen.out] at this
  have HF := Lib.hid hfin
  obtain ⟨x0, hx0'⟩ : ∃ x, L.getD 0 0 = x := ⟨_, rfl⟩
  rw [hx0'] at hc0 hx0 hsg'
  have HX0 := Lib.hid hx0'
  rw [Nat.add_zero] at hc0
  obtain ⟨x00, x01⟩ := hx0
  clear hfin hx0' hcell
  go_wp2_with fail
  go_loop [6, 7] (fun v i => ∃ k : Nat, ∃ V : Int, k ≤ s ∧ i = .int .i64 k ∧ v = .int .u64 V ∧ Hid (V = rintN 1 (beVal (L.take k)) k)) (fun _ i => s - (intOf i).toNat)
  case atStart => exact ⟨0, _, by omega, rfl, rfl, Lib.hid (by rw [List.take_zero]; decide)⟩
  case round =>
    obtain ⟨k, V, hk, rfl, rfl, hV⟩ := hrel
    by_cases hlt : k < s
    · obtain ⟨x, hx⟩ : ∃ x, L.getD k 0 = x := ⟨_, rfl⟩
      obtain ⟨_, _, e0, _, hcell⟩ := HR.out.2.2 (by omega)
      injection e0 with e0
      injection e0 with e1 e2
      subst e1 e2
      have hcx := hcell k hlt
      have bx := hbt.getD k
      rw [hx] at hcx bx
      obtain ⟨bx0, bx1⟩ := bx
      have st := rint_step 1 (beVal (L.take k)) x k bx0 bx1 (by omega)
      rw [← hV.out] at st
      have hsn : beVal (L.take (k + 1)) = beVal (L.take k) * 256 + x := by rw [take_getD L k (by rw [Hlen.out]; exact hlt), beVal_snoc, hx]
      rw [← hsn] at st
      have ST := Lib.hid st
      clear st hsn hx hcell hV
      go_wp2_with fail
      go_round
      case rel => exact ⟨k + 1, _, by omega, by go_num, rfl, ST⟩
      case measure => simp [intOf]; omega
    · obtain rfl : k = s := by omega
      have hR : wrap64 V = intV l err k := by
        rw [hV.out, HI.out, List.take_of_length_le (by rw [Hlen.out]; omega)]
        exact HF.out 1 (by rw [HX0.out]; omega)
      have HRr := Lib.hid hR
      clear hR
      go_wp2_with fail
      go_ret
      refine ⟨by rw [← HRr.out]; rfl, ?_, HG.out⟩
      have := HP.out
      rw [HE.out.1, HE.out.2] at this
      exact this
set_option maxRecDepth 100000 in
theorem rint_ok0 (g q : Nat) (l : List Int) (err : Int) (s : Nat) (w : World) (h : RRd w g q l err) (hby : Bytes l) (hm : l.length ≤ 140737488351232) (hz : numE l err s = 0) (h1 : 1 ≤ s) (h8 : s ≤ 8) (hsg : (l.take s).getD 0 0 < 128) :
    Calls Try.prog 54 #[.pointer (some ⟨g, 0, none⟩), .int .i64 s] w fun e w' =>
      e = .returned (.int .i64 (intV l err s)) ∧ RRd w' g q (numL l err s) (numE l err s) ∧ w.grownBy w' (some g) := by
  have H := Lib.hid h
  have HM := Lib.hid hm
  obtain ⟨hV, hlen, hI, e1, e2⟩ := rint_facts hz h1 h8
  have HE := Lib.hid (And.intro e1 e2)
  have HI := Lib.hid hI
  have HV := Lib.hid hV
  have Hlen := Lib.hid hlen
  have hbt := hby.take s
  have hx0 := hbt.getD 0
  have hsg' : (l.take s).getD 0 0 < 128 := hsg
  clear h hm hV hI hlen hz e1 e2 hsg
  obtain ⟨L, hL⟩ : ∃ L, l.take s = L := ⟨_, rfl⟩
  rw [hL] at HV HI Hlen hbt hx0 hsg'
  clear hL
  have i1 : (1 : Int) ≤ (s : Int) := by omega
  have i8 : (s : Int) ≤ 8 := by omega
  go_enter Try.func54, Try.ntmps54
  go_wp2_with fail
  refine (rtake_any g q l err s true _ H.out (fun _ => by omega) HM.out).mono ?_
  rintro e w1 ⟨A, c, rfl, hr, _, hc, hcm, hp, hg⟩
  rw [HV.out] at hr hc
  rw [HV.out, Hlen.out]
  rw [Hlen.out] at hr hc
  have HP := Lib.hid hp
  have HG := Lib.hid hg
  have HR := Lib.hid hr
  clear hp hg hr
  obtain ⟨b, off, rfl, _, hcell⟩ := HR.out.2.2 (by omega)
  have hc0 := hcell 0 (by omega)
  have hs0 : ((s : Int) == 0) = false := by simp; omega
  have hfin : ∀ c : Int, ((c = 1 ∧ 128 ≤ L.getD 0 0) ∨ (c = 0 ∧ L.getD 0 0 < 128)) → wrap64 (rintN c (beVal L) s) = sgn (beVal L) s := fun c hc => by
    have := rint_end hbt (by rw [Hlen.out]; exact h1) (by rw [Hlen.out]; exact h8) hc
    rwa [Hlen.out] at this
  have HF := Lib.hid hfin
  obtain ⟨x0, hx0'⟩ : ∃ x, L.getD 0 0 = x := ⟨_, rfl⟩
  rw [hx0'] at hc0 hx0 hsg'
  have HX0 := Lib.hid hx0'
  rw [Nat.add_zero] at hc0
  obtain ⟨x00, x01⟩ := hx0
  clear hfin hx0' hcell
  go_wp2_with fail
  go_loop [6, 7] (fun v i => ∃ k : Nat, ∃ V : Int, k ≤ s ∧ i = .int .i64 k ∧ v = .int .u64 V ∧ Hid (V = rintN 0 (beVal (L.take k)) k)) (fun _ i => s - (intOf i).toNat)
  case atStart => exact ⟨0, _, by omega, rfl, rfl, Lib.hid (by rw [List.take_zero]; decide)⟩
  case round =>
    obtain ⟨k, V, hk, rfl, rfl, hV⟩ := hrel
    by_cases hlt : k < s
    · obtain ⟨x, hx⟩ : ∃ x, L.getD k 0 = x := ⟨_, rfl⟩
      obtain ⟨_, _, e0, _, hcell⟩ := HR.out.2.2 (by omega)
      injection e0 with e0
      injection e0 with e1 e2
      subst e1 e2
      have hcx := hcell k hlt
      have bx := hbt.getD k
      rw [hx] at hcx bx
      obtain ⟨bx0, bx1⟩ := bx
      have st := rint_step 0 (beVal (L.take k)) x k bx0 bx1 (by omega)
      rw [← hV.out] at st
      have hsn : beVal (L.take (k + 1)) = beVal (L.take k) * 256 + x := by rw [take_getD L k (by rw [Hlen.out]; exact hlt), beVal_snoc, hx]
      rw [← hsn] at st
      have ST := Lib.hid st
      clear st hsn hx hcell hV
      go_wp2_with fail
      go_round
      case rel => exact ⟨k + 1, _, by omega, by go_num, rfl, ST⟩
      case measure => simp [intOf]; omega
    · obtain rfl : k = s := by omega
      have hR : wrap64 V = intV l err k := by
        rw [hV.out, HI.out, List.take_of_length_le (by rw [Hlen.out]; omega)]
        exact HF.out 0 (by rw [HX0.out]; omega)
      have HRr := Lib.hid hR
      clear hR
      go_wp2_with fail
      go_ret
      refine ⟨by rw [← HRr.out]; rfl, ?_, HG.out⟩
      have := HP.out
      rw [HE.out.1, HE.out.2] at this
      exact this
end Go.Proofs.Ytkcllhcinbcgiaa
