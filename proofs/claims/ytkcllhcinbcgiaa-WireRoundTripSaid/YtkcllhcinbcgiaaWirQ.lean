/- The walk of WireAppends. -/
import Derived.Test.YtkcllhcinbcgiaaWirP
import Derived.Deep.AppendLies
namespace Go.Proofs.Ytkcllhcinbcgiaa
open Go.RowKit Wi

theorem clone_any (A : Option Addr) (n c : Nat) (l : List Int) (w : World) (hr : BReads w w.heap.size A n l) (hA : A = none → n = 0 ∧ c = 0) (hm : n ≤ 140737488351232) :
    Calls Try.prog 40 #[.slice A n c] w fun e w' => ∃ v, e = .returned v ∧ w'.ownsRow w.heap.size 5 1 v n (l.map (Value.int .u8)) ∧ Below w.heap.size w w' := by
  rcases A with _ | ad
  · obtain ⟨rfl, rfl⟩ := hA rfl
    obtain rfl : l = [] := List.eq_nil_of_length_eq_zero hr.1
    refine (clone_none w).mono fun e w' h => ?_
    obtain ⟨rfl, rfl⟩ := h
    exact ⟨_, rfl, World.ownsRow_nil _ _ _ _, Below.refl _ _⟩
  · exact clone_some ad n c l w hr hm

/-- What Append returns. -/
def Wi.appR (l : List Int) (v size : Int) : List Int := if appE v size = 0 then l ++ beB v size.toNat else []
theorem Wi.appE_zero {v size : Int} (h : appE v size = 0) : 1 ≤ size ∧ size ≤ 8 ∧ v / 2 ^ (8 * size.toNat) = 0 := by
  unfold appE at h
  by_cases c1 : size < 1 ∨ 8 < size
  · rw [if_pos c1] at h; exact absurd h (by decide)
  · rw [if_neg c1] at h
    by_cases c2 : v / 2 ^ (8 * size.toNat) ≠ 0
    · rw [if_pos c2] at h; exact absurd h (by decide)
    · exact ⟨by omega, by omega, by simpa using c2⟩

theorem append_any (A : Option Addr) (n c : Nat) (l : List Int) (v size : Int) (w : World) (hr : BReads w w.heap.size A n l) (hm : n ≤ 140737488351232) :
    Calls Try.prog 41 #[.slice A n c, .int .u64 v, .int .i64 size] w fun e w' =>
      ∃ A', e = .returned (.tuple #[.slice A' (appR l v size).length (appR l v size).length, .int .i64 (appE v size)]) ∧ ((A' = none ∧ appR l v size = []) ∨ (A' = some ⟨w.heap.size, 0, none⟩ ∧ BBlk w' w.heap.size (appR l v size))) ∧ Below w.heap.size w w' := by
  by_cases he : appE v size = 0
  · obtain ⟨h1, h2, h3⟩ := appE_zero he
    have hR : appR l v size = l ++ beB v size.toNat := if_pos he
    obtain ⟨s, rfl⟩ := Int.eq_ofNat_of_zero_le (by omega : 0 ≤ size)
    rw [Int.toNat_natCast] at h3 hR
    rw [hR, he, List.length_append, hr.1, beB_length]
    refine (append_ok A n c l v s w hr hm (by omega) (by omega) h3).mono fun e w' h => ?_
    obtain ⟨rfl, hb, hw⟩ := h
    exact ⟨_, rfl, .inr ⟨rfl, hb⟩, hw⟩
  · have hR : appR l v size = [] := if_neg he
    rw [hR]
    refine (append_no A n c v size w he).mono fun e w' h => ?_
    obtain ⟨rfl, rfl⟩ := h
    exact ⟨none, rfl, .inl ⟨rfl, rfl⟩, Below.refl _ _⟩

theorem rappend_any (A : Option Addr) (n c : Nat) (l : List Int) (v size : Int) (w : World) (hr : BReads w w.heap.size A n l) (hA : A = none → n = 0 ∧ c = 0) (hm : n ≤ 140737488351232) (v0 : 0 ≤ v) (v1 : v ≤ 18446744073709551615) :
    Calls Try.prog 42 #[.slice A n c, .int .u64 v, .int .i64 size] w fun e w' =>
      ∃ r, e = .returned (.tuple #[r, .int .i64 (appE v size)]) ∧ w'.ownsRow w.heap.size 5 1 r (appR l v size).length ((appR l v size).map (Value.int .u8)) ∧ Below w.heap.size w w' := by
  by_cases he : appE v size = 0
  · obtain ⟨h1, h2, h3⟩ := appE_zero he
    have hR : appR l v size = l ++ beB v size.toNat := if_pos he
    obtain ⟨s, rfl⟩ := Int.eq_ofNat_of_zero_le (by omega : 0 ≤ size)
    rw [Int.toNat_natCast] at h3 hR
    rw [hR, he, List.length_append, hr.1, beB_length]
    rcases A with _ | ad
    · obtain ⟨rfl, rfl⟩ := hA rfl
      obtain rfl : l = [] := List.eq_nil_of_length_eq_zero hr.1
      refine (rappend_none v s w v0 v1 (by omega) (by omega) h3).mono fun e w' h => ?_
      obtain ⟨r, rfl, ho, hw⟩ := h
      exact ⟨r, rfl, by rw [Nat.zero_add]; exact ho, hw⟩
    · exact rappend_some ad n c l v s w hr hm v0 v1 (by omega) (by omega) h3
  · have hR : appR l v size = [] := if_neg he
    rw [hR]
    refine (rappend_no A n c v size w v0 v1 he).mono fun e w' h => ?_
    obtain ⟨rfl, rfl⟩ := h
    exact ⟨_, rfl, World.ownsRow_nil _ _ _ _, Below.refl _ _⟩

theorem Wi.appR_bytes {l : List Int} (hl : Bytes l) (v size : Int) : Bytes (appR l v size) := by
  unfold appR; split
  · exact hl.append (beB_bytes _ _)
  · intro x hx; simp at hx
theorem Wi.appR_len (l : List Int) (v size : Int) (h : l.length ≤ 5000) : (appR l v size).length ≤ 5008 := by
  unfold appR; split
  · rename_i he
    obtain ⟨h1, h2, _⟩ := appE_zero he
    rw [List.length_append, beB_length]; omega
  · simp

def Wi.nines : List Int := [9, 9, 9, 9, 9, 9, 9, 9]
theorem Wi.nines_bytes : Bytes nines := bytes_lit (by decide)
theorem own_form {w : World} {B n : Nat} {v : Value} {l : List Int} (h : w.ownsRow B 5 1 v n (l.map (Value.int .u8))) (hn : 0 < n) :
    ∃ g cap, v = .slice (some ⟨g, 0, none⟩) n cap ∧ B ≤ g ∧ ((Bytes l → BReads w w.heap.size (some ⟨g, 0, none⟩) n l) ∧ n ≤ cap ∧ cap ≤ 9223372036854775807 ∧ g < w.heap.size) := by
  obtain ⟨g, cap, e, hB, hlt⟩ := h.form hn
  subst e
  refine ⟨g, cap, rfl, hB, fun hb => ?_, ?_, ?_, hlt⟩
  · obtain ⟨A, c, e, hr, _⟩ := own_reads h hb
    injection e with e1 e2 e3
    subst e1
    exact hr
  · rcases h.2 with ⟨e, _⟩ | ⟨g', cap', cur, e, _, _, hc, _⟩
    · cases e
    · injection e with e1 e2 e3; omega
  · rcases h.2 with ⟨e, _⟩ | ⟨g', cap', cur, e, _, _, _, hm, _⟩
    · cases e
    · injection e with e1 e2 e3; unfold maxLen at hm; omega

set_option maxRecDepth 100000 in
theorem wireAppends_walk (A : Option Addr) (n c : Nat) (l : List Int) (v size : Int) (w : World) (hr : BReads w w.heap.size A n l) (hA : A = none → n = 0 ∧ c = 0) (v0 : 0 ≤ v) (v1 : v ≤ 18446744073709551615) :
    Calls Try.prog 10 #[.slice A n c, .int .u64 v, .int .i64 size] w fun e w' => e = .returned (.bool true) ∧ Below w.heap.size w w' := by
  obtain ⟨i0, hi0, hz0, hz1, hz2⟩ := info_parts info_u8
  by_cases hbig : 5000 < n
  · go_enter Try.func10, Try.ntmps10
    go_wp2_with fail
    refine (awake2_any _).mono ?_
    rintro e w1 ⟨rfl, hw1⟩
    go_wp2_with fail
    go_ret
    exact ⟨rfl, hw1⟩
  · have HR := Lib.hid hr
    have HA := Lib.hid hA
    clear hr hA
    go_enter Try.func10, Try.ntmps10
    go_wp2_with fail
    refine (clone_any A n c l _ HR.out HA.out (by omega)).mono ?_
    rintro e w1 ⟨x1, rfl, ho1, hw1⟩
    have hs1 := hw1.size
    have HO1 := Lib.hid ho1
    clear ho1
    have hn1 := Lib.hid (reads_new w1 nines nines_bytes).add
    go_wp2_with (first
      | (at_builtin; refine wpList_append_own _ rfl (.tmp 18) (.tmp 19) _ rfl w.heap.size 5 i0 (.int .u8 0) 1 1 Try.underlying31 hi0 hz0 hz1 hz2 rfl (by decide) x1 n (l.map (Value.int .u8)) rfl (HO1.out.alloc _) ⟨w1.heap.size, 0, none⟩ 8 8 [.int .u8 9, .int .u8 9, .int .u8 9, .int .u8 9, .int .u8 9, .int .u8 9, .int .u8 9, .int .u8 9] rfl rfl hn1.out (oneCell_u8 nines) (by unfold maxLen; omega) (by omega) (by simp; omega) ?_; intro x2 w2 ho2 hg2 hii; clear hii; obtain ⟨g, cap, rfl, hgb, hrd', hcap, hcm, hgs⟩ := own_form (l := l ++ nines) (by simpa [nines] using ho2) (by omega); have hcn : n ≤ cap := by omega))
    have hw2 : Below w.heap.size w w2 := (hw1.alloc hs1 _).grown hg2 (by simp; omega) (fun k hk => (HO1.out.lt k hk).1)
    have hb := HR.out.2.1
    have hrd := hrd' (hb.append nines_bytes)
    clear hrd'
    have hrl : BReads w2 w2.heap.size (some ⟨g, 0, none⟩) n l := by
      have := hrd.cut (k := n) (by omega)
      rwa [List.take_left' HR.out.1] at this
    have HRD := Lib.hid hrd
    have HRL := Lib.hid hrl
    have HRB := Lib.hid ((HR.out.below hw2).more hw2.size)
    clear ho2 hg2 hrd hrl hw1 HO1 hn1 hs1
    refine (append_any (some ⟨g, 0, none⟩) n cap l v size _ HRL.out (by omega)).mono ?_
    rintro e w3 ⟨A3, rfl, hA3, hw3⟩
    have hs3 := hw3.size
    have HA3 := Lib.hid hA3
    have HRB3 := Lib.hid ((HRB.out.below hw3).more hs3)
    clear hA3
    go_wp2_with fail
    refine (rappend_any A n c l v size _ HRB3.out HA.out (by omega) v0 v1).mono ?_
    rintro e w4 ⟨r4, rfl, ho4, hw4⟩
    have hw24 : Below w2.heap.size w2 w4 := hw3.trans (hw4.mono hs3)
    have hlR := appR_len l v size (by rw [HR.out.1]; omega)
    obtain ⟨R, hRR⟩ : ∃ R, appR l v size = R := ⟨_, rfl⟩
    rw [hRR] at hlR
    have HRR := Lib.hid hRR
    obtain ⟨A4, c4, rfl, hr4, hA4, hc4, hc4'⟩ := own_reads ho4 (appR_bytes hb v size)
    have hr3 : BReads w4 w4.heap.size A3 (appR l v size).length (appR l v size) := by
      rcases HA3.out with ⟨rfl, e⟩ | ⟨rfl, hbk⟩
      · rw [e]; exact BReads.nil
      · exact ((hbk.reads (appR_bytes hb v size) hbk.lt).below hw4).more hw4.size
    rw [hRR] at hr3 hr4 hc4
    have HR3 := Lib.hid hr3
    have HR4 := Lib.hid hr4
    clear ho4 hr3 hr4 hRR hw3
    go_wp2_with fail
    rw [HRR.out]
    obtain ⟨m, hmR⟩ : ∃ m, R.length = m := ⟨_, rfl⟩
    rw [hmR] at hlR hc4 ⊢
    have HM := Lib.hid hmR
    have hR3 := HR3.out
    have hR4 := HR4.out
    rw [hmR] at hR3 hR4
    clear hmR
    have HQ3 := Lib.hid hR3
    have HQ4 := Lib.hid hR4
    clear hR3 hR4 HR3 HR4
    refine (equal_any A3 A4 m m m c4 R R _ w4.heap.size HQ3.out HQ4.out (by omega) (by omega)).mono ?_
    rintro e w5 ⟨rfl, q1, rfl⟩
    rw [decide_eq_true rfl]
    have HRL4 := Lib.hid (HRL.out.below hw24)
    have HRB4 := Lib.hid (HRB.out.below hw24)
    go_wp2_with fail
    refine (equal_any (some ⟨g, 0, none⟩) A n n cap c l l _ w2.heap.size (HRL4.out.drewN q1) (HRB4.out.drewN q1) (by omega) (by omega)).mono ?_
    rintro e w5 ⟨rfl, q2, rfl⟩
    rw [decide_eq_true rfl]
    have hcn2 : ¬ cap = n := by omega
    go_wp2_with fail
    have HT := Lib.hid (show BReads w2 w2.heap.size (some ⟨g, n, none⟩) 8 nines by
      have := HRD.out.tail (k := n) (c := cap) (by omega) (by omega)
      rw [if_neg hcn2, Nat.zero_add, Nat.add_sub_cancel_left, List.drop_left' HR.out.1] at this
      exact this)
    have hw25 : Below w2.heap.size w2 ((w4.drewN (q1 + q2)).alloc (.cells #[.int .u8 9, .int .u8 9, .int .u8 9, .int .u8 9, .int .u8 9, .int .u8 9, .int .u8 9, .int .u8 9] 5)) :=
      (blw_drewN hw24 (q1 + q2)).alloc (blw_drewN hw24 (q1 + q2)).size _
    refine (equal_any (some ⟨g, n, none⟩) (some ⟨w4.heap.size, 0, none⟩) 8 8 (cap - n) 8 nines nines _ (w4.heap.size + 1) ((HT.out.below hw25).more (by have := hw24.size; omega)) (reads_new (w4.drewN (q1 + q2)) nines nines_bytes) (by decide) (by decide)).mono ?_
    rintro e w6 ⟨rfl, q3, rfl⟩
    rw [decide_eq_true rfl]
    have hw26 := blw_drewN hw25 q3
    have hs24 := hw24.size
    rcases HA3.out with ⟨rfl, e0⟩ | ⟨rfl, hbk⟩
    · obtain rfl : m = 0 := by rw [← HM.out, ← HRR.out, e0]; rfl
      go_wp2_with fail
      go_loopw [67] (fun i wr => i = .int .i64 0 ∧ Below w2.heap.size w2 wr) (fun _ _ => 0)
      case atStart => exact ⟨rfl, hw26⟩
      case round =>
        obtain ⟨rfl, hw⟩ := hrel
        clear hw26 hw25 hw24
        go_wp2_with fail
        refine (equal_any (some ⟨g, 0, none⟩) A n n cap c l l _ w2.heap.size (HRL.out.below hw) (HRB.out.below hw) (by omega) (by omega)).mono ?_
        rintro e w7 ⟨rfl, q4, rfl⟩
        rw [decide_eq_true rfl]
        go_wp2_with fail
        refine (awake2_any _).mono ?_
        rintro e w8 ⟨rfl, hw8⟩
        go_wp2_with fail
        go_ret
        have hwz : Below w.heap.size w (wr.drewN q4) := blw_drewN (hw2.trans (hw.mono hw2.size)) q4
        exact ⟨rfl, hwz.trans (hw8.mono hwz.size)⟩
    · have hbk6 : BBlk (((w4.drewN (q1 + q2)).alloc (.cells #[.int .u8 9, .int .u8 9, .int .u8 9, .int .u8 9, .int .u8 9, .int .u8 9, .int .u8 9, .int .u8 9] 5)).drewN q3) w2.heap.size R := by
        rw [HRR.out] at hbk
        have h4 : BBlk w4 w2.heap.size R := hbk.below hw4 hbk.lt
        exact (Below.heap_alloc (w4.drewN (q1 + q2)) _ _ h4.lt).trans h4
      have HB6 := Lib.hid hbk6
      clear hbk hbk6
      go_wp2_with fail
      go_loopw [67] (fun i wr => ∃ (k : Nat) (zs : List Int), k ≤ m ∧ i = .int .i64 k ∧ Hid (zs.length = m) ∧ Hid (BBlk wr w2.heap.size zs) ∧ Below w2.heap.size w2 wr) (fun i _ => m - (intOf i).toNat)
      case atStart => exact ⟨0, R, by omega, rfl, HM, HB6, hw26⟩
      case round =>
        obtain ⟨k, zs, hk, rfl, hz, hb6, hw⟩ := hrel
        clear hw26 hw25 hw24 HB6
        by_cases hlt : k < m
        · have hc6 := hb6.out.cell (i := k) (by rw [hz.out]; omega)
          have hf6 := hb6.out.frozen k
          obtain ⟨x, hx⟩ : ∃ x, zs.getD k 0 = x := ⟨_, rfl⟩
          rw [hx] at hc6
          clear hx
          have hset := Lib.hid (hb6.out.set k (IntKind.u8.wrap (x + 1)))
          go_wp2_with fail
          go_roundw
          case rel => exact ⟨k + 1, _, by omega, by go_num, Lib.hid (by rw [List.length_set]; exact hz.out), hset, hw.setCell (Nat.le_refl _) _⟩
          case measure => simp [intOf]; omega
        · obtain rfl : k = m := by omega
          go_wp2_with fail
          refine (equal_any (some ⟨g, 0, none⟩) A n n cap c l l _ w2.heap.size (HRL.out.below hw) (HRB.out.below hw) (by omega) (by omega)).mono ?_
          rintro e w7 ⟨rfl, q4, rfl⟩
          rw [decide_eq_true rfl]
          go_wp2_with fail
          refine (awake2_any _).mono ?_
          rintro e w8 ⟨rfl, hw8⟩
          go_wp2_with fail
          go_ret
          have hwz : Below w.heap.size w (wr.drewN q4) := blw_drewN (hw2.trans (hw.mono hw2.size)) q4
          exact ⟨rfl, hwz.trans (hw8.mono hwz.size)⟩
end Go.Proofs.Ytkcllhcinbcgiaa
