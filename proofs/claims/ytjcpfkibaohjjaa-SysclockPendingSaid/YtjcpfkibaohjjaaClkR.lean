/- Laws of layer 10: continuity. -/
import Derived.Test.YtjcpfkibaohjjaaClkQ
namespace Go.Proofs.Ytjcpfkibaohjjaa
open Go.RowKit Fx Ck

theorem Ck.slw_nil (l q : Int) : slw l q 0 = 0 := by
  unfold slw clm
  rw [Int.zero_mul, show (0 : Int) / 1000000000 = 0 from rfl]
  split <;> (try split) <;> omega
theorem Ck.cnt_nil (p : Int) : cnt 0 p = 0 := by unfold cnt; rw [Int.zero_mul]; rfl
theorem Ck.shn_nil {t p l q : Int} : shn t p l q 0 = t := by
  unfold shn
  rw [slw_nil]
  by_cases h : 0 = l
  · subst h; rw [if_pos rfl, ln_zero, cnt_nil, show (0 : Int) - 0 = 0 from rfl, cnt_nil]; omega
  · rw [if_neg h, cnt_nil]; omega
/-- At its own reading a state does not turn. -/
theorem Ck.stay {y : St} {raw : Int} (h : Ok y) (hr : y.r = raw) : mvE y raw = 0 ∧ at' y raw = y.t ∧ (mvS y raw).t = y.t ∧ (mvS y raw).l = y.l := by
  have ha : at' y raw = y.t := by unfold at'; rw [hr, Int.sub_self]; exact shn_nil
  have hl : lft y raw = y.l := by unfold lft; rw [hr, Int.sub_self, slw_nil]; omega
  have he : mvE y raw = 0 := mvE_iff.2 ⟨by omega, by rw [← hr]; exact h.1.2, by rw [ha]; exact h.2.1.1, by rw [ha]; exact h.2.1.2⟩
  have hs : mvS y raw = mvG y raw := if_pos he
  exact ⟨he, ha, by rw [hs]; exact ha, by rw [hs]; exact hl⟩
theorem Ck.fr_facts {x : St} {r a : Int} (h : Ok x) (he : mvE x r = 0) (hf : frE x r a = 0) : Ok (frS x r a) ∧ mvE (frS x r a) r = 0 ∧ at' (frS x r a) r = at' x r ∧ (mvS (frS x r a) r).t = at' x r ∧ (frS x r a).p = a ∧ (frS x r a).r = r := by
  have e : frS x r a = frZ x r a := if_pos hf
  have ho := fr_ok (raw := r) (ppb := a) h
  rw [e] at ho ⊢
  obtain ⟨h1, h2, h3, h4⟩ := stay ho (show (frZ x r a).r = r from rfl)
  exact ⟨ho, h1, h2, h3, rfl, rfl⟩
theorem Ck.sl_facts {x : St} {r a b : Int} (h : Ok x) (hf : slE x r a b = 0) : Ok (slS x r a b) ∧ mvE (slS x r a b) r = 0 ∧ at' (slS x r a b) r = at' x r ∧ (mvS (slS x r a b) r).t = at' x r ∧ (mvS (slS x r a b) r).l = a := by
  have e : slS x r a b = slZ x r a b := if_pos hf
  have ho := sl_ok (raw := r) (d := a) (rate := b) h
  rw [e] at ho ⊢
  obtain ⟨h1, h2, h3, h4⟩ := stay ho (show (slZ x r a b).r = r from rfl)
  exact ⟨ho, h1, h2, h3, h4⟩
theorem Ck.sp_facts {x : St} {r a : Int} (h : Ok x) (hf : spE x r a = 0) : Ok (spS x r a) ∧ mvE (spS x r a) r = 0 ∧ (mvS (spS x r a) r).t = at' x r + a ∧ (mvS (spS x r a) r).l = 0 ∧ (spS x r a).s = x.s + 1 := by
  have e : spS x r a = spZ x r a := if_pos hf
  have ho := sp_ok (raw := r) (d := a) h
  rw [e] at ho ⊢
  obtain ⟨h1, h2, h3, h4⟩ := stay ho (show (spZ x r a).r = r from rfl)
  exact ⟨ho, h1, h3, h4, rfl⟩
theorem Ck.mvS_t {x : St} {r : Int} (he : mvE x r = 0) : (mvS x r).t = at' x r := by
  have hs : mvS x r = mvG x r := if_pos he
  rw [hs]; rfl
theorem Ck.field5 (r t p l q s : Int) (w : World) : (Instr.field 23 (.agg #[.int .i64 r, .int .i64 t, .int .i64 p, .int .i64 l, .int .i64 q, .int .i64 s]) 5).run Try.prog w = .ok (.int .i64 s) w := by kernel_rfl
theorem Ck.field2 (r t p l q s : Int) (w : World) : (Instr.field 23 (.agg #[.int .i64 r, .int .i64 t, .int .i64 p, .int .i64 l, .int .i64 q, .int .i64 s]) 2).run Try.prog w = .ok (.int .i64 p) w := by kernel_rfl
theorem Ck.field0 (r t p l q s : Int) (w : World) : (Instr.field 23 (.agg #[.int .i64 r, .int .i64 t, .int .i64 p, .int .i64 l, .int .i64 q, .int .i64 s]) 0).run Try.prog w = .ok (.int .i64 r) w := by kernel_rfl
set_option maxRecDepth 100000 in
set_option maxHeartbeats 2000000 in
theorem cont_no (x : St) (k r a b : Int) (w : World) (hs : x.s ≤ 9223372036854775807) (hn : ¬ Ok x) :
    Calls Try.prog 6 #[.agg #[.int .i64 x.r, .int .i64 x.t, .int .i64 x.p, .int .i64 x.l, .int .i64 x.q, .int .i64 x.s], .agg #[.int .i64 k, .int .i64 r, .int .i64 a, .int .i64 b]] w fun e w' => e = .returned (.bool true) ∧ Below w.heap.size w w' := by
  have BB := Lib.hid (Below.refl w.heap.size w)
  have HS := Lib.hid hs
  have HN := Lib.hid hn
  clear hs hn
  have Ns1 : Hid (KB 23 (w.alloc (.cells #[.int .i64 x.r, .int .i64 x.t, .int .i64 x.p, .int .i64 x.l, .int .i64 x.q, .int .i64 x.s] 23)) w.heap.size ⟨x.r, x.t, x.p, x.l, x.q, x.s⟩) := Lib.hid (kb_new _ w x.r x.t x.p x.l x.q x.s)
  have E1 := Lib.hid (BB.out.alloc BB.out.size (.cells #[.int .i64 x.r, .int .i64 x.t, .int .i64 x.p, .int .i64 x.l, .int .i64 x.q, .int .i64 x.s] 23))
  have hs1 := BB.out.size
  obtain ⟨S1, hS1⟩ : ∃ W, w.alloc (.cells #[.int .i64 x.r, .int .i64 x.t, .int .i64 x.p, .int .i64 x.l, .int .i64 x.q, .int .i64 x.s] 23) = W := ⟨_, rfl⟩
  have hsz1 : S1.heap.size = w.heap.size + 1 := by rw [← hS1]; simp
  have HSZ1 := Lib.hid hsz1
  have hle1 : w.heap.size < S1.heap.size := by omega
  clear hsz1
  rw [hS1] at Ns1 E1
  clear BB
  have No2 : Hid (OB 38 (S1.alloc (.cells #[.int .i64 k, .int .i64 r, .int .i64 a, .int .i64 b] 38)) S1.heap.size k r a b) := Lib.hid (ob_new _ S1 k r a b)
  have ls2 := Ns1.out.lt
  have Ns2 := Lib.hid (Ns1.out.alloc (.cells #[.int .i64 k, .int .i64 r, .int .i64 a, .int .i64 b] 38))
  have E2 := Lib.hid (E1.out.alloc E1.out.size (.cells #[.int .i64 k, .int .i64 r, .int .i64 a, .int .i64 b] 38))
  have hs2 := E1.out.size
  obtain ⟨S2, hS2⟩ : ∃ W, S1.alloc (.cells #[.int .i64 k, .int .i64 r, .int .i64 a, .int .i64 b] 38) = W := ⟨_, rfl⟩
  have hsz2 : S2.heap.size = S1.heap.size + 1 := by rw [← hS2]; simp
  have HSZ2 := Lib.hid hsz2
  have hle2 : S1.heap.size < S2.heap.size := by omega
  clear hsz2
  rw [hS2] at No2 Ns2 E2
  clear Ns1 E1
  obtain ⟨c3_0, c3_1, c3_2, c3_3, c3_4, c3_5⟩ := Ns2.out.cells
  obtain ⟨c4_0, c4_1, c4_2, c4_3⟩ := No2.out.cells
  go_enter Try.func6, Try.ntmps6
  go_wp2_with fail
  clear hS1 hS2 c3_0 c3_1 c3_2 c3_3 c3_4 c3_5 c4_0 c4_1 c4_2 c4_3
  refine (of_no x _ HS.out HN.out).mono ?_
  rintro e w5 ⟨rfl, hb⟩
  have Xs5 := Lib.hid (Ns2.out.below hb Ns2.out.lt)
  have Xo5 := Lib.hid (No2.out.below hb No2.out.lt)
  have B5 := Lib.hid (E2.out.trans (hb.mono E2.out.size))
  have hz5 := hb.size
  clear hb Ns2 No2 E2
  go_wp2_with fail
  refine (awake10_any _).mono ?_
  rintro e w6 ⟨rfl, hb⟩
  have Xs6 := Lib.hid (Xs5.out.below hb Xs5.out.lt)
  have Xo6 := Lib.hid (Xo5.out.below hb Xo5.out.lt)
  have B6 := Lib.hid (B5.out.trans (hb.mono B5.out.size))
  have hz6 := hb.size
  clear hb Xs5 Xo5 B5
  go_wp2_with fail
  go_ret
  exact ⟨rfl, B6.out⟩
set_option maxRecDepth 100000 in
set_option maxHeartbeats 2000000 in
theorem cont_err (x : St) (k r a b : Int) (w : World) (hx : Ok x) (he : ¬ mvE x r = 0) :
    Calls Try.prog 6 #[.agg #[.int .i64 x.r, .int .i64 x.t, .int .i64 x.p, .int .i64 x.l, .int .i64 x.q, .int .i64 x.s], .agg #[.int .i64 k, .int .i64 r, .int .i64 a, .int .i64 b]] w fun e w' => e = .returned (.bool true) ∧ Below w.heap.size w w' := by
  have BB := Lib.hid (Below.refl w.heap.size w)
  have HOK := Lib.hid hx
  obtain ⟨m, hm⟩ : ∃ m, mvE x r = m := ⟨_, rfl⟩
  rw [hm] at he
  have m0 : (m != 0) = true := by simpa using he
  have m1 : (m == 0) = false := by simpa using he
  have HM := Lib.hid hm
  clear hm hx he
  have Ns1 : Hid (KB 23 (w.alloc (.cells #[.int .i64 x.r, .int .i64 x.t, .int .i64 x.p, .int .i64 x.l, .int .i64 x.q, .int .i64 x.s] 23)) w.heap.size ⟨x.r, x.t, x.p, x.l, x.q, x.s⟩) := Lib.hid (kb_new _ w x.r x.t x.p x.l x.q x.s)
  have E1 := Lib.hid (BB.out.alloc BB.out.size (.cells #[.int .i64 x.r, .int .i64 x.t, .int .i64 x.p, .int .i64 x.l, .int .i64 x.q, .int .i64 x.s] 23))
  have hs1 := BB.out.size
  obtain ⟨S1, hS1⟩ : ∃ W, w.alloc (.cells #[.int .i64 x.r, .int .i64 x.t, .int .i64 x.p, .int .i64 x.l, .int .i64 x.q, .int .i64 x.s] 23) = W := ⟨_, rfl⟩
  have hsz1 : S1.heap.size = w.heap.size + 1 := by rw [← hS1]; simp
  have HSZ1 := Lib.hid hsz1
  have hle1 : w.heap.size < S1.heap.size := by omega
  clear hsz1
  rw [hS1] at Ns1 E1
  clear BB
  have No2 : Hid (OB 38 (S1.alloc (.cells #[.int .i64 k, .int .i64 r, .int .i64 a, .int .i64 b] 38)) S1.heap.size k r a b) := Lib.hid (ob_new _ S1 k r a b)
  have ls2 := Ns1.out.lt
  have Ns2 := Lib.hid (Ns1.out.alloc (.cells #[.int .i64 k, .int .i64 r, .int .i64 a, .int .i64 b] 38))
  have E2 := Lib.hid (E1.out.alloc E1.out.size (.cells #[.int .i64 k, .int .i64 r, .int .i64 a, .int .i64 b] 38))
  have hs2 := E1.out.size
  obtain ⟨S2, hS2⟩ : ∃ W, S1.alloc (.cells #[.int .i64 k, .int .i64 r, .int .i64 a, .int .i64 b] 38) = W := ⟨_, rfl⟩
  have hsz2 : S2.heap.size = S1.heap.size + 1 := by rw [← hS2]; simp
  have HSZ2 := Lib.hid hsz2
  have hle2 : S1.heap.size < S2.heap.size := by omega
  clear hsz2
  rw [hS2] at No2 Ns2 E2
  clear Ns1 E1
  obtain ⟨c3_0, c3_1, c3_2, c3_3, c3_4, c3_5⟩ := Ns2.out.cells
  obtain ⟨c4_0, c4_1, c4_2, c4_3⟩ := No2.out.cells
  go_enter Try.func6, Try.ntmps6
  go_wp2_with fail
  clear hS1 hS2 c3_0 c3_1 c3_2 c3_3 c3_4 c3_5 c4_0 c4_1 c4_2 c4_3
  refine (of_yes x _ HOK.out).mono ?_
  rintro e w5 ⟨c, rfl, hge5, hkb, hb⟩
  have Xs5 := Lib.hid (Ns2.out.below hb Ns2.out.lt)
  have nes5 : w.heap.size < c := Nat.lt_of_lt_of_le Ns2.out.lt hge5
  have Xo5 := Lib.hid (No2.out.below hb No2.out.lt)
  have neo5 : S1.heap.size < c := Nat.lt_of_lt_of_le No2.out.lt hge5
  have lw5 : w.heap.size ≤ c := Nat.le_trans E2.out.size hge5
  have Xc5 := Lib.hid hkb
  have B5 := Lib.hid (E2.out.trans (hb.mono E2.out.size))
  clear hb hkb Ns2 No2 E2
  obtain ⟨c6_0, c6_1, c6_2, c6_3⟩ := Xo5.out.cells
  go_wp2_with fail
  clear c6_0 c6_1 c6_2 c6_3
  refine (now_any c x r _ HOK.out Xc5.out).mono ?_
  rintro e w7 ⟨rfl, hb⟩
  have Xs7 := Lib.hid (Xs5.out.below hb Xs5.out.lt)
  have Xo7 := Lib.hid (Xo5.out.below hb Xo5.out.lt)
  have Xc7 := Lib.hid (Xc5.out.below hb Xc5.out.lt)
  have B7 := Lib.hid (B5.out.trans (hb.mono B5.out.size))
  have hz7 := hb.size
  clear hb Xs5 Xo5 Xc5 B5
  rw [HM.out]
  obtain ⟨tt, htt⟩ : ∃ tt, (mvS x r).t = tt := ⟨_, rfl⟩
  rw [htt]
  clear htt
  go_wp2_with fail
  refine (awake10_any _).mono ?_
  rintro e w8 ⟨rfl, hb⟩
  have Xs8 := Lib.hid (Xs7.out.below hb Xs7.out.lt)
  have Xo8 := Lib.hid (Xo7.out.below hb Xo7.out.lt)
  have Xc8 := Lib.hid (Xc7.out.below hb Xc7.out.lt)
  have B8 := Lib.hid (B7.out.trans (hb.mono B7.out.size))
  have hz8 := hb.size
  clear hb Xs7 Xo7 Xc7 B7
  go_wp2_with fail
  go_ret
  exact ⟨rfl, B8.out⟩
set_option maxRecDepth 100000 in
set_option maxHeartbeats 2000000 in
theorem cont_000 (x : St) (k r a b : Int) (w : World) (hx : Ok x) (he : mvE x r = 0) (h1 : ¬ frE x r a = 0) (h2 : ¬ slE (frS x r a) r a b = 0) (h3 : ¬ spE (slS (frS x r a) r a b) r a = 0) :
    Calls Try.prog 6 #[.agg #[.int .i64 x.r, .int .i64 x.t, .int .i64 x.p, .int .i64 x.l, .int .i64 x.q, .int .i64 x.s], .agg #[.int .i64 k, .int .i64 r, .int .i64 a, .int .i64 b]] w fun e w' => e = .returned (.bool true) ∧ Below w.heap.size w w' := by
  have BB := Lib.hid (Below.refl w.heap.size w)
  have HOK := Lib.hid hx
  have HM := Lib.hid he
  obtain ⟨T, hT⟩ : ∃ T, at' x r = T := ⟨_, rfl⟩
  have HT := Lib.hid ((mvS_t he).trans hT)
  have hTb := (mvE_iff.1 he).2.2
  rw [hT] at hTb
  obtain ⟨y, hy⟩ : ∃ y, frS x r a = y := ⟨_, rfl⟩
  have Hy := Lib.hid hy
  obtain ⟨n1, hn1⟩ : ∃ n1, frE x r a = n1 := ⟨_, rfl⟩
  have hyx : y = x := by rw [← hy]; exact if_neg h1
  have HYO : Hid (Ok y) := Lib.hid (by rw [hyx]; exact hx)
  have hya : at' y r = T := by rw [hyx]; exact hT
  rw [hn1] at h1
  have q1 : (n1 == 0) = false := by simpa using h1
  have HE1 := Lib.hid hn1
  clear hn1 hyx
  obtain ⟨z, hz⟩ : ∃ z, slS y r a b = z := ⟨_, rfl⟩
  have Hz := Lib.hid hz
  rw [hy] at h2 h3
  obtain ⟨n2, hn2⟩ : ∃ n2, slE y r a b = n2 := ⟨_, rfl⟩
  have hzy : z = y := by rw [← hz]; exact if_neg h2
  have HZO : Hid (Ok z) := Lib.hid (by rw [hzy]; exact HYO.out)
  have hza : at' z r = T := by rw [hzy]; exact hya
  rw [hn2] at h2
  have q2 : (n2 == 0) = false := by simpa using h2
  have HE2 := Lib.hid hn2
  clear hn2 hzy
  rw [hz] at h3
  obtain ⟨v, hv⟩ : ∃ v, spS z r a = v := ⟨_, rfl⟩
  have Hv := Lib.hid hv
  obtain ⟨n3, hn3⟩ : ∃ n3, spE z r a = n3 := ⟨_, rfl⟩
  rw [hn3] at h3
  have q3 : (n3 == 0) = false := by simpa using h3
  have HE3 := Lib.hid hn3
  clear hn3
  obtain ⟨T0, T1⟩ := hTb
  clear hx he hT hy hya hz hza hv h1 h2 h3
  have Ns1 : Hid (KB 23 (w.alloc (.cells #[.int .i64 x.r, .int .i64 x.t, .int .i64 x.p, .int .i64 x.l, .int .i64 x.q, .int .i64 x.s] 23)) w.heap.size ⟨x.r, x.t, x.p, x.l, x.q, x.s⟩) := Lib.hid (kb_new _ w x.r x.t x.p x.l x.q x.s)
  have E1 := Lib.hid (BB.out.alloc BB.out.size (.cells #[.int .i64 x.r, .int .i64 x.t, .int .i64 x.p, .int .i64 x.l, .int .i64 x.q, .int .i64 x.s] 23))
  have hs1 := BB.out.size
  obtain ⟨S1, hS1⟩ : ∃ W, w.alloc (.cells #[.int .i64 x.r, .int .i64 x.t, .int .i64 x.p, .int .i64 x.l, .int .i64 x.q, .int .i64 x.s] 23) = W := ⟨_, rfl⟩
  have hsz1 : S1.heap.size = w.heap.size + 1 := by rw [← hS1]; simp
  have HSZ1 := Lib.hid hsz1
  have hle1 : w.heap.size < S1.heap.size := by omega
  clear hsz1
  rw [hS1] at Ns1 E1
  clear BB
  have No2 : Hid (OB 38 (S1.alloc (.cells #[.int .i64 k, .int .i64 r, .int .i64 a, .int .i64 b] 38)) S1.heap.size k r a b) := Lib.hid (ob_new _ S1 k r a b)
  have ls2 := Ns1.out.lt
  have Ns2 := Lib.hid (Ns1.out.alloc (.cells #[.int .i64 k, .int .i64 r, .int .i64 a, .int .i64 b] 38))
  have E2 := Lib.hid (E1.out.alloc E1.out.size (.cells #[.int .i64 k, .int .i64 r, .int .i64 a, .int .i64 b] 38))
  have hs2 := E1.out.size
  obtain ⟨S2, hS2⟩ : ∃ W, S1.alloc (.cells #[.int .i64 k, .int .i64 r, .int .i64 a, .int .i64 b] 38) = W := ⟨_, rfl⟩
  have hsz2 : S2.heap.size = S1.heap.size + 1 := by rw [← hS2]; simp
  have HSZ2 := Lib.hid hsz2
  have hle2 : S1.heap.size < S2.heap.size := by omega
  clear hsz2
  rw [hS2] at No2 Ns2 E2
  clear Ns1 E1
  obtain ⟨c3_0, c3_1, c3_2, c3_3, c3_4, c3_5⟩ := Ns2.out.cells
  obtain ⟨c4_0, c4_1, c4_2, c4_3⟩ := No2.out.cells
  go_enter Try.func6, Try.ntmps6
  go_wp2_with fail
  clear hS1 hS2 c3_0 c3_1 c3_2 c3_3 c3_4 c3_5 c4_0 c4_1 c4_2 c4_3
  refine (of_yes x _ HOK.out).mono ?_
  rintro e w5 ⟨c, rfl, hge5, hkb, hb⟩
  have Xs5 := Lib.hid (Ns2.out.below hb Ns2.out.lt)
  have nes5 : w.heap.size < c := Nat.lt_of_lt_of_le Ns2.out.lt hge5
  have Xo5 := Lib.hid (No2.out.below hb No2.out.lt)
  have neo5 : S1.heap.size < c := Nat.lt_of_lt_of_le No2.out.lt hge5
  have lw5 : w.heap.size ≤ c := Nat.le_trans E2.out.size hge5
  have Xc5 := Lib.hid hkb
  have B5 := Lib.hid (E2.out.trans (hb.mono E2.out.size))
  clear hb hkb Ns2 No2 E2
  obtain ⟨c6_0, c6_1, c6_2, c6_3⟩ := Xo5.out.cells
  go_wp2_with fail
  clear c6_0 c6_1 c6_2 c6_3
  refine (now_any c x r _ HOK.out Xc5.out).mono ?_
  rintro e w7 ⟨rfl, hb⟩
  have Xs7 := Lib.hid (Xs5.out.below hb Xs5.out.lt)
  have Xo7 := Lib.hid (Xo5.out.below hb Xo5.out.lt)
  have Xc7 := Lib.hid (Xc5.out.below hb Xc5.out.lt)
  have B7 := Lib.hid (B5.out.trans (hb.mono B5.out.size))
  have hz7 := hb.size
  clear hb Xs5 Xo5 Xc5 B5
  obtain ⟨c8_0, c8_1, c8_2, c8_3⟩ := Xo7.out.cells
  rw [HM.out, HT.out]
  go_wp2_with fail
  clear c8_0 c8_1 c8_2 c8_3
  refine (freq_any c x r a _ HOK.out Xc7.out).mono ?_
  rintro e w9 ⟨rfl, hkb, hg⟩
  have Xc9 : Hid (KB 51 w9 c y) := Lib.hid (by rw [← Hy.out]; exact hkb)
  have Xs9 := Lib.hid (Xs7.out.grown hg (by omega))
  have Xo9 := Lib.hid (Xo7.out.grown hg (by omega))
  have B9 := Lib.hid (below_of_grown' B7.out hg (by omega) B7.out.size)
  clear hkb hg Xc7 Xs7 Xo7 B7
  rw [HE1.out]
  obtain ⟨c10_0, c10_1, c10_2, c10_3⟩ := Xo9.out.cells
  go_wp2_with fail
  clear c10_0 c10_1 c10_2 c10_3
  refine (slew_any c y r a b _ HYO.out Xc9.out).mono ?_
  rintro e w11 ⟨rfl, hkb, hg⟩
  have Xc11 : Hid (KB 51 w11 c z) := Lib.hid (by rw [← Hz.out]; exact hkb)
  have Xs11 := Lib.hid (Xs9.out.grown hg (by omega))
  have Xo11 := Lib.hid (Xo9.out.grown hg (by omega))
  have B11 := Lib.hid (below_of_grown' B9.out hg (by omega) B9.out.size)
  clear hkb hg Xc9 Xs9 Xo9 B9
  rw [HE2.out]
  obtain ⟨c12_0, c12_1, c12_2, c12_3⟩ := Xo11.out.cells
  go_wp2_with fail
  clear c12_0 c12_1 c12_2 c12_3
  have hfz := fun wx => field5 z.r z.t z.p z.l z.q z.s wx
  refine (state_any c z _ Xc11.out).mono ?_
  rintro e w13 ⟨rfl, hb⟩
  have Xs13 := Lib.hid (Xs11.out.below hb Xs11.out.lt)
  have Xo13 := Lib.hid (Xo11.out.below hb Xo11.out.lt)
  have Xc13 := Lib.hid (Xc11.out.below hb Xc11.out.lt)
  have B13 := Lib.hid (B11.out.trans (hb.mono B11.out.size))
  have hz13 := hb.size
  clear hb Xs11 Xo11 Xc11 B11
  obtain ⟨c14_0, c14_1, c14_2, c14_3⟩ := Xo13.out.cells
  go_wp2_with fail
  clear c14_0 c14_1 c14_2 c14_3
  refine (step_any c z r a _ HZO.out Xc13.out).mono ?_
  rintro e w15 ⟨rfl, hkb, hg⟩
  have Xc15 : Hid (KB 51 w15 c v) := Lib.hid (by rw [← Hv.out]; exact hkb)
  have Xs15 := Lib.hid (Xs13.out.grown hg (by omega))
  have Xo15 := Lib.hid (Xo13.out.grown hg (by omega))
  have B15 := Lib.hid (below_of_grown' B13.out hg (by omega) B13.out.size)
  clear hkb hg Xc13 Xs13 Xo13 B13
  rw [HE3.out]
  obtain ⟨c16_0, c16_1, c16_2, c16_3⟩ := Xo15.out.cells
  go_wp2_with fail
  clear c16_0 c16_1 c16_2 c16_3
  clear hfz
  refine (awake10_any _).mono ?_
  rintro e w17 ⟨rfl, hb⟩
  have Xs17 := Lib.hid (Xs15.out.below hb Xs15.out.lt)
  have Xo17 := Lib.hid (Xo15.out.below hb Xo15.out.lt)
  have Xc17 := Lib.hid (Xc15.out.below hb Xc15.out.lt)
  have B17 := Lib.hid (B15.out.trans (hb.mono B15.out.size))
  have hz17 := hb.size
  clear hb Xs15 Xo15 Xc15 B15
  go_wp2_with fail
  go_ret
  exact ⟨rfl, B17.out⟩
set_option maxRecDepth 100000 in
set_option maxHeartbeats 2000000 in
theorem cont_001 (x : St) (k r a b : Int) (w : World) (hx : Ok x) (he : mvE x r = 0) (h1 : ¬ frE x r a = 0) (h2 : ¬ slE (frS x r a) r a b = 0) (h3 : spE (slS (frS x r a) r a b) r a = 0) :
    Calls Try.prog 6 #[.agg #[.int .i64 x.r, .int .i64 x.t, .int .i64 x.p, .int .i64 x.l, .int .i64 x.q, .int .i64 x.s], .agg #[.int .i64 k, .int .i64 r, .int .i64 a, .int .i64 b]] w fun e w' => e = .returned (.bool true) ∧ Below w.heap.size w w' := by
  have BB := Lib.hid (Below.refl w.heap.size w)
  have HOK := Lib.hid hx
  have HM := Lib.hid he
  obtain ⟨T, hT⟩ : ∃ T, at' x r = T := ⟨_, rfl⟩
  have HT := Lib.hid ((mvS_t he).trans hT)
  have hTb := (mvE_iff.1 he).2.2
  rw [hT] at hTb
  obtain ⟨y, hy⟩ : ∃ y, frS x r a = y := ⟨_, rfl⟩
  have Hy := Lib.hid hy
  obtain ⟨n1, hn1⟩ : ∃ n1, frE x r a = n1 := ⟨_, rfl⟩
  have hyx : y = x := by rw [← hy]; exact if_neg h1
  have HYO : Hid (Ok y) := Lib.hid (by rw [hyx]; exact hx)
  have hya : at' y r = T := by rw [hyx]; exact hT
  rw [hn1] at h1
  have q1 : (n1 == 0) = false := by simpa using h1
  have HE1 := Lib.hid hn1
  clear hn1 hyx
  obtain ⟨z, hz⟩ : ∃ z, slS y r a b = z := ⟨_, rfl⟩
  have Hz := Lib.hid hz
  rw [hy] at h2 h3
  obtain ⟨n2, hn2⟩ : ∃ n2, slE y r a b = n2 := ⟨_, rfl⟩
  have hzy : z = y := by rw [← hz]; exact if_neg h2
  have HZO : Hid (Ok z) := Lib.hid (by rw [hzy]; exact HYO.out)
  have hza : at' z r = T := by rw [hzy]; exact hya
  rw [hn2] at h2
  have q2 : (n2 == 0) = false := by simpa using h2
  have HE2 := Lib.hid hn2
  clear hn2 hzy
  rw [hz] at h3
  obtain ⟨v, hv⟩ : ∃ v, spS z r a = v := ⟨_, rfl⟩
  have Hv := Lib.hid hv
  have HE3 := Lib.hid h3
  have f3 := sp_facts HZO.out h3
  have ab := (spE_iff.1 h3).1
  obtain ⟨a0, a1⟩ := ab
  have zs := (spI_iff.1 (spE_iff.1 h3).2.2).2
  obtain ⟨zs0, zs1⟩ := HZO.out.2.2.2.2.2.2
  rw [hv, hza] at f3
  have HVO := Lib.hid f3.1
  have HVM := Lib.hid f3.2.1
  have HVT := Lib.hid f3.2.2.1
  have HVL := Lib.hid f3.2.2.2.1
  have HVS := Lib.hid f3.2.2.2.2
  have zs2 : z.s ≤ 9223372036854775806 := by omega
  have k1 : T + a - T = a := by omega
  have k2 : z.s + 1 - z.s = 1 := by omega
  clear f3 zs zs1
  obtain ⟨T0, T1⟩ := hTb
  clear hx he hT hy hya hz hza hv h1 h2 h3
  have Ns1 : Hid (KB 23 (w.alloc (.cells #[.int .i64 x.r, .int .i64 x.t, .int .i64 x.p, .int .i64 x.l, .int .i64 x.q, .int .i64 x.s] 23)) w.heap.size ⟨x.r, x.t, x.p, x.l, x.q, x.s⟩) := Lib.hid (kb_new _ w x.r x.t x.p x.l x.q x.s)
  have E1 := Lib.hid (BB.out.alloc BB.out.size (.cells #[.int .i64 x.r, .int .i64 x.t, .int .i64 x.p, .int .i64 x.l, .int .i64 x.q, .int .i64 x.s] 23))
  have hs1 := BB.out.size
  obtain ⟨S1, hS1⟩ : ∃ W, w.alloc (.cells #[.int .i64 x.r, .int .i64 x.t, .int .i64 x.p, .int .i64 x.l, .int .i64 x.q, .int .i64 x.s] 23) = W := ⟨_, rfl⟩
  have hsz1 : S1.heap.size = w.heap.size + 1 := by rw [← hS1]; simp
  have HSZ1 := Lib.hid hsz1
  have hle1 : w.heap.size < S1.heap.size := by omega
  clear hsz1
  rw [hS1] at Ns1 E1
  clear BB
  have No2 : Hid (OB 38 (S1.alloc (.cells #[.int .i64 k, .int .i64 r, .int .i64 a, .int .i64 b] 38)) S1.heap.size k r a b) := Lib.hid (ob_new _ S1 k r a b)
  have ls2 := Ns1.out.lt
  have Ns2 := Lib.hid (Ns1.out.alloc (.cells #[.int .i64 k, .int .i64 r, .int .i64 a, .int .i64 b] 38))
  have E2 := Lib.hid (E1.out.alloc E1.out.size (.cells #[.int .i64 k, .int .i64 r, .int .i64 a, .int .i64 b] 38))
  have hs2 := E1.out.size
  obtain ⟨S2, hS2⟩ : ∃ W, S1.alloc (.cells #[.int .i64 k, .int .i64 r, .int .i64 a, .int .i64 b] 38) = W := ⟨_, rfl⟩
  have hsz2 : S2.heap.size = S1.heap.size + 1 := by rw [← hS2]; simp
  have HSZ2 := Lib.hid hsz2
  have hle2 : S1.heap.size < S2.heap.size := by omega
  clear hsz2
  rw [hS2] at No2 Ns2 E2
  clear Ns1 E1
  obtain ⟨c3_0, c3_1, c3_2, c3_3, c3_4, c3_5⟩ := Ns2.out.cells
  obtain ⟨c4_0, c4_1, c4_2, c4_3⟩ := No2.out.cells
  go_enter Try.func6, Try.ntmps6
  go_wp2_with fail
  clear hS1 hS2 c3_0 c3_1 c3_2 c3_3 c3_4 c3_5 c4_0 c4_1 c4_2 c4_3
  refine (of_yes x _ HOK.out).mono ?_
  rintro e w5 ⟨c, rfl, hge5, hkb, hb⟩
  have Xs5 := Lib.hid (Ns2.out.below hb Ns2.out.lt)
  have nes5 : w.heap.size < c := Nat.lt_of_lt_of_le Ns2.out.lt hge5
  have Xo5 := Lib.hid (No2.out.below hb No2.out.lt)
  have neo5 : S1.heap.size < c := Nat.lt_of_lt_of_le No2.out.lt hge5
  have lw5 : w.heap.size ≤ c := Nat.le_trans E2.out.size hge5
  have Xc5 := Lib.hid hkb
  have B5 := Lib.hid (E2.out.trans (hb.mono E2.out.size))
  clear hb hkb Ns2 No2 E2
  obtain ⟨c6_0, c6_1, c6_2, c6_3⟩ := Xo5.out.cells
  go_wp2_with fail
  clear c6_0 c6_1 c6_2 c6_3
  refine (now_any c x r _ HOK.out Xc5.out).mono ?_
  rintro e w7 ⟨rfl, hb⟩
  have Xs7 := Lib.hid (Xs5.out.below hb Xs5.out.lt)
  have Xo7 := Lib.hid (Xo5.out.below hb Xo5.out.lt)
  have Xc7 := Lib.hid (Xc5.out.below hb Xc5.out.lt)
  have B7 := Lib.hid (B5.out.trans (hb.mono B5.out.size))
  have hz7 := hb.size
  clear hb Xs5 Xo5 Xc5 B5
  obtain ⟨c8_0, c8_1, c8_2, c8_3⟩ := Xo7.out.cells
  rw [HM.out, HT.out]
  go_wp2_with fail
  clear c8_0 c8_1 c8_2 c8_3
  refine (freq_any c x r a _ HOK.out Xc7.out).mono ?_
  rintro e w9 ⟨rfl, hkb, hg⟩
  have Xc9 : Hid (KB 51 w9 c y) := Lib.hid (by rw [← Hy.out]; exact hkb)
  have Xs9 := Lib.hid (Xs7.out.grown hg (by omega))
  have Xo9 := Lib.hid (Xo7.out.grown hg (by omega))
  have B9 := Lib.hid (below_of_grown' B7.out hg (by omega) B7.out.size)
  clear hkb hg Xc7 Xs7 Xo7 B7
  rw [HE1.out]
  obtain ⟨c10_0, c10_1, c10_2, c10_3⟩ := Xo9.out.cells
  go_wp2_with fail
  clear c10_0 c10_1 c10_2 c10_3
  refine (slew_any c y r a b _ HYO.out Xc9.out).mono ?_
  rintro e w11 ⟨rfl, hkb, hg⟩
  have Xc11 : Hid (KB 51 w11 c z) := Lib.hid (by rw [← Hz.out]; exact hkb)
  have Xs11 := Lib.hid (Xs9.out.grown hg (by omega))
  have Xo11 := Lib.hid (Xo9.out.grown hg (by omega))
  have B11 := Lib.hid (below_of_grown' B9.out hg (by omega) B9.out.size)
  clear hkb hg Xc9 Xs9 Xo9 B9
  rw [HE2.out]
  obtain ⟨c12_0, c12_1, c12_2, c12_3⟩ := Xo11.out.cells
  go_wp2_with fail
  clear c12_0 c12_1 c12_2 c12_3
  have hfz := fun wx => field5 z.r z.t z.p z.l z.q z.s wx
  refine (state_any c z _ Xc11.out).mono ?_
  rintro e w13 ⟨rfl, hb⟩
  have Xs13 := Lib.hid (Xs11.out.below hb Xs11.out.lt)
  have Xo13 := Lib.hid (Xo11.out.below hb Xo11.out.lt)
  have Xc13 := Lib.hid (Xc11.out.below hb Xc11.out.lt)
  have B13 := Lib.hid (B11.out.trans (hb.mono B11.out.size))
  have hz13 := hb.size
  clear hb Xs11 Xo11 Xc11 B11
  obtain ⟨c14_0, c14_1, c14_2, c14_3⟩ := Xo13.out.cells
  go_wp2_with fail
  clear c14_0 c14_1 c14_2 c14_3
  refine (step_any c z r a _ HZO.out Xc13.out).mono ?_
  rintro e w15 ⟨rfl, hkb, hg⟩
  have Xc15 : Hid (KB 51 w15 c v) := Lib.hid (by rw [← Hv.out]; exact hkb)
  have Xs15 := Lib.hid (Xs13.out.grown hg (by omega))
  have Xo15 := Lib.hid (Xo13.out.grown hg (by omega))
  have B15 := Lib.hid (below_of_grown' B13.out hg (by omega) B13.out.size)
  clear hkb hg Xc13 Xs13 Xo13 B13
  rw [HE3.out]
  obtain ⟨c16_0, c16_1, c16_2, c16_3⟩ := Xo15.out.cells
  go_wp2_with fail
  clear c16_0 c16_1 c16_2 c16_3
  refine (now_any c v r _ HVO.out Xc15.out).mono ?_
  rintro e w17 ⟨rfl, hb⟩
  have Xs17 := Lib.hid (Xs15.out.below hb Xs15.out.lt)
  have Xo17 := Lib.hid (Xo15.out.below hb Xo15.out.lt)
  have Xc17 := Lib.hid (Xc15.out.below hb Xc15.out.lt)
  have B17 := Lib.hid (B15.out.trans (hb.mono B15.out.size))
  have hz17 := hb.size
  clear hb Xs15 Xo15 Xc15 B15
  obtain ⟨c18_0, c18_1, c18_2, c18_3⟩ := Xo17.out.cells
  rw [HVM.out, HVT.out]
  go_wp2_with fail
  clear c18_0 c18_1 c18_2 c18_3
  refine (pend_any c v r _ HVO.out Xc17.out).mono ?_
  rintro e w19 ⟨rfl, hb⟩
  have Xs19 := Lib.hid (Xs17.out.below hb Xs17.out.lt)
  have Xo19 := Lib.hid (Xo17.out.below hb Xo17.out.lt)
  have Xc19 := Lib.hid (Xc17.out.below hb Xc17.out.lt)
  have B19 := Lib.hid (B17.out.trans (hb.mono B17.out.size))
  have hz19 := hb.size
  clear hb Xs17 Xo17 Xc17 B17
  obtain ⟨c20_0, c20_1, c20_2, c20_3⟩ := Xo19.out.cells
  rw [HVL.out]
  go_wp2_with fail
  clear c20_0 c20_1 c20_2 c20_3
  refine (state_any c v _ Xc19.out).mono ?_
  rintro e w21 ⟨rfl, hb⟩
  have Xs21 := Lib.hid (Xs19.out.below hb Xs19.out.lt)
  have Xo21 := Lib.hid (Xo19.out.below hb Xo19.out.lt)
  have Xc21 := Lib.hid (Xc19.out.below hb Xc19.out.lt)
  have B21 := Lib.hid (B19.out.trans (hb.mono B19.out.size))
  have hz21 := hb.size
  clear hb Xs19 Xo19 Xc19 B19
  obtain ⟨c22_0, c22_1, c22_2, c22_3⟩ := Xo21.out.cells
  rw [HVS.out]
  have hfv := fun wx => field5 v.r v.t v.p v.l v.q (z.s + 1) wx
  go_wp2_with fail
  clear hfv
  clear c22_0 c22_1 c22_2 c22_3
  clear hfz
  refine (awake10_any _).mono ?_
  rintro e w23 ⟨rfl, hb⟩
  have Xs23 := Lib.hid (Xs21.out.below hb Xs21.out.lt)
  have Xo23 := Lib.hid (Xo21.out.below hb Xo21.out.lt)
  have Xc23 := Lib.hid (Xc21.out.below hb Xc21.out.lt)
  have B23 := Lib.hid (B21.out.trans (hb.mono B21.out.size))
  have hz23 := hb.size
  clear hb Xs21 Xo21 Xc21 B21
  go_wp2_with fail
  go_ret
  exact ⟨rfl, B23.out⟩
set_option maxRecDepth 100000 in
set_option maxHeartbeats 2000000 in
theorem cont_010 (x : St) (k r a b : Int) (w : World) (hx : Ok x) (he : mvE x r = 0) (h1 : ¬ frE x r a = 0) (h2 : slE (frS x r a) r a b = 0) (h3 : ¬ spE (slS (frS x r a) r a b) r a = 0) :
    Calls Try.prog 6 #[.agg #[.int .i64 x.r, .int .i64 x.t, .int .i64 x.p, .int .i64 x.l, .int .i64 x.q, .int .i64 x.s], .agg #[.int .i64 k, .int .i64 r, .int .i64 a, .int .i64 b]] w fun e w' => e = .returned (.bool true) ∧ Below w.heap.size w w' := by
  have BB := Lib.hid (Below.refl w.heap.size w)
  have HOK := Lib.hid hx
  have HM := Lib.hid he
  obtain ⟨T, hT⟩ : ∃ T, at' x r = T := ⟨_, rfl⟩
  have HT := Lib.hid ((mvS_t he).trans hT)
  have hTb := (mvE_iff.1 he).2.2
  rw [hT] at hTb
  obtain ⟨y, hy⟩ : ∃ y, frS x r a = y := ⟨_, rfl⟩
  have Hy := Lib.hid hy
  obtain ⟨n1, hn1⟩ : ∃ n1, frE x r a = n1 := ⟨_, rfl⟩
  have hyx : y = x := by rw [← hy]; exact if_neg h1
  have HYO : Hid (Ok y) := Lib.hid (by rw [hyx]; exact hx)
  have hya : at' y r = T := by rw [hyx]; exact hT
  rw [hn1] at h1
  have q1 : (n1 == 0) = false := by simpa using h1
  have HE1 := Lib.hid hn1
  clear hn1 hyx
  obtain ⟨z, hz⟩ : ∃ z, slS y r a b = z := ⟨_, rfl⟩
  have Hz := Lib.hid hz
  rw [hy] at h2 h3
  have HE2 := Lib.hid h2
  have f2 := sl_facts HYO.out h2
  rw [hz, hya] at f2
  have HZO := Lib.hid f2.1
  have HZM := Lib.hid f2.2.1
  have hza := f2.2.2.1
  have HZT := Lib.hid f2.2.2.2.1
  have HZL := Lib.hid f2.2.2.2.2
  clear f2
  rw [hz] at h3
  obtain ⟨v, hv⟩ : ∃ v, spS z r a = v := ⟨_, rfl⟩
  have Hv := Lib.hid hv
  obtain ⟨n3, hn3⟩ : ∃ n3, spE z r a = n3 := ⟨_, rfl⟩
  rw [hn3] at h3
  have q3 : (n3 == 0) = false := by simpa using h3
  have HE3 := Lib.hid hn3
  clear hn3
  obtain ⟨T0, T1⟩ := hTb
  clear hx he hT hy hya hz hza hv h1 h2 h3
  have Ns1 : Hid (KB 23 (w.alloc (.cells #[.int .i64 x.r, .int .i64 x.t, .int .i64 x.p, .int .i64 x.l, .int .i64 x.q, .int .i64 x.s] 23)) w.heap.size ⟨x.r, x.t, x.p, x.l, x.q, x.s⟩) := Lib.hid (kb_new _ w x.r x.t x.p x.l x.q x.s)
  have E1 := Lib.hid (BB.out.alloc BB.out.size (.cells #[.int .i64 x.r, .int .i64 x.t, .int .i64 x.p, .int .i64 x.l, .int .i64 x.q, .int .i64 x.s] 23))
  have hs1 := BB.out.size
  obtain ⟨S1, hS1⟩ : ∃ W, w.alloc (.cells #[.int .i64 x.r, .int .i64 x.t, .int .i64 x.p, .int .i64 x.l, .int .i64 x.q, .int .i64 x.s] 23) = W := ⟨_, rfl⟩
  have hsz1 : S1.heap.size = w.heap.size + 1 := by rw [← hS1]; simp
  have HSZ1 := Lib.hid hsz1
  have hle1 : w.heap.size < S1.heap.size := by omega
  clear hsz1
  rw [hS1] at Ns1 E1
  clear BB
  have No2 : Hid (OB 38 (S1.alloc (.cells #[.int .i64 k, .int .i64 r, .int .i64 a, .int .i64 b] 38)) S1.heap.size k r a b) := Lib.hid (ob_new _ S1 k r a b)
  have ls2 := Ns1.out.lt
  have Ns2 := Lib.hid (Ns1.out.alloc (.cells #[.int .i64 k, .int .i64 r, .int .i64 a, .int .i64 b] 38))
  have E2 := Lib.hid (E1.out.alloc E1.out.size (.cells #[.int .i64 k, .int .i64 r, .int .i64 a, .int .i64 b] 38))
  have hs2 := E1.out.size
  obtain ⟨S2, hS2⟩ : ∃ W, S1.alloc (.cells #[.int .i64 k, .int .i64 r, .int .i64 a, .int .i64 b] 38) = W := ⟨_, rfl⟩
  have hsz2 : S2.heap.size = S1.heap.size + 1 := by rw [← hS2]; simp
  have HSZ2 := Lib.hid hsz2
  have hle2 : S1.heap.size < S2.heap.size := by omega
  clear hsz2
  rw [hS2] at No2 Ns2 E2
  clear Ns1 E1
  obtain ⟨c3_0, c3_1, c3_2, c3_3, c3_4, c3_5⟩ := Ns2.out.cells
  obtain ⟨c4_0, c4_1, c4_2, c4_3⟩ := No2.out.cells
  go_enter Try.func6, Try.ntmps6
  go_wp2_with fail
  clear hS1 hS2 c3_0 c3_1 c3_2 c3_3 c3_4 c3_5 c4_0 c4_1 c4_2 c4_3
  refine (of_yes x _ HOK.out).mono ?_
  rintro e w5 ⟨c, rfl, hge5, hkb, hb⟩
  have Xs5 := Lib.hid (Ns2.out.below hb Ns2.out.lt)
  have nes5 : w.heap.size < c := Nat.lt_of_lt_of_le Ns2.out.lt hge5
  have Xo5 := Lib.hid (No2.out.below hb No2.out.lt)
  have neo5 : S1.heap.size < c := Nat.lt_of_lt_of_le No2.out.lt hge5
  have lw5 : w.heap.size ≤ c := Nat.le_trans E2.out.size hge5
  have Xc5 := Lib.hid hkb
  have B5 := Lib.hid (E2.out.trans (hb.mono E2.out.size))
  clear hb hkb Ns2 No2 E2
  obtain ⟨c6_0, c6_1, c6_2, c6_3⟩ := Xo5.out.cells
  go_wp2_with fail
  clear c6_0 c6_1 c6_2 c6_3
  refine (now_any c x r _ HOK.out Xc5.out).mono ?_
  rintro e w7 ⟨rfl, hb⟩
  have Xs7 := Lib.hid (Xs5.out.below hb Xs5.out.lt)
  have Xo7 := Lib.hid (Xo5.out.below hb Xo5.out.lt)
  have Xc7 := Lib.hid (Xc5.out.below hb Xc5.out.lt)
  have B7 := Lib.hid (B5.out.trans (hb.mono B5.out.size))
  have hz7 := hb.size
  clear hb Xs5 Xo5 Xc5 B5
  obtain ⟨c8_0, c8_1, c8_2, c8_3⟩ := Xo7.out.cells
  rw [HM.out, HT.out]
  go_wp2_with fail
  clear c8_0 c8_1 c8_2 c8_3
  refine (freq_any c x r a _ HOK.out Xc7.out).mono ?_
  rintro e w9 ⟨rfl, hkb, hg⟩
  have Xc9 : Hid (KB 51 w9 c y) := Lib.hid (by rw [← Hy.out]; exact hkb)
  have Xs9 := Lib.hid (Xs7.out.grown hg (by omega))
  have Xo9 := Lib.hid (Xo7.out.grown hg (by omega))
  have B9 := Lib.hid (below_of_grown' B7.out hg (by omega) B7.out.size)
  clear hkb hg Xc7 Xs7 Xo7 B7
  rw [HE1.out]
  obtain ⟨c10_0, c10_1, c10_2, c10_3⟩ := Xo9.out.cells
  go_wp2_with fail
  clear c10_0 c10_1 c10_2 c10_3
  refine (slew_any c y r a b _ HYO.out Xc9.out).mono ?_
  rintro e w11 ⟨rfl, hkb, hg⟩
  have Xc11 : Hid (KB 51 w11 c z) := Lib.hid (by rw [← Hz.out]; exact hkb)
  have Xs11 := Lib.hid (Xs9.out.grown hg (by omega))
  have Xo11 := Lib.hid (Xo9.out.grown hg (by omega))
  have B11 := Lib.hid (below_of_grown' B9.out hg (by omega) B9.out.size)
  clear hkb hg Xc9 Xs9 Xo9 B9
  rw [HE2.out]
  obtain ⟨c12_0, c12_1, c12_2, c12_3⟩ := Xo11.out.cells
  go_wp2_with fail
  clear c12_0 c12_1 c12_2 c12_3
  refine (now_any c z r _ HZO.out Xc11.out).mono ?_
  rintro e w13 ⟨rfl, hb⟩
  have Xs13 := Lib.hid (Xs11.out.below hb Xs11.out.lt)
  have Xo13 := Lib.hid (Xo11.out.below hb Xo11.out.lt)
  have Xc13 := Lib.hid (Xc11.out.below hb Xc11.out.lt)
  have B13 := Lib.hid (B11.out.trans (hb.mono B11.out.size))
  have hz13 := hb.size
  clear hb Xs11 Xo11 Xc11 B11
  obtain ⟨c14_0, c14_1, c14_2, c14_3⟩ := Xo13.out.cells
  rw [HZM.out, HZT.out]
  go_wp2_with fail
  go_region_held3 (fun w' => w'.cell? ⟨S1.heap.size, 0, none⟩ = some (.int .i64 k) ∧ w'.cell? ⟨S1.heap.size, 1, none⟩ = some (.int .i64 r) ∧ w'.cell? ⟨S1.heap.size, 2, none⟩ = some (.int .i64 a) ∧ w'.cell? ⟨S1.heap.size, 3, none⟩ = some (.int .i64 b)) (go_keep)
      (first
        | (go_at_call 23; refine (pend_any c z r _ HZO.out ?_).mono ?_; exact Xc13.out; rintro e w15 ⟨rfl, hb⟩; have hb : Below w13.heap.size w13 w15 := ⟨hb.os, hb.tape, hb.output, hb.size, hb.block⟩; have Xs15 := Lib.hid (Xs13.out.below hb Xs13.out.lt); have Xo15 := Lib.hid (Xo13.out.below hb Xo13.out.lt); obtain ⟨co15_0, co15_1, co15_2, co15_3⟩ := Xo15.out.cells; have Xc15 := Lib.hid (Xc13.out.below hb Xc13.out.lt); have B15 := Lib.hid (B13.out.trans (hb.mono B13.out.size)); have hz15 := hb.size; clear hb Xs13 Xo13 Xc13 B13; rw [HZL.out]))
  clear c14_0 c14_1 c14_2 c14_3
  go_wp2_with fail
  clear co15_0 co15_1 co15_2 co15_3
  have hfz := fun wx => field5 z.r z.t z.p z.l z.q z.s wx
  refine (state_any c z _ Xc15.out).mono ?_
  rintro e w16 ⟨rfl, hb⟩
  have Xs16 := Lib.hid (Xs15.out.below hb Xs15.out.lt)
  have Xo16 := Lib.hid (Xo15.out.below hb Xo15.out.lt)
  have Xc16 := Lib.hid (Xc15.out.below hb Xc15.out.lt)
  have B16 := Lib.hid (B15.out.trans (hb.mono B15.out.size))
  have hz16 := hb.size
  clear hb Xs15 Xo15 Xc15 B15
  obtain ⟨c17_0, c17_1, c17_2, c17_3⟩ := Xo16.out.cells
  go_wp2_with fail
  clear c17_0 c17_1 c17_2 c17_3
  refine (step_any c z r a _ HZO.out Xc16.out).mono ?_
  rintro e w18 ⟨rfl, hkb, hg⟩
  have Xc18 : Hid (KB 51 w18 c v) := Lib.hid (by rw [← Hv.out]; exact hkb)
  have Xs18 := Lib.hid (Xs16.out.grown hg (by omega))
  have Xo18 := Lib.hid (Xo16.out.grown hg (by omega))
  have B18 := Lib.hid (below_of_grown' B16.out hg (by omega) B16.out.size)
  clear hkb hg Xc16 Xs16 Xo16 B16
  rw [HE3.out]
  obtain ⟨c19_0, c19_1, c19_2, c19_3⟩ := Xo18.out.cells
  go_wp2_with fail
  clear c19_0 c19_1 c19_2 c19_3
  clear hfz
  refine (awake10_any _).mono ?_
  rintro e w20 ⟨rfl, hb⟩
  have Xs20 := Lib.hid (Xs18.out.below hb Xs18.out.lt)
  have Xo20 := Lib.hid (Xo18.out.below hb Xo18.out.lt)
  have Xc20 := Lib.hid (Xc18.out.below hb Xc18.out.lt)
  have B20 := Lib.hid (B18.out.trans (hb.mono B18.out.size))
  have hz20 := hb.size
  clear hb Xs18 Xo18 Xc18 B18
  go_wp2_with fail
  go_ret
  exact ⟨rfl, B20.out⟩
set_option maxRecDepth 100000 in
set_option maxHeartbeats 2000000 in
theorem cont_011 (x : St) (k r a b : Int) (w : World) (hx : Ok x) (he : mvE x r = 0) (h1 : ¬ frE x r a = 0) (h2 : slE (frS x r a) r a b = 0) (h3 : spE (slS (frS x r a) r a b) r a = 0) :
    Calls Try.prog 6 #[.agg #[.int .i64 x.r, .int .i64 x.t, .int .i64 x.p, .int .i64 x.l, .int .i64 x.q, .int .i64 x.s], .agg #[.int .i64 k, .int .i64 r, .int .i64 a, .int .i64 b]] w fun e w' => e = .returned (.bool true) ∧ Below w.heap.size w w' := by
  have BB := Lib.hid (Below.refl w.heap.size w)
  have HOK := Lib.hid hx
  have HM := Lib.hid he
  obtain ⟨T, hT⟩ : ∃ T, at' x r = T := ⟨_, rfl⟩
  have HT := Lib.hid ((mvS_t he).trans hT)
  have hTb := (mvE_iff.1 he).2.2
  rw [hT] at hTb
  obtain ⟨y, hy⟩ : ∃ y, frS x r a = y := ⟨_, rfl⟩
  have Hy := Lib.hid hy
  obtain ⟨n1, hn1⟩ : ∃ n1, frE x r a = n1 := ⟨_, rfl⟩
  have hyx : y = x := by rw [← hy]; exact if_neg h1
  have HYO : Hid (Ok y) := Lib.hid (by rw [hyx]; exact hx)
  have hya : at' y r = T := by rw [hyx]; exact hT
  rw [hn1] at h1
  have q1 : (n1 == 0) = false := by simpa using h1
  have HE1 := Lib.hid hn1
  clear hn1 hyx
  obtain ⟨z, hz⟩ : ∃ z, slS y r a b = z := ⟨_, rfl⟩
  have Hz := Lib.hid hz
  rw [hy] at h2 h3
  have HE2 := Lib.hid h2
  have f2 := sl_facts HYO.out h2
  rw [hz, hya] at f2
  have HZO := Lib.hid f2.1
  have HZM := Lib.hid f2.2.1
  have hza := f2.2.2.1
  have HZT := Lib.hid f2.2.2.2.1
  have HZL := Lib.hid f2.2.2.2.2
  clear f2
  rw [hz] at h3
  obtain ⟨v, hv⟩ : ∃ v, spS z r a = v := ⟨_, rfl⟩
  have Hv := Lib.hid hv
  have HE3 := Lib.hid h3
  have f3 := sp_facts HZO.out h3
  have ab := (spE_iff.1 h3).1
  obtain ⟨a0, a1⟩ := ab
  have zs := (spI_iff.1 (spE_iff.1 h3).2.2).2
  obtain ⟨zs0, zs1⟩ := HZO.out.2.2.2.2.2.2
  rw [hv, hza] at f3
  have HVO := Lib.hid f3.1
  have HVM := Lib.hid f3.2.1
  have HVT := Lib.hid f3.2.2.1
  have HVL := Lib.hid f3.2.2.2.1
  have HVS := Lib.hid f3.2.2.2.2
  have zs2 : z.s ≤ 9223372036854775806 := by omega
  have k1 : T + a - T = a := by omega
  have k2 : z.s + 1 - z.s = 1 := by omega
  clear f3 zs zs1
  obtain ⟨T0, T1⟩ := hTb
  clear hx he hT hy hya hz hza hv h1 h2 h3
  have Ns1 : Hid (KB 23 (w.alloc (.cells #[.int .i64 x.r, .int .i64 x.t, .int .i64 x.p, .int .i64 x.l, .int .i64 x.q, .int .i64 x.s] 23)) w.heap.size ⟨x.r, x.t, x.p, x.l, x.q, x.s⟩) := Lib.hid (kb_new _ w x.r x.t x.p x.l x.q x.s)
  have E1 := Lib.hid (BB.out.alloc BB.out.size (.cells #[.int .i64 x.r, .int .i64 x.t, .int .i64 x.p, .int .i64 x.l, .int .i64 x.q, .int .i64 x.s] 23))
  have hs1 := BB.out.size
  obtain ⟨S1, hS1⟩ : ∃ W, w.alloc (.cells #[.int .i64 x.r, .int .i64 x.t, .int .i64 x.p, .int .i64 x.l, .int .i64 x.q, .int .i64 x.s] 23) = W := ⟨_, rfl⟩
  have hsz1 : S1.heap.size = w.heap.size + 1 := by rw [← hS1]; simp
  have HSZ1 := Lib.hid hsz1
  have hle1 : w.heap.size < S1.heap.size := by omega
  clear hsz1
  rw [hS1] at Ns1 E1
  clear BB
  have No2 : Hid (OB 38 (S1.alloc (.cells #[.int .i64 k, .int .i64 r, .int .i64 a, .int .i64 b] 38)) S1.heap.size k r a b) := Lib.hid (ob_new _ S1 k r a b)
  have ls2 := Ns1.out.lt
  have Ns2 := Lib.hid (Ns1.out.alloc (.cells #[.int .i64 k, .int .i64 r, .int .i64 a, .int .i64 b] 38))
  have E2 := Lib.hid (E1.out.alloc E1.out.size (.cells #[.int .i64 k, .int .i64 r, .int .i64 a, .int .i64 b] 38))
  have hs2 := E1.out.size
  obtain ⟨S2, hS2⟩ : ∃ W, S1.alloc (.cells #[.int .i64 k, .int .i64 r, .int .i64 a, .int .i64 b] 38) = W := ⟨_, rfl⟩
  have hsz2 : S2.heap.size = S1.heap.size + 1 := by rw [← hS2]; simp
  have HSZ2 := Lib.hid hsz2
  have hle2 : S1.heap.size < S2.heap.size := by omega
  clear hsz2
  rw [hS2] at No2 Ns2 E2
  clear Ns1 E1
  obtain ⟨c3_0, c3_1, c3_2, c3_3, c3_4, c3_5⟩ := Ns2.out.cells
  obtain ⟨c4_0, c4_1, c4_2, c4_3⟩ := No2.out.cells
  go_enter Try.func6, Try.ntmps6
  go_wp2_with fail
  clear hS1 hS2 c3_0 c3_1 c3_2 c3_3 c3_4 c3_5 c4_0 c4_1 c4_2 c4_3
  refine (of_yes x _ HOK.out).mono ?_
  rintro e w5 ⟨c, rfl, hge5, hkb, hb⟩
  have Xs5 := Lib.hid (Ns2.out.below hb Ns2.out.lt)
  have nes5 : w.heap.size < c := Nat.lt_of_lt_of_le Ns2.out.lt hge5
  have Xo5 := Lib.hid (No2.out.below hb No2.out.lt)
  have neo5 : S1.heap.size < c := Nat.lt_of_lt_of_le No2.out.lt hge5
  have lw5 : w.heap.size ≤ c := Nat.le_trans E2.out.size hge5
  have Xc5 := Lib.hid hkb
  have B5 := Lib.hid (E2.out.trans (hb.mono E2.out.size))
  clear hb hkb Ns2 No2 E2
  obtain ⟨c6_0, c6_1, c6_2, c6_3⟩ := Xo5.out.cells
  go_wp2_with fail
  clear c6_0 c6_1 c6_2 c6_3
  refine (now_any c x r _ HOK.out Xc5.out).mono ?_
  rintro e w7 ⟨rfl, hb⟩
  have Xs7 := Lib.hid (Xs5.out.below hb Xs5.out.lt)
  have Xo7 := Lib.hid (Xo5.out.below hb Xo5.out.lt)
  have Xc7 := Lib.hid (Xc5.out.below hb Xc5.out.lt)
  have B7 := Lib.hid (B5.out.trans (hb.mono B5.out.size))
  have hz7 := hb.size
  clear hb Xs5 Xo5 Xc5 B5
  obtain ⟨c8_0, c8_1, c8_2, c8_3⟩ := Xo7.out.cells
  rw [HM.out, HT.out]
  go_wp2_with fail
  clear c8_0 c8_1 c8_2 c8_3
  refine (freq_any c x r a _ HOK.out Xc7.out).mono ?_
  rintro e w9 ⟨rfl, hkb, hg⟩
  have Xc9 : Hid (KB 51 w9 c y) := Lib.hid (by rw [← Hy.out]; exact hkb)
  have Xs9 := Lib.hid (Xs7.out.grown hg (by omega))
  have Xo9 := Lib.hid (Xo7.out.grown hg (by omega))
  have B9 := Lib.hid (below_of_grown' B7.out hg (by omega) B7.out.size)
  clear hkb hg Xc7 Xs7 Xo7 B7
  rw [HE1.out]
  obtain ⟨c10_0, c10_1, c10_2, c10_3⟩ := Xo9.out.cells
  go_wp2_with fail
  clear c10_0 c10_1 c10_2 c10_3
  refine (slew_any c y r a b _ HYO.out Xc9.out).mono ?_
  rintro e w11 ⟨rfl, hkb, hg⟩
  have Xc11 : Hid (KB 51 w11 c z) := Lib.hid (by rw [← Hz.out]; exact hkb)
  have Xs11 := Lib.hid (Xs9.out.grown hg (by omega))
  have Xo11 := Lib.hid (Xo9.out.grown hg (by omega))
  have B11 := Lib.hid (below_of_grown' B9.out hg (by omega) B9.out.size)
  clear hkb hg Xc9 Xs9 Xo9 B9
  rw [HE2.out]
  obtain ⟨c12_0, c12_1, c12_2, c12_3⟩ := Xo11.out.cells
  go_wp2_with fail
  clear c12_0 c12_1 c12_2 c12_3
  refine (now_any c z r _ HZO.out Xc11.out).mono ?_
  rintro e w13 ⟨rfl, hb⟩
  have Xs13 := Lib.hid (Xs11.out.below hb Xs11.out.lt)
  have Xo13 := Lib.hid (Xo11.out.below hb Xo11.out.lt)
  have Xc13 := Lib.hid (Xc11.out.below hb Xc11.out.lt)
  have B13 := Lib.hid (B11.out.trans (hb.mono B11.out.size))
  have hz13 := hb.size
  clear hb Xs11 Xo11 Xc11 B11
  obtain ⟨c14_0, c14_1, c14_2, c14_3⟩ := Xo13.out.cells
  rw [HZM.out, HZT.out]
  go_wp2_with fail
  go_region_held3 (fun w' => w'.cell? ⟨S1.heap.size, 0, none⟩ = some (.int .i64 k) ∧ w'.cell? ⟨S1.heap.size, 1, none⟩ = some (.int .i64 r) ∧ w'.cell? ⟨S1.heap.size, 2, none⟩ = some (.int .i64 a) ∧ w'.cell? ⟨S1.heap.size, 3, none⟩ = some (.int .i64 b)) (go_keep)
      (first
        | (go_at_call 23; refine (pend_any c z r _ HZO.out ?_).mono ?_; exact Xc13.out; rintro e w15 ⟨rfl, hb⟩; have hb : Below w13.heap.size w13 w15 := ⟨hb.os, hb.tape, hb.output, hb.size, hb.block⟩; have Xs15 := Lib.hid (Xs13.out.below hb Xs13.out.lt); have Xo15 := Lib.hid (Xo13.out.below hb Xo13.out.lt); obtain ⟨co15_0, co15_1, co15_2, co15_3⟩ := Xo15.out.cells; have Xc15 := Lib.hid (Xc13.out.below hb Xc13.out.lt); have B15 := Lib.hid (B13.out.trans (hb.mono B13.out.size)); have hz15 := hb.size; clear hb Xs13 Xo13 Xc13 B13; rw [HZL.out]))
  clear c14_0 c14_1 c14_2 c14_3
  go_wp2_with fail
  clear co15_0 co15_1 co15_2 co15_3
  have hfz := fun wx => field5 z.r z.t z.p z.l z.q z.s wx
  refine (state_any c z _ Xc15.out).mono ?_
  rintro e w16 ⟨rfl, hb⟩
  have Xs16 := Lib.hid (Xs15.out.below hb Xs15.out.lt)
  have Xo16 := Lib.hid (Xo15.out.below hb Xo15.out.lt)
  have Xc16 := Lib.hid (Xc15.out.below hb Xc15.out.lt)
  have B16 := Lib.hid (B15.out.trans (hb.mono B15.out.size))
  have hz16 := hb.size
  clear hb Xs15 Xo15 Xc15 B15
  obtain ⟨c17_0, c17_1, c17_2, c17_3⟩ := Xo16.out.cells
  go_wp2_with fail
  clear c17_0 c17_1 c17_2 c17_3
  refine (step_any c z r a _ HZO.out Xc16.out).mono ?_
  rintro e w18 ⟨rfl, hkb, hg⟩
  have Xc18 : Hid (KB 51 w18 c v) := Lib.hid (by rw [← Hv.out]; exact hkb)
  have Xs18 := Lib.hid (Xs16.out.grown hg (by omega))
  have Xo18 := Lib.hid (Xo16.out.grown hg (by omega))
  have B18 := Lib.hid (below_of_grown' B16.out hg (by omega) B16.out.size)
  clear hkb hg Xc16 Xs16 Xo16 B16
  rw [HE3.out]
  obtain ⟨c19_0, c19_1, c19_2, c19_3⟩ := Xo18.out.cells
  go_wp2_with fail
  clear c19_0 c19_1 c19_2 c19_3
  refine (now_any c v r _ HVO.out Xc18.out).mono ?_
  rintro e w20 ⟨rfl, hb⟩
  have Xs20 := Lib.hid (Xs18.out.below hb Xs18.out.lt)
  have Xo20 := Lib.hid (Xo18.out.below hb Xo18.out.lt)
  have Xc20 := Lib.hid (Xc18.out.below hb Xc18.out.lt)
  have B20 := Lib.hid (B18.out.trans (hb.mono B18.out.size))
  have hz20 := hb.size
  clear hb Xs18 Xo18 Xc18 B18
  obtain ⟨c21_0, c21_1, c21_2, c21_3⟩ := Xo20.out.cells
  rw [HVM.out, HVT.out]
  go_wp2_with fail
  clear c21_0 c21_1 c21_2 c21_3
  refine (pend_any c v r _ HVO.out Xc20.out).mono ?_
  rintro e w22 ⟨rfl, hb⟩
  have Xs22 := Lib.hid (Xs20.out.below hb Xs20.out.lt)
  have Xo22 := Lib.hid (Xo20.out.below hb Xo20.out.lt)
  have Xc22 := Lib.hid (Xc20.out.below hb Xc20.out.lt)
  have B22 := Lib.hid (B20.out.trans (hb.mono B20.out.size))
  have hz22 := hb.size
  clear hb Xs20 Xo20 Xc20 B20
  obtain ⟨c23_0, c23_1, c23_2, c23_3⟩ := Xo22.out.cells
  rw [HVL.out]
  go_wp2_with fail
  clear c23_0 c23_1 c23_2 c23_3
  refine (state_any c v _ Xc22.out).mono ?_
  rintro e w24 ⟨rfl, hb⟩
  have Xs24 := Lib.hid (Xs22.out.below hb Xs22.out.lt)
  have Xo24 := Lib.hid (Xo22.out.below hb Xo22.out.lt)
  have Xc24 := Lib.hid (Xc22.out.below hb Xc22.out.lt)
  have B24 := Lib.hid (B22.out.trans (hb.mono B22.out.size))
  have hz24 := hb.size
  clear hb Xs22 Xo22 Xc22 B22
  obtain ⟨c25_0, c25_1, c25_2, c25_3⟩ := Xo24.out.cells
  rw [HVS.out]
  have hfv := fun wx => field5 v.r v.t v.p v.l v.q (z.s + 1) wx
  go_wp2_with fail
  clear hfv
  clear c25_0 c25_1 c25_2 c25_3
  clear hfz
  refine (awake10_any _).mono ?_
  rintro e w26 ⟨rfl, hb⟩
  have Xs26 := Lib.hid (Xs24.out.below hb Xs24.out.lt)
  have Xo26 := Lib.hid (Xo24.out.below hb Xo24.out.lt)
  have Xc26 := Lib.hid (Xc24.out.below hb Xc24.out.lt)
  have B26 := Lib.hid (B24.out.trans (hb.mono B24.out.size))
  have hz26 := hb.size
  clear hb Xs24 Xo24 Xc24 B24
  go_wp2_with fail
  go_ret
  exact ⟨rfl, B26.out⟩
set_option maxRecDepth 100000 in
set_option maxHeartbeats 2000000 in
theorem cont_100 (x : St) (k r a b : Int) (w : World) (hx : Ok x) (he : mvE x r = 0) (h1 : frE x r a = 0) (h2 : ¬ slE (frS x r a) r a b = 0) (h3 : ¬ spE (slS (frS x r a) r a b) r a = 0) :
    Calls Try.prog 6 #[.agg #[.int .i64 x.r, .int .i64 x.t, .int .i64 x.p, .int .i64 x.l, .int .i64 x.q, .int .i64 x.s], .agg #[.int .i64 k, .int .i64 r, .int .i64 a, .int .i64 b]] w fun e w' => e = .returned (.bool true) ∧ Below w.heap.size w w' := by
  have BB := Lib.hid (Below.refl w.heap.size w)
  have HOK := Lib.hid hx
  have HM := Lib.hid he
  obtain ⟨T, hT⟩ : ∃ T, at' x r = T := ⟨_, rfl⟩
  have HT := Lib.hid ((mvS_t he).trans hT)
  have hTb := (mvE_iff.1 he).2.2
  rw [hT] at hTb
  obtain ⟨y, hy⟩ : ∃ y, frS x r a = y := ⟨_, rfl⟩
  have Hy := Lib.hid hy
  have HE1 := Lib.hid h1
  have f1 := fr_facts hx he h1
  rw [hy, hT] at f1
  have HYO := Lib.hid f1.1
  have HYM := Lib.hid f1.2.1
  have hya := f1.2.2.1
  have HYT := Lib.hid f1.2.2.2.1
  have HYP := Lib.hid f1.2.2.2.2.1
  have HYR := Lib.hid f1.2.2.2.2.2
  clear f1
  obtain ⟨z, hz⟩ : ∃ z, slS y r a b = z := ⟨_, rfl⟩
  have Hz := Lib.hid hz
  rw [hy] at h2 h3
  obtain ⟨n2, hn2⟩ : ∃ n2, slE y r a b = n2 := ⟨_, rfl⟩
  have hzy : z = y := by rw [← hz]; exact if_neg h2
  have HZO : Hid (Ok z) := Lib.hid (by rw [hzy]; exact HYO.out)
  have hza : at' z r = T := by rw [hzy]; exact hya
  rw [hn2] at h2
  have q2 : (n2 == 0) = false := by simpa using h2
  have HE2 := Lib.hid hn2
  clear hn2 hzy
  rw [hz] at h3
  obtain ⟨v, hv⟩ : ∃ v, spS z r a = v := ⟨_, rfl⟩
  have Hv := Lib.hid hv
  obtain ⟨n3, hn3⟩ : ∃ n3, spE z r a = n3 := ⟨_, rfl⟩
  rw [hn3] at h3
  have q3 : (n3 == 0) = false := by simpa using h3
  have HE3 := Lib.hid hn3
  clear hn3
  obtain ⟨T0, T1⟩ := hTb
  clear hx he hT hy hya hz hza hv h1 h2 h3
  have Ns1 : Hid (KB 23 (w.alloc (.cells #[.int .i64 x.r, .int .i64 x.t, .int .i64 x.p, .int .i64 x.l, .int .i64 x.q, .int .i64 x.s] 23)) w.heap.size ⟨x.r, x.t, x.p, x.l, x.q, x.s⟩) := Lib.hid (kb_new _ w x.r x.t x.p x.l x.q x.s)
  have E1 := Lib.hid (BB.out.alloc BB.out.size (.cells #[.int .i64 x.r, .int .i64 x.t, .int .i64 x.p, .int .i64 x.l, .int .i64 x.q, .int .i64 x.s] 23))
  have hs1 := BB.out.size
  obtain ⟨S1, hS1⟩ : ∃ W, w.alloc (.cells #[.int .i64 x.r, .int .i64 x.t, .int .i64 x.p, .int .i64 x.l, .int .i64 x.q, .int .i64 x.s] 23) = W := ⟨_, rfl⟩
  have hsz1 : S1.heap.size = w.heap.size + 1 := by rw [← hS1]; simp
  have HSZ1 := Lib.hid hsz1
  have hle1 : w.heap.size < S1.heap.size := by omega
  clear hsz1
  rw [hS1] at Ns1 E1
  clear BB
  have No2 : Hid (OB 38 (S1.alloc (.cells #[.int .i64 k, .int .i64 r, .int .i64 a, .int .i64 b] 38)) S1.heap.size k r a b) := Lib.hid (ob_new _ S1 k r a b)
  have ls2 := Ns1.out.lt
  have Ns2 := Lib.hid (Ns1.out.alloc (.cells #[.int .i64 k, .int .i64 r, .int .i64 a, .int .i64 b] 38))
  have E2 := Lib.hid (E1.out.alloc E1.out.size (.cells #[.int .i64 k, .int .i64 r, .int .i64 a, .int .i64 b] 38))
  have hs2 := E1.out.size
  obtain ⟨S2, hS2⟩ : ∃ W, S1.alloc (.cells #[.int .i64 k, .int .i64 r, .int .i64 a, .int .i64 b] 38) = W := ⟨_, rfl⟩
  have hsz2 : S2.heap.size = S1.heap.size + 1 := by rw [← hS2]; simp
  have HSZ2 := Lib.hid hsz2
  have hle2 : S1.heap.size < S2.heap.size := by omega
  clear hsz2
  rw [hS2] at No2 Ns2 E2
  clear Ns1 E1
  obtain ⟨c3_0, c3_1, c3_2, c3_3, c3_4, c3_5⟩ := Ns2.out.cells
  obtain ⟨c4_0, c4_1, c4_2, c4_3⟩ := No2.out.cells
  go_enter Try.func6, Try.ntmps6
  go_wp2_with fail
  clear hS1 hS2 c3_0 c3_1 c3_2 c3_3 c3_4 c3_5 c4_0 c4_1 c4_2 c4_3
  refine (of_yes x _ HOK.out).mono ?_
  rintro e w5 ⟨c, rfl, hge5, hkb, hb⟩
  have Xs5 := Lib.hid (Ns2.out.below hb Ns2.out.lt)
  have nes5 : w.heap.size < c := Nat.lt_of_lt_of_le Ns2.out.lt hge5
  have Xo5 := Lib.hid (No2.out.below hb No2.out.lt)
  have neo5 : S1.heap.size < c := Nat.lt_of_lt_of_le No2.out.lt hge5
  have lw5 : w.heap.size ≤ c := Nat.le_trans E2.out.size hge5
  have Xc5 := Lib.hid hkb
  have B5 := Lib.hid (E2.out.trans (hb.mono E2.out.size))
  clear hb hkb Ns2 No2 E2
  obtain ⟨c6_0, c6_1, c6_2, c6_3⟩ := Xo5.out.cells
  go_wp2_with fail
  clear c6_0 c6_1 c6_2 c6_3
  refine (now_any c x r _ HOK.out Xc5.out).mono ?_
  rintro e w7 ⟨rfl, hb⟩
  have Xs7 := Lib.hid (Xs5.out.below hb Xs5.out.lt)
  have Xo7 := Lib.hid (Xo5.out.below hb Xo5.out.lt)
  have Xc7 := Lib.hid (Xc5.out.below hb Xc5.out.lt)
  have B7 := Lib.hid (B5.out.trans (hb.mono B5.out.size))
  have hz7 := hb.size
  clear hb Xs5 Xo5 Xc5 B5
  obtain ⟨c8_0, c8_1, c8_2, c8_3⟩ := Xo7.out.cells
  rw [HM.out, HT.out]
  go_wp2_with fail
  clear c8_0 c8_1 c8_2 c8_3
  refine (freq_any c x r a _ HOK.out Xc7.out).mono ?_
  rintro e w9 ⟨rfl, hkb, hg⟩
  have Xc9 : Hid (KB 51 w9 c y) := Lib.hid (by rw [← Hy.out]; exact hkb)
  have Xs9 := Lib.hid (Xs7.out.grown hg (by omega))
  have Xo9 := Lib.hid (Xo7.out.grown hg (by omega))
  have B9 := Lib.hid (below_of_grown' B7.out hg (by omega) B7.out.size)
  clear hkb hg Xc7 Xs7 Xo7 B7
  rw [HE1.out]
  obtain ⟨c10_0, c10_1, c10_2, c10_3⟩ := Xo9.out.cells
  go_wp2_with fail
  clear c10_0 c10_1 c10_2 c10_3
  refine (now_any c y r _ HYO.out Xc9.out).mono ?_
  rintro e w11 ⟨rfl, hb⟩
  have Xs11 := Lib.hid (Xs9.out.below hb Xs9.out.lt)
  have Xo11 := Lib.hid (Xo9.out.below hb Xo9.out.lt)
  have Xc11 := Lib.hid (Xc9.out.below hb Xc9.out.lt)
  have B11 := Lib.hid (B9.out.trans (hb.mono B9.out.size))
  have hz11 := hb.size
  clear hb Xs9 Xo9 Xc9 B9
  obtain ⟨c12_0, c12_1, c12_2, c12_3⟩ := Xo11.out.cells
  rw [HYM.out, HYT.out]
  go_wp2_with fail
  have hf2 := fun wx => field2 r y.t a y.l y.q y.s wx
  have hf0 := fun wx => field0 r y.t a y.l y.q y.s wx
  go_region_held3 (fun w' => w'.cell? ⟨S1.heap.size, 0, none⟩ = some (.int .i64 k) ∧ w'.cell? ⟨S1.heap.size, 1, none⟩ = some (.int .i64 r) ∧ w'.cell? ⟨S1.heap.size, 2, none⟩ = some (.int .i64 a) ∧ w'.cell? ⟨S1.heap.size, 3, none⟩ = some (.int .i64 b)) (go_keep)
      (first
        | (go_at_call 13; refine (state_any c y _ ?_).mono ?_; exact Xc11.out; rintro e w13 ⟨rfl, hb⟩; have hb : Below w11.heap.size w11 w13 := ⟨hb.os, hb.tape, hb.output, hb.size, hb.block⟩; have Xs13 := Lib.hid (Xs11.out.below hb Xs11.out.lt); have Xo13 := Lib.hid (Xo11.out.below hb Xo11.out.lt); obtain ⟨co13_0, co13_1, co13_2, co13_3⟩ := Xo13.out.cells; have Xc13 := Lib.hid (Xc11.out.below hb Xc11.out.lt); have B13 := Lib.hid (B11.out.trans (hb.mono B11.out.size)); have hz13 := hb.size; clear hb Xs11 Xo11 Xc11 B11; rw [HYP.out, HYR.out])
        | (go_at_call 13; refine (state_any c y _ ?_).mono ?_; exact Xc13.out; rintro e w14 ⟨rfl, hb⟩; have Xs14 := Lib.hid (Xs13.out.below hb Xs13.out.lt); have Xo14 := Lib.hid (Xo13.out.below hb Xo13.out.lt); obtain ⟨co14_0, co14_1, co14_2, co14_3⟩ := Xo14.out.cells; have Xc14 := Lib.hid (Xc13.out.below hb Xc13.out.lt); have B14 := Lib.hid (B13.out.trans (hb.mono B13.out.size)); have hz14 := hb.size; clear hb Xs13 Xo13 Xc13 B13; rw [HYP.out, HYR.out]))
  clear c12_0 c12_1 c12_2 c12_3
  clear hf2 hf0
  go_wp2_with fail
  clear co13_0 co13_1 co13_2 co13_3 co14_0 co14_1 co14_2 co14_3
  refine (slew_any c y r a b _ HYO.out Xc14.out).mono ?_
  rintro e w15 ⟨rfl, hkb, hg⟩
  have Xc15 : Hid (KB 51 w15 c z) := Lib.hid (by rw [← Hz.out]; exact hkb)
  have Xs15 := Lib.hid (Xs14.out.grown hg (by omega))
  have Xo15 := Lib.hid (Xo14.out.grown hg (by omega))
  have B15 := Lib.hid (below_of_grown' B14.out hg (by omega) B14.out.size)
  clear hkb hg Xc14 Xs14 Xo14 B14
  rw [HE2.out]
  obtain ⟨c16_0, c16_1, c16_2, c16_3⟩ := Xo15.out.cells
  go_wp2_with fail
  clear c16_0 c16_1 c16_2 c16_3
  have hfz := fun wx => field5 z.r z.t z.p z.l z.q z.s wx
  refine (state_any c z _ Xc15.out).mono ?_
  rintro e w17 ⟨rfl, hb⟩
  have Xs17 := Lib.hid (Xs15.out.below hb Xs15.out.lt)
  have Xo17 := Lib.hid (Xo15.out.below hb Xo15.out.lt)
  have Xc17 := Lib.hid (Xc15.out.below hb Xc15.out.lt)
  have B17 := Lib.hid (B15.out.trans (hb.mono B15.out.size))
  have hz17 := hb.size
  clear hb Xs15 Xo15 Xc15 B15
  obtain ⟨c18_0, c18_1, c18_2, c18_3⟩ := Xo17.out.cells
  go_wp2_with fail
  clear c18_0 c18_1 c18_2 c18_3
  refine (step_any c z r a _ HZO.out Xc17.out).mono ?_
  rintro e w19 ⟨rfl, hkb, hg⟩
  have Xc19 : Hid (KB 51 w19 c v) := Lib.hid (by rw [← Hv.out]; exact hkb)
  have Xs19 := Lib.hid (Xs17.out.grown hg (by omega))
  have Xo19 := Lib.hid (Xo17.out.grown hg (by omega))
  have B19 := Lib.hid (below_of_grown' B17.out hg (by omega) B17.out.size)
  clear hkb hg Xc17 Xs17 Xo17 B17
  rw [HE3.out]
  obtain ⟨c20_0, c20_1, c20_2, c20_3⟩ := Xo19.out.cells
  go_wp2_with fail
  clear c20_0 c20_1 c20_2 c20_3
  clear hfz
  refine (awake10_any _).mono ?_
  rintro e w21 ⟨rfl, hb⟩
  have Xs21 := Lib.hid (Xs19.out.below hb Xs19.out.lt)
  have Xo21 := Lib.hid (Xo19.out.below hb Xo19.out.lt)
  have Xc21 := Lib.hid (Xc19.out.below hb Xc19.out.lt)
  have B21 := Lib.hid (B19.out.trans (hb.mono B19.out.size))
  have hz21 := hb.size
  clear hb Xs19 Xo19 Xc19 B19
  go_wp2_with fail
  go_ret
  exact ⟨rfl, B21.out⟩
set_option maxRecDepth 100000 in
set_option maxHeartbeats 2000000 in
theorem cont_101 (x : St) (k r a b : Int) (w : World) (hx : Ok x) (he : mvE x r = 0) (h1 : frE x r a = 0) (h2 : ¬ slE (frS x r a) r a b = 0) (h3 : spE (slS (frS x r a) r a b) r a = 0) :
    Calls Try.prog 6 #[.agg #[.int .i64 x.r, .int .i64 x.t, .int .i64 x.p, .int .i64 x.l, .int .i64 x.q, .int .i64 x.s], .agg #[.int .i64 k, .int .i64 r, .int .i64 a, .int .i64 b]] w fun e w' => e = .returned (.bool true) ∧ Below w.heap.size w w' := by
  have BB := Lib.hid (Below.refl w.heap.size w)
  have HOK := Lib.hid hx
  have HM := Lib.hid he
  obtain ⟨T, hT⟩ : ∃ T, at' x r = T := ⟨_, rfl⟩
  have HT := Lib.hid ((mvS_t he).trans hT)
  have hTb := (mvE_iff.1 he).2.2
  rw [hT] at hTb
  obtain ⟨y, hy⟩ : ∃ y, frS x r a = y := ⟨_, rfl⟩
  have Hy := Lib.hid hy
  have HE1 := Lib.hid h1
  have f1 := fr_facts hx he h1
  rw [hy, hT] at f1
  have HYO := Lib.hid f1.1
  have HYM := Lib.hid f1.2.1
  have hya := f1.2.2.1
  have HYT := Lib.hid f1.2.2.2.1
  have HYP := Lib.hid f1.2.2.2.2.1
  have HYR := Lib.hid f1.2.2.2.2.2
  clear f1
  obtain ⟨z, hz⟩ : ∃ z, slS y r a b = z := ⟨_, rfl⟩
  have Hz := Lib.hid hz
  rw [hy] at h2 h3
  obtain ⟨n2, hn2⟩ : ∃ n2, slE y r a b = n2 := ⟨_, rfl⟩
  have hzy : z = y := by rw [← hz]; exact if_neg h2
  have HZO : Hid (Ok z) := Lib.hid (by rw [hzy]; exact HYO.out)
  have hza : at' z r = T := by rw [hzy]; exact hya
  rw [hn2] at h2
  have q2 : (n2 == 0) = false := by simpa using h2
  have HE2 := Lib.hid hn2
  clear hn2 hzy
  rw [hz] at h3
  obtain ⟨v, hv⟩ : ∃ v, spS z r a = v := ⟨_, rfl⟩
  have Hv := Lib.hid hv
  have HE3 := Lib.hid h3
  have f3 := sp_facts HZO.out h3
  have ab := (spE_iff.1 h3).1
  obtain ⟨a0, a1⟩ := ab
  have zs := (spI_iff.1 (spE_iff.1 h3).2.2).2
  obtain ⟨zs0, zs1⟩ := HZO.out.2.2.2.2.2.2
  rw [hv, hza] at f3
  have HVO := Lib.hid f3.1
  have HVM := Lib.hid f3.2.1
  have HVT := Lib.hid f3.2.2.1
  have HVL := Lib.hid f3.2.2.2.1
  have HVS := Lib.hid f3.2.2.2.2
  have zs2 : z.s ≤ 9223372036854775806 := by omega
  have k1 : T + a - T = a := by omega
  have k2 : z.s + 1 - z.s = 1 := by omega
  clear f3 zs zs1
  obtain ⟨T0, T1⟩ := hTb
  clear hx he hT hy hya hz hza hv h1 h2 h3
  have Ns1 : Hid (KB 23 (w.alloc (.cells #[.int .i64 x.r, .int .i64 x.t, .int .i64 x.p, .int .i64 x.l, .int .i64 x.q, .int .i64 x.s] 23)) w.heap.size ⟨x.r, x.t, x.p, x.l, x.q, x.s⟩) := Lib.hid (kb_new _ w x.r x.t x.p x.l x.q x.s)
  have E1 := Lib.hid (BB.out.alloc BB.out.size (.cells #[.int .i64 x.r, .int .i64 x.t, .int .i64 x.p, .int .i64 x.l, .int .i64 x.q, .int .i64 x.s] 23))
  have hs1 := BB.out.size
  obtain ⟨S1, hS1⟩ : ∃ W, w.alloc (.cells #[.int .i64 x.r, .int .i64 x.t, .int .i64 x.p, .int .i64 x.l, .int .i64 x.q, .int .i64 x.s] 23) = W := ⟨_, rfl⟩
  have hsz1 : S1.heap.size = w.heap.size + 1 := by rw [← hS1]; simp
  have HSZ1 := Lib.hid hsz1
  have hle1 : w.heap.size < S1.heap.size := by omega
  clear hsz1
  rw [hS1] at Ns1 E1
  clear BB
  have No2 : Hid (OB 38 (S1.alloc (.cells #[.int .i64 k, .int .i64 r, .int .i64 a, .int .i64 b] 38)) S1.heap.size k r a b) := Lib.hid (ob_new _ S1 k r a b)
  have ls2 := Ns1.out.lt
  have Ns2 := Lib.hid (Ns1.out.alloc (.cells #[.int .i64 k, .int .i64 r, .int .i64 a, .int .i64 b] 38))
  have E2 := Lib.hid (E1.out.alloc E1.out.size (.cells #[.int .i64 k, .int .i64 r, .int .i64 a, .int .i64 b] 38))
  have hs2 := E1.out.size
  obtain ⟨S2, hS2⟩ : ∃ W, S1.alloc (.cells #[.int .i64 k, .int .i64 r, .int .i64 a, .int .i64 b] 38) = W := ⟨_, rfl⟩
  have hsz2 : S2.heap.size = S1.heap.size + 1 := by rw [← hS2]; simp
  have HSZ2 := Lib.hid hsz2
  have hle2 : S1.heap.size < S2.heap.size := by omega
  clear hsz2
  rw [hS2] at No2 Ns2 E2
  clear Ns1 E1
  obtain ⟨c3_0, c3_1, c3_2, c3_3, c3_4, c3_5⟩ := Ns2.out.cells
  obtain ⟨c4_0, c4_1, c4_2, c4_3⟩ := No2.out.cells
  go_enter Try.func6, Try.ntmps6
  go_wp2_with fail
  clear hS1 hS2 c3_0 c3_1 c3_2 c3_3 c3_4 c3_5 c4_0 c4_1 c4_2 c4_3
  refine (of_yes x _ HOK.out).mono ?_
  rintro e w5 ⟨c, rfl, hge5, hkb, hb⟩
  have Xs5 := Lib.hid (Ns2.out.below hb Ns2.out.lt)
  have nes5 : w.heap.size < c := Nat.lt_of_lt_of_le Ns2.out.lt hge5
  have Xo5 := Lib.hid (No2.out.below hb No2.out.lt)
  have neo5 : S1.heap.size < c := Nat.lt_of_lt_of_le No2.out.lt hge5
  have lw5 : w.heap.size ≤ c := Nat.le_trans E2.out.size hge5
  have Xc5 := Lib.hid hkb
  have B5 := Lib.hid (E2.out.trans (hb.mono E2.out.size))
  clear hb hkb Ns2 No2 E2
  obtain ⟨c6_0, c6_1, c6_2, c6_3⟩ := Xo5.out.cells
  go_wp2_with fail
  clear c6_0 c6_1 c6_2 c6_3
  refine (now_any c x r _ HOK.out Xc5.out).mono ?_
  rintro e w7 ⟨rfl, hb⟩
  have Xs7 := Lib.hid (Xs5.out.below hb Xs5.out.lt)
  have Xo7 := Lib.hid (Xo5.out.below hb Xo5.out.lt)
  have Xc7 := Lib.hid (Xc5.out.below hb Xc5.out.lt)
  have B7 := Lib.hid (B5.out.trans (hb.mono B5.out.size))
  have hz7 := hb.size
  clear hb Xs5 Xo5 Xc5 B5
  obtain ⟨c8_0, c8_1, c8_2, c8_3⟩ := Xo7.out.cells
  rw [HM.out, HT.out]
  go_wp2_with fail
  clear c8_0 c8_1 c8_2 c8_3
  refine (freq_any c x r a _ HOK.out Xc7.out).mono ?_
  rintro e w9 ⟨rfl, hkb, hg⟩
  have Xc9 : Hid (KB 51 w9 c y) := Lib.hid (by rw [← Hy.out]; exact hkb)
  have Xs9 := Lib.hid (Xs7.out.grown hg (by omega))
  have Xo9 := Lib.hid (Xo7.out.grown hg (by omega))
  have B9 := Lib.hid (below_of_grown' B7.out hg (by omega) B7.out.size)
  clear hkb hg Xc7 Xs7 Xo7 B7
  rw [HE1.out]
  obtain ⟨c10_0, c10_1, c10_2, c10_3⟩ := Xo9.out.cells
  go_wp2_with fail
  clear c10_0 c10_1 c10_2 c10_3
  refine (now_any c y r _ HYO.out Xc9.out).mono ?_
  rintro e w11 ⟨rfl, hb⟩
  have Xs11 := Lib.hid (Xs9.out.below hb Xs9.out.lt)
  have Xo11 := Lib.hid (Xo9.out.below hb Xo9.out.lt)
  have Xc11 := Lib.hid (Xc9.out.below hb Xc9.out.lt)
  have B11 := Lib.hid (B9.out.trans (hb.mono B9.out.size))
  have hz11 := hb.size
  clear hb Xs9 Xo9 Xc9 B9
  obtain ⟨c12_0, c12_1, c12_2, c12_3⟩ := Xo11.out.cells
  rw [HYM.out, HYT.out]
  go_wp2_with fail
  have hf2 := fun wx => field2 r y.t a y.l y.q y.s wx
  have hf0 := fun wx => field0 r y.t a y.l y.q y.s wx
  go_region_held3 (fun w' => w'.cell? ⟨S1.heap.size, 0, none⟩ = some (.int .i64 k) ∧ w'.cell? ⟨S1.heap.size, 1, none⟩ = some (.int .i64 r) ∧ w'.cell? ⟨S1.heap.size, 2, none⟩ = some (.int .i64 a) ∧ w'.cell? ⟨S1.heap.size, 3, none⟩ = some (.int .i64 b)) (go_keep)
      (first
        | (go_at_call 13; refine (state_any c y _ ?_).mono ?_; exact Xc11.out; rintro e w13 ⟨rfl, hb⟩; have hb : Below w11.heap.size w11 w13 := ⟨hb.os, hb.tape, hb.output, hb.size, hb.block⟩; have Xs13 := Lib.hid (Xs11.out.below hb Xs11.out.lt); have Xo13 := Lib.hid (Xo11.out.below hb Xo11.out.lt); obtain ⟨co13_0, co13_1, co13_2, co13_3⟩ := Xo13.out.cells; have Xc13 := Lib.hid (Xc11.out.below hb Xc11.out.lt); have B13 := Lib.hid (B11.out.trans (hb.mono B11.out.size)); have hz13 := hb.size; clear hb Xs11 Xo11 Xc11 B11; rw [HYP.out, HYR.out])
        | (go_at_call 13; refine (state_any c y _ ?_).mono ?_; exact Xc13.out; rintro e w14 ⟨rfl, hb⟩; have Xs14 := Lib.hid (Xs13.out.below hb Xs13.out.lt); have Xo14 := Lib.hid (Xo13.out.below hb Xo13.out.lt); obtain ⟨co14_0, co14_1, co14_2, co14_3⟩ := Xo14.out.cells; have Xc14 := Lib.hid (Xc13.out.below hb Xc13.out.lt); have B14 := Lib.hid (B13.out.trans (hb.mono B13.out.size)); have hz14 := hb.size; clear hb Xs13 Xo13 Xc13 B13; rw [HYP.out, HYR.out]))
  clear c12_0 c12_1 c12_2 c12_3
  clear hf2 hf0
  go_wp2_with fail
  clear co13_0 co13_1 co13_2 co13_3 co14_0 co14_1 co14_2 co14_3
  refine (slew_any c y r a b _ HYO.out Xc14.out).mono ?_
  rintro e w15 ⟨rfl, hkb, hg⟩
  have Xc15 : Hid (KB 51 w15 c z) := Lib.hid (by rw [← Hz.out]; exact hkb)
  have Xs15 := Lib.hid (Xs14.out.grown hg (by omega))
  have Xo15 := Lib.hid (Xo14.out.grown hg (by omega))
  have B15 := Lib.hid (below_of_grown' B14.out hg (by omega) B14.out.size)
  clear hkb hg Xc14 Xs14 Xo14 B14
  rw [HE2.out]
  obtain ⟨c16_0, c16_1, c16_2, c16_3⟩ := Xo15.out.cells
  go_wp2_with fail
  clear c16_0 c16_1 c16_2 c16_3
  have hfz := fun wx => field5 z.r z.t z.p z.l z.q z.s wx
  refine (state_any c z _ Xc15.out).mono ?_
  rintro e w17 ⟨rfl, hb⟩
  have Xs17 := Lib.hid (Xs15.out.below hb Xs15.out.lt)
  have Xo17 := Lib.hid (Xo15.out.below hb Xo15.out.lt)
  have Xc17 := Lib.hid (Xc15.out.below hb Xc15.out.lt)
  have B17 := Lib.hid (B15.out.trans (hb.mono B15.out.size))
  have hz17 := hb.size
  clear hb Xs15 Xo15 Xc15 B15
  obtain ⟨c18_0, c18_1, c18_2, c18_3⟩ := Xo17.out.cells
  go_wp2_with fail
  clear c18_0 c18_1 c18_2 c18_3
  refine (step_any c z r a _ HZO.out Xc17.out).mono ?_
  rintro e w19 ⟨rfl, hkb, hg⟩
  have Xc19 : Hid (KB 51 w19 c v) := Lib.hid (by rw [← Hv.out]; exact hkb)
  have Xs19 := Lib.hid (Xs17.out.grown hg (by omega))
  have Xo19 := Lib.hid (Xo17.out.grown hg (by omega))
  have B19 := Lib.hid (below_of_grown' B17.out hg (by omega) B17.out.size)
  clear hkb hg Xc17 Xs17 Xo17 B17
  rw [HE3.out]
  obtain ⟨c20_0, c20_1, c20_2, c20_3⟩ := Xo19.out.cells
  go_wp2_with fail
  clear c20_0 c20_1 c20_2 c20_3
  refine (now_any c v r _ HVO.out Xc19.out).mono ?_
  rintro e w21 ⟨rfl, hb⟩
  have Xs21 := Lib.hid (Xs19.out.below hb Xs19.out.lt)
  have Xo21 := Lib.hid (Xo19.out.below hb Xo19.out.lt)
  have Xc21 := Lib.hid (Xc19.out.below hb Xc19.out.lt)
  have B21 := Lib.hid (B19.out.trans (hb.mono B19.out.size))
  have hz21 := hb.size
  clear hb Xs19 Xo19 Xc19 B19
  obtain ⟨c22_0, c22_1, c22_2, c22_3⟩ := Xo21.out.cells
  rw [HVM.out, HVT.out]
  go_wp2_with fail
  clear c22_0 c22_1 c22_2 c22_3
  refine (pend_any c v r _ HVO.out Xc21.out).mono ?_
  rintro e w23 ⟨rfl, hb⟩
  have Xs23 := Lib.hid (Xs21.out.below hb Xs21.out.lt)
  have Xo23 := Lib.hid (Xo21.out.below hb Xo21.out.lt)
  have Xc23 := Lib.hid (Xc21.out.below hb Xc21.out.lt)
  have B23 := Lib.hid (B21.out.trans (hb.mono B21.out.size))
  have hz23 := hb.size
  clear hb Xs21 Xo21 Xc21 B21
  obtain ⟨c24_0, c24_1, c24_2, c24_3⟩ := Xo23.out.cells
  rw [HVL.out]
  go_wp2_with fail
  clear c24_0 c24_1 c24_2 c24_3
  refine (state_any c v _ Xc23.out).mono ?_
  rintro e w25 ⟨rfl, hb⟩
  have Xs25 := Lib.hid (Xs23.out.below hb Xs23.out.lt)
  have Xo25 := Lib.hid (Xo23.out.below hb Xo23.out.lt)
  have Xc25 := Lib.hid (Xc23.out.below hb Xc23.out.lt)
  have B25 := Lib.hid (B23.out.trans (hb.mono B23.out.size))
  have hz25 := hb.size
  clear hb Xs23 Xo23 Xc23 B23
  obtain ⟨c26_0, c26_1, c26_2, c26_3⟩ := Xo25.out.cells
  rw [HVS.out]
  have hfv := fun wx => field5 v.r v.t v.p v.l v.q (z.s + 1) wx
  go_wp2_with fail
  clear hfv
  clear c26_0 c26_1 c26_2 c26_3
  clear hfz
  refine (awake10_any _).mono ?_
  rintro e w27 ⟨rfl, hb⟩
  have Xs27 := Lib.hid (Xs25.out.below hb Xs25.out.lt)
  have Xo27 := Lib.hid (Xo25.out.below hb Xo25.out.lt)
  have Xc27 := Lib.hid (Xc25.out.below hb Xc25.out.lt)
  have B27 := Lib.hid (B25.out.trans (hb.mono B25.out.size))
  have hz27 := hb.size
  clear hb Xs25 Xo25 Xc25 B25
  go_wp2_with fail
  go_ret
  exact ⟨rfl, B27.out⟩
set_option maxRecDepth 100000 in
set_option maxHeartbeats 2000000 in
theorem cont_110 (x : St) (k r a b : Int) (w : World) (hx : Ok x) (he : mvE x r = 0) (h1 : frE x r a = 0) (h2 : slE (frS x r a) r a b = 0) (h3 : ¬ spE (slS (frS x r a) r a b) r a = 0) :
    Calls Try.prog 6 #[.agg #[.int .i64 x.r, .int .i64 x.t, .int .i64 x.p, .int .i64 x.l, .int .i64 x.q, .int .i64 x.s], .agg #[.int .i64 k, .int .i64 r, .int .i64 a, .int .i64 b]] w fun e w' => e = .returned (.bool true) ∧ Below w.heap.size w w' := by
  have BB := Lib.hid (Below.refl w.heap.size w)
  have HOK := Lib.hid hx
  have HM := Lib.hid he
  obtain ⟨T, hT⟩ : ∃ T, at' x r = T := ⟨_, rfl⟩
  have HT := Lib.hid ((mvS_t he).trans hT)
  have hTb := (mvE_iff.1 he).2.2
  rw [hT] at hTb
  obtain ⟨y, hy⟩ : ∃ y, frS x r a = y := ⟨_, rfl⟩
  have Hy := Lib.hid hy
  have HE1 := Lib.hid h1
  have f1 := fr_facts hx he h1
  rw [hy, hT] at f1
  have HYO := Lib.hid f1.1
  have HYM := Lib.hid f1.2.1
  have hya := f1.2.2.1
  have HYT := Lib.hid f1.2.2.2.1
  have HYP := Lib.hid f1.2.2.2.2.1
  have HYR := Lib.hid f1.2.2.2.2.2
  clear f1
  obtain ⟨z, hz⟩ : ∃ z, slS y r a b = z := ⟨_, rfl⟩
  have Hz := Lib.hid hz
  rw [hy] at h2 h3
  have HE2 := Lib.hid h2
  have f2 := sl_facts HYO.out h2
  rw [hz, hya] at f2
  have HZO := Lib.hid f2.1
  have HZM := Lib.hid f2.2.1
  have hza := f2.2.2.1
  have HZT := Lib.hid f2.2.2.2.1
  have HZL := Lib.hid f2.2.2.2.2
  clear f2
  rw [hz] at h3
  obtain ⟨v, hv⟩ : ∃ v, spS z r a = v := ⟨_, rfl⟩
  have Hv := Lib.hid hv
  obtain ⟨n3, hn3⟩ : ∃ n3, spE z r a = n3 := ⟨_, rfl⟩
  rw [hn3] at h3
  have q3 : (n3 == 0) = false := by simpa using h3
  have HE3 := Lib.hid hn3
  clear hn3
  obtain ⟨T0, T1⟩ := hTb
  clear hx he hT hy hya hz hza hv h1 h2 h3
  have Ns1 : Hid (KB 23 (w.alloc (.cells #[.int .i64 x.r, .int .i64 x.t, .int .i64 x.p, .int .i64 x.l, .int .i64 x.q, .int .i64 x.s] 23)) w.heap.size ⟨x.r, x.t, x.p, x.l, x.q, x.s⟩) := Lib.hid (kb_new _ w x.r x.t x.p x.l x.q x.s)
  have E1 := Lib.hid (BB.out.alloc BB.out.size (.cells #[.int .i64 x.r, .int .i64 x.t, .int .i64 x.p, .int .i64 x.l, .int .i64 x.q, .int .i64 x.s] 23))
  have hs1 := BB.out.size
  obtain ⟨S1, hS1⟩ : ∃ W, w.alloc (.cells #[.int .i64 x.r, .int .i64 x.t, .int .i64 x.p, .int .i64 x.l, .int .i64 x.q, .int .i64 x.s] 23) = W := ⟨_, rfl⟩
  have hsz1 : S1.heap.size = w.heap.size + 1 := by rw [← hS1]; simp
  have HSZ1 := Lib.hid hsz1
  have hle1 : w.heap.size < S1.heap.size := by omega
  clear hsz1
  rw [hS1] at Ns1 E1
  clear BB
  have No2 : Hid (OB 38 (S1.alloc (.cells #[.int .i64 k, .int .i64 r, .int .i64 a, .int .i64 b] 38)) S1.heap.size k r a b) := Lib.hid (ob_new _ S1 k r a b)
  have ls2 := Ns1.out.lt
  have Ns2 := Lib.hid (Ns1.out.alloc (.cells #[.int .i64 k, .int .i64 r, .int .i64 a, .int .i64 b] 38))
  have E2 := Lib.hid (E1.out.alloc E1.out.size (.cells #[.int .i64 k, .int .i64 r, .int .i64 a, .int .i64 b] 38))
  have hs2 := E1.out.size
  obtain ⟨S2, hS2⟩ : ∃ W, S1.alloc (.cells #[.int .i64 k, .int .i64 r, .int .i64 a, .int .i64 b] 38) = W := ⟨_, rfl⟩
  have hsz2 : S2.heap.size = S1.heap.size + 1 := by rw [← hS2]; simp
  have HSZ2 := Lib.hid hsz2
  have hle2 : S1.heap.size < S2.heap.size := by omega
  clear hsz2
  rw [hS2] at No2 Ns2 E2
  clear Ns1 E1
  obtain ⟨c3_0, c3_1, c3_2, c3_3, c3_4, c3_5⟩ := Ns2.out.cells
  obtain ⟨c4_0, c4_1, c4_2, c4_3⟩ := No2.out.cells
  go_enter Try.func6, Try.ntmps6
  go_wp2_with fail
  clear hS1 hS2 c3_0 c3_1 c3_2 c3_3 c3_4 c3_5 c4_0 c4_1 c4_2 c4_3
  refine (of_yes x _ HOK.out).mono ?_
  rintro e w5 ⟨c, rfl, hge5, hkb, hb⟩
  have Xs5 := Lib.hid (Ns2.out.below hb Ns2.out.lt)
  have nes5 : w.heap.size < c := Nat.lt_of_lt_of_le Ns2.out.lt hge5
  have Xo5 := Lib.hid (No2.out.below hb No2.out.lt)
  have neo5 : S1.heap.size < c := Nat.lt_of_lt_of_le No2.out.lt hge5
  have lw5 : w.heap.size ≤ c := Nat.le_trans E2.out.size hge5
  have Xc5 := Lib.hid hkb
  have B5 := Lib.hid (E2.out.trans (hb.mono E2.out.size))
  clear hb hkb Ns2 No2 E2
  obtain ⟨c6_0, c6_1, c6_2, c6_3⟩ := Xo5.out.cells
  go_wp2_with fail
  clear c6_0 c6_1 c6_2 c6_3
  refine (now_any c x r _ HOK.out Xc5.out).mono ?_
  rintro e w7 ⟨rfl, hb⟩
  have Xs7 := Lib.hid (Xs5.out.below hb Xs5.out.lt)
  have Xo7 := Lib.hid (Xo5.out.below hb Xo5.out.lt)
  have Xc7 := Lib.hid (Xc5.out.below hb Xc5.out.lt)
  have B7 := Lib.hid (B5.out.trans (hb.mono B5.out.size))
  have hz7 := hb.size
  clear hb Xs5 Xo5 Xc5 B5
  obtain ⟨c8_0, c8_1, c8_2, c8_3⟩ := Xo7.out.cells
  rw [HM.out, HT.out]
  go_wp2_with fail
  clear c8_0 c8_1 c8_2 c8_3
  refine (freq_any c x r a _ HOK.out Xc7.out).mono ?_
  rintro e w9 ⟨rfl, hkb, hg⟩
  have Xc9 : Hid (KB 51 w9 c y) := Lib.hid (by rw [← Hy.out]; exact hkb)
  have Xs9 := Lib.hid (Xs7.out.grown hg (by omega))
  have Xo9 := Lib.hid (Xo7.out.grown hg (by omega))
  have B9 := Lib.hid (below_of_grown' B7.out hg (by omega) B7.out.size)
  clear hkb hg Xc7 Xs7 Xo7 B7
  rw [HE1.out]
  obtain ⟨c10_0, c10_1, c10_2, c10_3⟩ := Xo9.out.cells
  go_wp2_with fail
  clear c10_0 c10_1 c10_2 c10_3
  refine (now_any c y r _ HYO.out Xc9.out).mono ?_
  rintro e w11 ⟨rfl, hb⟩
  have Xs11 := Lib.hid (Xs9.out.below hb Xs9.out.lt)
  have Xo11 := Lib.hid (Xo9.out.below hb Xo9.out.lt)
  have Xc11 := Lib.hid (Xc9.out.below hb Xc9.out.lt)
  have B11 := Lib.hid (B9.out.trans (hb.mono B9.out.size))
  have hz11 := hb.size
  clear hb Xs9 Xo9 Xc9 B9
  obtain ⟨c12_0, c12_1, c12_2, c12_3⟩ := Xo11.out.cells
  rw [HYM.out, HYT.out]
  go_wp2_with fail
  have hf2 := fun wx => field2 r y.t a y.l y.q y.s wx
  have hf0 := fun wx => field0 r y.t a y.l y.q y.s wx
  go_region_held3 (fun w' => w'.cell? ⟨S1.heap.size, 0, none⟩ = some (.int .i64 k) ∧ w'.cell? ⟨S1.heap.size, 1, none⟩ = some (.int .i64 r) ∧ w'.cell? ⟨S1.heap.size, 2, none⟩ = some (.int .i64 a) ∧ w'.cell? ⟨S1.heap.size, 3, none⟩ = some (.int .i64 b)) (go_keep)
      (first
        | (go_at_call 13; refine (state_any c y _ ?_).mono ?_; exact Xc11.out; rintro e w13 ⟨rfl, hb⟩; have hb : Below w11.heap.size w11 w13 := ⟨hb.os, hb.tape, hb.output, hb.size, hb.block⟩; have Xs13 := Lib.hid (Xs11.out.below hb Xs11.out.lt); have Xo13 := Lib.hid (Xo11.out.below hb Xo11.out.lt); obtain ⟨co13_0, co13_1, co13_2, co13_3⟩ := Xo13.out.cells; have Xc13 := Lib.hid (Xc11.out.below hb Xc11.out.lt); have B13 := Lib.hid (B11.out.trans (hb.mono B11.out.size)); have hz13 := hb.size; clear hb Xs11 Xo11 Xc11 B11; rw [HYP.out, HYR.out])
        | (go_at_call 13; refine (state_any c y _ ?_).mono ?_; exact Xc13.out; rintro e w14 ⟨rfl, hb⟩; have Xs14 := Lib.hid (Xs13.out.below hb Xs13.out.lt); have Xo14 := Lib.hid (Xo13.out.below hb Xo13.out.lt); obtain ⟨co14_0, co14_1, co14_2, co14_3⟩ := Xo14.out.cells; have Xc14 := Lib.hid (Xc13.out.below hb Xc13.out.lt); have B14 := Lib.hid (B13.out.trans (hb.mono B13.out.size)); have hz14 := hb.size; clear hb Xs13 Xo13 Xc13 B13; rw [HYP.out, HYR.out]))
  clear c12_0 c12_1 c12_2 c12_3
  clear hf2 hf0
  go_wp2_with fail
  clear co13_0 co13_1 co13_2 co13_3 co14_0 co14_1 co14_2 co14_3
  refine (slew_any c y r a b _ HYO.out Xc14.out).mono ?_
  rintro e w15 ⟨rfl, hkb, hg⟩
  have Xc15 : Hid (KB 51 w15 c z) := Lib.hid (by rw [← Hz.out]; exact hkb)
  have Xs15 := Lib.hid (Xs14.out.grown hg (by omega))
  have Xo15 := Lib.hid (Xo14.out.grown hg (by omega))
  have B15 := Lib.hid (below_of_grown' B14.out hg (by omega) B14.out.size)
  clear hkb hg Xc14 Xs14 Xo14 B14
  rw [HE2.out]
  obtain ⟨c16_0, c16_1, c16_2, c16_3⟩ := Xo15.out.cells
  go_wp2_with fail
  clear c16_0 c16_1 c16_2 c16_3
  refine (now_any c z r _ HZO.out Xc15.out).mono ?_
  rintro e w17 ⟨rfl, hb⟩
  have Xs17 := Lib.hid (Xs15.out.below hb Xs15.out.lt)
  have Xo17 := Lib.hid (Xo15.out.below hb Xo15.out.lt)
  have Xc17 := Lib.hid (Xc15.out.below hb Xc15.out.lt)
  have B17 := Lib.hid (B15.out.trans (hb.mono B15.out.size))
  have hz17 := hb.size
  clear hb Xs15 Xo15 Xc15 B15
  obtain ⟨c18_0, c18_1, c18_2, c18_3⟩ := Xo17.out.cells
  rw [HZM.out, HZT.out]
  go_wp2_with fail
  go_region_held3 (fun w' => w'.cell? ⟨S1.heap.size, 0, none⟩ = some (.int .i64 k) ∧ w'.cell? ⟨S1.heap.size, 1, none⟩ = some (.int .i64 r) ∧ w'.cell? ⟨S1.heap.size, 2, none⟩ = some (.int .i64 a) ∧ w'.cell? ⟨S1.heap.size, 3, none⟩ = some (.int .i64 b)) (go_keep)
      (first
        | (go_at_call 23; refine (pend_any c z r _ HZO.out ?_).mono ?_; exact Xc17.out; rintro e w19 ⟨rfl, hb⟩; have hb : Below w17.heap.size w17 w19 := ⟨hb.os, hb.tape, hb.output, hb.size, hb.block⟩; have Xs19 := Lib.hid (Xs17.out.below hb Xs17.out.lt); have Xo19 := Lib.hid (Xo17.out.below hb Xo17.out.lt); obtain ⟨co19_0, co19_1, co19_2, co19_3⟩ := Xo19.out.cells; have Xc19 := Lib.hid (Xc17.out.below hb Xc17.out.lt); have B19 := Lib.hid (B17.out.trans (hb.mono B17.out.size)); have hz19 := hb.size; clear hb Xs17 Xo17 Xc17 B17; rw [HZL.out]))
  clear c18_0 c18_1 c18_2 c18_3
  go_wp2_with fail
  clear co19_0 co19_1 co19_2 co19_3
  have hfz := fun wx => field5 z.r z.t z.p z.l z.q z.s wx
  refine (state_any c z _ Xc19.out).mono ?_
  rintro e w20 ⟨rfl, hb⟩
  have Xs20 := Lib.hid (Xs19.out.below hb Xs19.out.lt)
  have Xo20 := Lib.hid (Xo19.out.below hb Xo19.out.lt)
  have Xc20 := Lib.hid (Xc19.out.below hb Xc19.out.lt)
  have B20 := Lib.hid (B19.out.trans (hb.mono B19.out.size))
  have hz20 := hb.size
  clear hb Xs19 Xo19 Xc19 B19
  obtain ⟨c21_0, c21_1, c21_2, c21_3⟩ := Xo20.out.cells
  go_wp2_with fail
  clear c21_0 c21_1 c21_2 c21_3
  refine (step_any c z r a _ HZO.out Xc20.out).mono ?_
  rintro e w22 ⟨rfl, hkb, hg⟩
  have Xc22 : Hid (KB 51 w22 c v) := Lib.hid (by rw [← Hv.out]; exact hkb)
  have Xs22 := Lib.hid (Xs20.out.grown hg (by omega))
  have Xo22 := Lib.hid (Xo20.out.grown hg (by omega))
  have B22 := Lib.hid (below_of_grown' B20.out hg (by omega) B20.out.size)
  clear hkb hg Xc20 Xs20 Xo20 B20
  rw [HE3.out]
  obtain ⟨c23_0, c23_1, c23_2, c23_3⟩ := Xo22.out.cells
  go_wp2_with fail
  clear c23_0 c23_1 c23_2 c23_3
  clear hfz
  refine (awake10_any _).mono ?_
  rintro e w24 ⟨rfl, hb⟩
  have Xs24 := Lib.hid (Xs22.out.below hb Xs22.out.lt)
  have Xo24 := Lib.hid (Xo22.out.below hb Xo22.out.lt)
  have Xc24 := Lib.hid (Xc22.out.below hb Xc22.out.lt)
  have B24 := Lib.hid (B22.out.trans (hb.mono B22.out.size))
  have hz24 := hb.size
  clear hb Xs22 Xo22 Xc22 B22
  go_wp2_with fail
  go_ret
  exact ⟨rfl, B24.out⟩
set_option maxRecDepth 100000 in
set_option maxHeartbeats 2000000 in
theorem cont_111 (x : St) (k r a b : Int) (w : World) (hx : Ok x) (he : mvE x r = 0) (h1 : frE x r a = 0) (h2 : slE (frS x r a) r a b = 0) (h3 : spE (slS (frS x r a) r a b) r a = 0) :
    Calls Try.prog 6 #[.agg #[.int .i64 x.r, .int .i64 x.t, .int .i64 x.p, .int .i64 x.l, .int .i64 x.q, .int .i64 x.s], .agg #[.int .i64 k, .int .i64 r, .int .i64 a, .int .i64 b]] w fun e w' => e = .returned (.bool true) ∧ Below w.heap.size w w' := by
  have BB := Lib.hid (Below.refl w.heap.size w)
  have HOK := Lib.hid hx
  have HM := Lib.hid he
  obtain ⟨T, hT⟩ : ∃ T, at' x r = T := ⟨_, rfl⟩
  have HT := Lib.hid ((mvS_t he).trans hT)
  have hTb := (mvE_iff.1 he).2.2
  rw [hT] at hTb
  obtain ⟨y, hy⟩ : ∃ y, frS x r a = y := ⟨_, rfl⟩
  have Hy := Lib.hid hy
  have HE1 := Lib.hid h1
  have f1 := fr_facts hx he h1
  rw [hy, hT] at f1
  have HYO := Lib.hid f1.1
  have HYM := Lib.hid f1.2.1
  have hya := f1.2.2.1
  have HYT := Lib.hid f1.2.2.2.1
  have HYP := Lib.hid f1.2.2.2.2.1
  have HYR := Lib.hid f1.2.2.2.2.2
  clear f1
  obtain ⟨z, hz⟩ : ∃ z, slS y r a b = z := ⟨_, rfl⟩
  have Hz := Lib.hid hz
  rw [hy] at h2 h3
  have HE2 := Lib.hid h2
  have f2 := sl_facts HYO.out h2
  rw [hz, hya] at f2
  have HZO := Lib.hid f2.1
  have HZM := Lib.hid f2.2.1
  have hza := f2.2.2.1
  have HZT := Lib.hid f2.2.2.2.1
  have HZL := Lib.hid f2.2.2.2.2
  clear f2
  rw [hz] at h3
  obtain ⟨v, hv⟩ : ∃ v, spS z r a = v := ⟨_, rfl⟩
  have Hv := Lib.hid hv
  have HE3 := Lib.hid h3
  have f3 := sp_facts HZO.out h3
  have ab := (spE_iff.1 h3).1
  obtain ⟨a0, a1⟩ := ab
  have zs := (spI_iff.1 (spE_iff.1 h3).2.2).2
  obtain ⟨zs0, zs1⟩ := HZO.out.2.2.2.2.2.2
  rw [hv, hza] at f3
  have HVO := Lib.hid f3.1
  have HVM := Lib.hid f3.2.1
  have HVT := Lib.hid f3.2.2.1
  have HVL := Lib.hid f3.2.2.2.1
  have HVS := Lib.hid f3.2.2.2.2
  have zs2 : z.s ≤ 9223372036854775806 := by omega
  have k1 : T + a - T = a := by omega
  have k2 : z.s + 1 - z.s = 1 := by omega
  clear f3 zs zs1
  obtain ⟨T0, T1⟩ := hTb
  clear hx he hT hy hya hz hza hv h1 h2 h3
  have Ns1 : Hid (KB 23 (w.alloc (.cells #[.int .i64 x.r, .int .i64 x.t, .int .i64 x.p, .int .i64 x.l, .int .i64 x.q, .int .i64 x.s] 23)) w.heap.size ⟨x.r, x.t, x.p, x.l, x.q, x.s⟩) := Lib.hid (kb_new _ w x.r x.t x.p x.l x.q x.s)
  have E1 := Lib.hid (BB.out.alloc BB.out.size (.cells #[.int .i64 x.r, .int .i64 x.t, .int .i64 x.p, .int .i64 x.l, .int .i64 x.q, .int .i64 x.s] 23))
  have hs1 := BB.out.size
  obtain ⟨S1, hS1⟩ : ∃ W, w.alloc (.cells #[.int .i64 x.r, .int .i64 x.t, .int .i64 x.p, .int .i64 x.l, .int .i64 x.q, .int .i64 x.s] 23) = W := ⟨_, rfl⟩
  have hsz1 : S1.heap.size = w.heap.size + 1 := by rw [← hS1]; simp
  have HSZ1 := Lib.hid hsz1
  have hle1 : w.heap.size < S1.heap.size := by omega
  clear hsz1
  rw [hS1] at Ns1 E1
  clear BB
  have No2 : Hid (OB 38 (S1.alloc (.cells #[.int .i64 k, .int .i64 r, .int .i64 a, .int .i64 b] 38)) S1.heap.size k r a b) := Lib.hid (ob_new _ S1 k r a b)
  have ls2 := Ns1.out.lt
  have Ns2 := Lib.hid (Ns1.out.alloc (.cells #[.int .i64 k, .int .i64 r, .int .i64 a, .int .i64 b] 38))
  have E2 := Lib.hid (E1.out.alloc E1.out.size (.cells #[.int .i64 k, .int .i64 r, .int .i64 a, .int .i64 b] 38))
  have hs2 := E1.out.size
  obtain ⟨S2, hS2⟩ : ∃ W, S1.alloc (.cells #[.int .i64 k, .int .i64 r, .int .i64 a, .int .i64 b] 38) = W := ⟨_, rfl⟩
  have hsz2 : S2.heap.size = S1.heap.size + 1 := by rw [← hS2]; simp
  have HSZ2 := Lib.hid hsz2
  have hle2 : S1.heap.size < S2.heap.size := by omega
  clear hsz2
  rw [hS2] at No2 Ns2 E2
  clear Ns1 E1
  obtain ⟨c3_0, c3_1, c3_2, c3_3, c3_4, c3_5⟩ := Ns2.out.cells
  obtain ⟨c4_0, c4_1, c4_2, c4_3⟩ := No2.out.cells
  go_enter Try.func6, Try.ntmps6
  go_wp2_with fail
  clear hS1 hS2 c3_0 c3_1 c3_2 c3_3 c3_4 c3_5 c4_0 c4_1 c4_2 c4_3
  refine (of_yes x _ HOK.out).mono ?_
  rintro e w5 ⟨c, rfl, hge5, hkb, hb⟩
  have Xs5 := Lib.hid (Ns2.out.below hb Ns2.out.lt)
  have nes5 : w.heap.size < c := Nat.lt_of_lt_of_le Ns2.out.lt hge5
  have Xo5 := Lib.hid (No2.out.below hb No2.out.lt)
  have neo5 : S1.heap.size < c := Nat.lt_of_lt_of_le No2.out.lt hge5
  have lw5 : w.heap.size ≤ c := Nat.le_trans E2.out.size hge5
  have Xc5 := Lib.hid hkb
  have B5 := Lib.hid (E2.out.trans (hb.mono E2.out.size))
  clear hb hkb Ns2 No2 E2
  obtain ⟨c6_0, c6_1, c6_2, c6_3⟩ := Xo5.out.cells
  go_wp2_with fail
  clear c6_0 c6_1 c6_2 c6_3
  refine (now_any c x r _ HOK.out Xc5.out).mono ?_
  rintro e w7 ⟨rfl, hb⟩
  have Xs7 := Lib.hid (Xs5.out.below hb Xs5.out.lt)
  have Xo7 := Lib.hid (Xo5.out.below hb Xo5.out.lt)
  have Xc7 := Lib.hid (Xc5.out.below hb Xc5.out.lt)
  have B7 := Lib.hid (B5.out.trans (hb.mono B5.out.size))
  have hz7 := hb.size
  clear hb Xs5 Xo5 Xc5 B5
  obtain ⟨c8_0, c8_1, c8_2, c8_3⟩ := Xo7.out.cells
  rw [HM.out, HT.out]
  go_wp2_with fail
  clear c8_0 c8_1 c8_2 c8_3
  refine (freq_any c x r a _ HOK.out Xc7.out).mono ?_
  rintro e w9 ⟨rfl, hkb, hg⟩
  have Xc9 : Hid (KB 51 w9 c y) := Lib.hid (by rw [← Hy.out]; exact hkb)
  have Xs9 := Lib.hid (Xs7.out.grown hg (by omega))
  have Xo9 := Lib.hid (Xo7.out.grown hg (by omega))
  have B9 := Lib.hid (below_of_grown' B7.out hg (by omega) B7.out.size)
  clear hkb hg Xc7 Xs7 Xo7 B7
  rw [HE1.out]
  obtain ⟨c10_0, c10_1, c10_2, c10_3⟩ := Xo9.out.cells
  go_wp2_with fail
  clear c10_0 c10_1 c10_2 c10_3
  refine (now_any c y r _ HYO.out Xc9.out).mono ?_
  rintro e w11 ⟨rfl, hb⟩
  have Xs11 := Lib.hid (Xs9.out.below hb Xs9.out.lt)
  have Xo11 := Lib.hid (Xo9.out.below hb Xo9.out.lt)
  have Xc11 := Lib.hid (Xc9.out.below hb Xc9.out.lt)
  have B11 := Lib.hid (B9.out.trans (hb.mono B9.out.size))
  have hz11 := hb.size
  clear hb Xs9 Xo9 Xc9 B9
  obtain ⟨c12_0, c12_1, c12_2, c12_3⟩ := Xo11.out.cells
  rw [HYM.out, HYT.out]
  go_wp2_with fail
  have hf2 := fun wx => field2 r y.t a y.l y.q y.s wx
  have hf0 := fun wx => field0 r y.t a y.l y.q y.s wx
  go_region_held3 (fun w' => w'.cell? ⟨S1.heap.size, 0, none⟩ = some (.int .i64 k) ∧ w'.cell? ⟨S1.heap.size, 1, none⟩ = some (.int .i64 r) ∧ w'.cell? ⟨S1.heap.size, 2, none⟩ = some (.int .i64 a) ∧ w'.cell? ⟨S1.heap.size, 3, none⟩ = some (.int .i64 b)) (go_keep)
      (first
        | (go_at_call 13; refine (state_any c y _ ?_).mono ?_; exact Xc11.out; rintro e w13 ⟨rfl, hb⟩; have hb : Below w11.heap.size w11 w13 := ⟨hb.os, hb.tape, hb.output, hb.size, hb.block⟩; have Xs13 := Lib.hid (Xs11.out.below hb Xs11.out.lt); have Xo13 := Lib.hid (Xo11.out.below hb Xo11.out.lt); obtain ⟨co13_0, co13_1, co13_2, co13_3⟩ := Xo13.out.cells; have Xc13 := Lib.hid (Xc11.out.below hb Xc11.out.lt); have B13 := Lib.hid (B11.out.trans (hb.mono B11.out.size)); have hz13 := hb.size; clear hb Xs11 Xo11 Xc11 B11; rw [HYP.out, HYR.out])
        | (go_at_call 13; refine (state_any c y _ ?_).mono ?_; exact Xc13.out; rintro e w14 ⟨rfl, hb⟩; have Xs14 := Lib.hid (Xs13.out.below hb Xs13.out.lt); have Xo14 := Lib.hid (Xo13.out.below hb Xo13.out.lt); obtain ⟨co14_0, co14_1, co14_2, co14_3⟩ := Xo14.out.cells; have Xc14 := Lib.hid (Xc13.out.below hb Xc13.out.lt); have B14 := Lib.hid (B13.out.trans (hb.mono B13.out.size)); have hz14 := hb.size; clear hb Xs13 Xo13 Xc13 B13; rw [HYP.out, HYR.out]))
  clear c12_0 c12_1 c12_2 c12_3
  clear hf2 hf0
  go_wp2_with fail
  clear co13_0 co13_1 co13_2 co13_3 co14_0 co14_1 co14_2 co14_3
  refine (slew_any c y r a b _ HYO.out Xc14.out).mono ?_
  rintro e w15 ⟨rfl, hkb, hg⟩
  have Xc15 : Hid (KB 51 w15 c z) := Lib.hid (by rw [← Hz.out]; exact hkb)
  have Xs15 := Lib.hid (Xs14.out.grown hg (by omega))
  have Xo15 := Lib.hid (Xo14.out.grown hg (by omega))
  have B15 := Lib.hid (below_of_grown' B14.out hg (by omega) B14.out.size)
  clear hkb hg Xc14 Xs14 Xo14 B14
  rw [HE2.out]
  obtain ⟨c16_0, c16_1, c16_2, c16_3⟩ := Xo15.out.cells
  go_wp2_with fail
  clear c16_0 c16_1 c16_2 c16_3
  refine (now_any c z r _ HZO.out Xc15.out).mono ?_
  rintro e w17 ⟨rfl, hb⟩
  have Xs17 := Lib.hid (Xs15.out.below hb Xs15.out.lt)
  have Xo17 := Lib.hid (Xo15.out.below hb Xo15.out.lt)
  have Xc17 := Lib.hid (Xc15.out.below hb Xc15.out.lt)
  have B17 := Lib.hid (B15.out.trans (hb.mono B15.out.size))
  have hz17 := hb.size
  clear hb Xs15 Xo15 Xc15 B15
  obtain ⟨c18_0, c18_1, c18_2, c18_3⟩ := Xo17.out.cells
  rw [HZM.out, HZT.out]
  go_wp2_with fail
  go_region_held3 (fun w' => w'.cell? ⟨S1.heap.size, 0, none⟩ = some (.int .i64 k) ∧ w'.cell? ⟨S1.heap.size, 1, none⟩ = some (.int .i64 r) ∧ w'.cell? ⟨S1.heap.size, 2, none⟩ = some (.int .i64 a) ∧ w'.cell? ⟨S1.heap.size, 3, none⟩ = some (.int .i64 b)) (go_keep)
      (first
        | (go_at_call 23; refine (pend_any c z r _ HZO.out ?_).mono ?_; exact Xc17.out; rintro e w19 ⟨rfl, hb⟩; have hb : Below w17.heap.size w17 w19 := ⟨hb.os, hb.tape, hb.output, hb.size, hb.block⟩; have Xs19 := Lib.hid (Xs17.out.below hb Xs17.out.lt); have Xo19 := Lib.hid (Xo17.out.below hb Xo17.out.lt); obtain ⟨co19_0, co19_1, co19_2, co19_3⟩ := Xo19.out.cells; have Xc19 := Lib.hid (Xc17.out.below hb Xc17.out.lt); have B19 := Lib.hid (B17.out.trans (hb.mono B17.out.size)); have hz19 := hb.size; clear hb Xs17 Xo17 Xc17 B17; rw [HZL.out]))
  clear c18_0 c18_1 c18_2 c18_3
  go_wp2_with fail
  clear co19_0 co19_1 co19_2 co19_3
  have hfz := fun wx => field5 z.r z.t z.p z.l z.q z.s wx
  refine (state_any c z _ Xc19.out).mono ?_
  rintro e w20 ⟨rfl, hb⟩
  have Xs20 := Lib.hid (Xs19.out.below hb Xs19.out.lt)
  have Xo20 := Lib.hid (Xo19.out.below hb Xo19.out.lt)
  have Xc20 := Lib.hid (Xc19.out.below hb Xc19.out.lt)
  have B20 := Lib.hid (B19.out.trans (hb.mono B19.out.size))
  have hz20 := hb.size
  clear hb Xs19 Xo19 Xc19 B19
  obtain ⟨c21_0, c21_1, c21_2, c21_3⟩ := Xo20.out.cells
  go_wp2_with fail
  clear c21_0 c21_1 c21_2 c21_3
  refine (step_any c z r a _ HZO.out Xc20.out).mono ?_
  rintro e w22 ⟨rfl, hkb, hg⟩
  have Xc22 : Hid (KB 51 w22 c v) := Lib.hid (by rw [← Hv.out]; exact hkb)
  have Xs22 := Lib.hid (Xs20.out.grown hg (by omega))
  have Xo22 := Lib.hid (Xo20.out.grown hg (by omega))
  have B22 := Lib.hid (below_of_grown' B20.out hg (by omega) B20.out.size)
  clear hkb hg Xc20 Xs20 Xo20 B20
  rw [HE3.out]
  obtain ⟨c23_0, c23_1, c23_2, c23_3⟩ := Xo22.out.cells
  go_wp2_with fail
  clear c23_0 c23_1 c23_2 c23_3
  refine (now_any c v r _ HVO.out Xc22.out).mono ?_
  rintro e w24 ⟨rfl, hb⟩
  have Xs24 := Lib.hid (Xs22.out.below hb Xs22.out.lt)
  have Xo24 := Lib.hid (Xo22.out.below hb Xo22.out.lt)
  have Xc24 := Lib.hid (Xc22.out.below hb Xc22.out.lt)
  have B24 := Lib.hid (B22.out.trans (hb.mono B22.out.size))
  have hz24 := hb.size
  clear hb Xs22 Xo22 Xc22 B22
  obtain ⟨c25_0, c25_1, c25_2, c25_3⟩ := Xo24.out.cells
  rw [HVM.out, HVT.out]
  go_wp2_with fail
  clear c25_0 c25_1 c25_2 c25_3
  refine (pend_any c v r _ HVO.out Xc24.out).mono ?_
  rintro e w26 ⟨rfl, hb⟩
  have Xs26 := Lib.hid (Xs24.out.below hb Xs24.out.lt)
  have Xo26 := Lib.hid (Xo24.out.below hb Xo24.out.lt)
  have Xc26 := Lib.hid (Xc24.out.below hb Xc24.out.lt)
  have B26 := Lib.hid (B24.out.trans (hb.mono B24.out.size))
  have hz26 := hb.size
  clear hb Xs24 Xo24 Xc24 B24
  obtain ⟨c27_0, c27_1, c27_2, c27_3⟩ := Xo26.out.cells
  rw [HVL.out]
  go_wp2_with fail
  clear c27_0 c27_1 c27_2 c27_3
  refine (state_any c v _ Xc26.out).mono ?_
  rintro e w28 ⟨rfl, hb⟩
  have Xs28 := Lib.hid (Xs26.out.below hb Xs26.out.lt)
  have Xo28 := Lib.hid (Xo26.out.below hb Xo26.out.lt)
  have Xc28 := Lib.hid (Xc26.out.below hb Xc26.out.lt)
  have B28 := Lib.hid (B26.out.trans (hb.mono B26.out.size))
  have hz28 := hb.size
  clear hb Xs26 Xo26 Xc26 B26
  obtain ⟨c29_0, c29_1, c29_2, c29_3⟩ := Xo28.out.cells
  rw [HVS.out]
  have hfv := fun wx => field5 v.r v.t v.p v.l v.q (z.s + 1) wx
  go_wp2_with fail
  clear hfv
  clear c29_0 c29_1 c29_2 c29_3
  clear hfz
  refine (awake10_any _).mono ?_
  rintro e w30 ⟨rfl, hb⟩
  have Xs30 := Lib.hid (Xs28.out.below hb Xs28.out.lt)
  have Xo30 := Lib.hid (Xo28.out.below hb Xo28.out.lt)
  have Xc30 := Lib.hid (Xc28.out.below hb Xc28.out.lt)
  have B30 := Lib.hid (B28.out.trans (hb.mono B28.out.size))
  have hz30 := hb.size
  clear hb Xs28 Xo28 Xc28 B28
  go_wp2_with fail
  go_ret
  exact ⟨rfl, B30.out⟩
theorem cont_law (x : St) (k r a b : Int) (w : World) (hs : x.s ≤ 9223372036854775807) :
    Calls Try.prog 6 #[.agg #[.int .i64 x.r, .int .i64 x.t, .int .i64 x.p, .int .i64 x.l, .int .i64 x.q, .int .i64 x.s], .agg #[.int .i64 k, .int .i64 r, .int .i64 a, .int .i64 b]] w fun e w' => e = .returned (.bool true) ∧ Below w.heap.size w w' := by
  by_cases hx : Ok x
  · by_cases he : mvE x r = 0
    · by_cases h1 : frE x r a = 0 <;> by_cases h2 : slE (frS x r a) r a b = 0 <;> by_cases h3 : spE (slS (frS x r a) r a b) r a = 0
      · exact cont_111 x k r a b w hx he h1 h2 h3
      · exact cont_110 x k r a b w hx he h1 h2 h3
      · exact cont_101 x k r a b w hx he h1 h2 h3
      · exact cont_100 x k r a b w hx he h1 h2 h3
      · exact cont_011 x k r a b w hx he h1 h2 h3
      · exact cont_010 x k r a b w hx he h1 h2 h3
      · exact cont_001 x k r a b w hx he h1 h2 h3
      · exact cont_000 x k r a b w hx he h1 h2 h3
    · exact cont_err x k r a b w hx he
  · exact cont_no x k r a b w hs hx
end Go.Proofs.Ytjcpfkibaohjjaa
