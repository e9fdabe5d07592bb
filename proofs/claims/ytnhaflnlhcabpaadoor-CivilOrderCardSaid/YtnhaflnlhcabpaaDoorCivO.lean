/- Plain arithmetic of layer 5: the order of texts, texts that are parsed. -/
import Derived.Test.YtnhaflnlhcabpaaDoorCivU
namespace Go.Proofs.YtnhaflnlhcabpaaDoor
open Go.RowKit Fx Cv Pt

theorem Cv.less_app : ∀ (p p' r r' : List UInt8), p.length = p'.length → Op.bytesLess (p ++ r) (p' ++ r') = (Op.bytesLess p p' || (p == p' && Op.bytesLess r r')) := by
  intro p
  induction p with
  | nil =>
    intro p' r r' h
    obtain rfl : p' = [] := List.length_eq_zero_iff.1 h.symm
    simp [Op.bytesLess]
  | cons a p ih =>
    intro p' r r' h
    rcases p' with _ | ⟨b, p'⟩
    · simp at h
    · have := ih p' r r' (by simpa using h)
      simp only [List.cons_append, Op.bytesLess, this]
      by_cases h1 : a < b
      · simp [h1]
      · by_cases h2 : a = b
        · subst h2; simp [h1]
        · have h3 : (a == b) = false := by simpa using h2
          simp [h1, h3]
theorem Cv.digit_lt {d e : Nat} (hd : d < 10) (he : e < 10) : (UInt8.ofNat (48 + d) < UInt8.ofNat (48 + e)) ↔ d < e := by
  rw [UInt8.lt_iff_toNat_lt, (digit_ok d hd).2.2, (digit_ok e he).2.2]; omega
theorem Cv.digit_eq {d e : Nat} (hd : d < 10) (he : e < 10) : (UInt8.ofNat (48 + d) = UInt8.ofNat (48 + e)) ↔ d = e := by
  constructor
  · intro h
    have := congrArg UInt8.toNat h
    rw [(digit_ok d hd).2.2, (digit_ok e he).2.2] at this; omega
  · rintro rfl; rfl
theorem Cv.pow_split (n k : Nat) : n % 10 ^ (k + 1) = n / 10 ^ k % 10 * 10 ^ k + n % 10 ^ k := by
  rw [Nat.pow_succ, Nat.mod_mul]
  rw [Nat.mul_comm (10 ^ k)]; omega
theorem Cv.low_order : ∀ (k n n' : Nat), Op.bytesLess (low n k) (low n' k) = decide (n % 10 ^ k < n' % 10 ^ k) ∧ (low n k = low n' k ↔ n % 10 ^ k = n' % 10 ^ k) := by
  intro k
  induction k with
  | zero => intro n n'; simp [low, Op.bytesLess, Nat.mod_one]
  | succ k ih =>
    intro n n'
    obtain ⟨h1, h2⟩ := ih n n'
    have p0 : 0 < 10 ^ k := Nat.pow_pos (by decide)
    have a := Nat.mod_lt n p0
    have b := Nat.mod_lt n' p0
    have c : n / 10 ^ k % 10 < 10 := Nat.mod_lt _ (by decide)
    have d : n' / 10 ^ k % 10 < 10 := Nat.mod_lt _ (by decide)
    rw [pow_split n, pow_split n']
    have e1 : low n (k + 1) = UInt8.ofNat (48 + n / 10 ^ k % 10) :: low n k := rfl
    have e2 : low n' (k + 1) = UInt8.ofNat (48 + n' / 10 ^ k % 10) :: low n' k := rfl
    rw [e1, e2]
    obtain ⟨u, hu⟩ : ∃ u, n / 10 ^ k % 10 = u := ⟨_, rfl⟩
    obtain ⟨v, hv⟩ : ∃ v, n' / 10 ^ k % 10 = v := ⟨_, rfl⟩
    obtain ⟨P, hP⟩ : ∃ P, 10 ^ k = P := ⟨_, rfl⟩
    rw [hu] at c ⊢
    rw [hv] at d ⊢
    rw [hP] at a b h1 h2 p0 ⊢
    obtain ⟨x, hx⟩ : ∃ x, n % P = x := ⟨_, rfl⟩
    obtain ⟨y, hy⟩ : ∃ y, n' % P = y := ⟨_, rfl⟩
    rw [hx] at a h1 h2 ⊢
    rw [hy] at b h1 h2 ⊢
    have hlt := digit_lt c d
    have heq := digit_eq c d
    rcases Nat.lt_trichotomy u v with h | h | h
    · have hm : (u + 1) * P ≤ v * P := Nat.mul_le_mul_right _ h
      rw [Nat.add_mul, Nat.one_mul] at hm
      have h3 : (UInt8.ofNat (48 + u) == UInt8.ofNat (48 + v)) = false := by
        rw [beq_eq_false_iff_ne]; intro hc; have := heq.1 hc; omega
      refine ⟨?_, ?_⟩
      · simp only [Op.bytesLess, h3, Bool.false_and, Bool.or_false]
        rw [decide_eq_true (hlt.2 h), decide_eq_true (by omega)]
      · constructor
        · intro hc; injection hc with hc _; have := heq.1 hc; omega
        · intro hc; omega
    · subst h
      refine ⟨?_, ?_⟩
      · simp only [Op.bytesLess, beq_self_eq_true, Bool.true_and, h1]
        rw [decide_eq_false (show ¬ UInt8.ofNat (48 + u) < UInt8.ofNat (48 + u) by rw [hlt]; omega), Bool.false_or]
        apply decide_eq_decide.2; omega
      · simp only [List.cons.injEq, true_and]; rw [h2]; omega
    · have hm : (v + 1) * P ≤ u * P := Nat.mul_le_mul_right _ h
      rw [Nat.add_mul, Nat.one_mul] at hm
      have h3 : (UInt8.ofNat (48 + u) == UInt8.ofNat (48 + v)) = false := by
        rw [beq_eq_false_iff_ne]; intro hc; have := heq.1 hc; omega
      refine ⟨?_, ?_⟩
      · simp only [Op.bytesLess, h3, Bool.false_and, Bool.or_false]
        rw [decide_eq_false (by rw [hlt]; omega), decide_eq_false (by omega)]
      · constructor
        · intro hc; injection hc with hc _; have := heq.1 hc; omega
        · intro hc; omega
theorem Cv.less_fld {n n' k : Nat} (c : UInt8) (r r' : List UInt8) (h : n < 10 ^ k) (h' : n' < 10 ^ k) :
    Op.bytesLess (low n k ++ ([c] ++ r)) (low n' k ++ ([c] ++ r')) = (decide (n < n') || (decide (n = n') && Op.bytesLess r r')) := by
  obtain ⟨a, b⟩ := low_order k n n'
  rw [Nat.mod_eq_of_lt h, Nat.mod_eq_of_lt h'] at a b
  rw [less_app _ _ _ _ (by rw [low_len, low_len]), a]
  congr 2
  · by_cases he : n = n'
    · rw [decide_eq_true he]; simpa using b.2 he
    · rw [decide_eq_false he]
      cases hc : (low n k == low n' k)
      · rfl
      · exact absurd (b.1 (by simpa using hc)) he
  · show Op.bytesLess (c :: r) (c :: r') = _
    have : ¬ c < c := by rw [UInt8.lt_iff_toNat_lt]; omega
    simp [Op.bytesLess, this]

/-- The order of the fields. -/
def Cv.lex6 (Y M D H I S Y' M' D' H' I' S' : Nat) : Prop :=
  Y < Y' ∨ (Y = Y' ∧ (M < M' ∨ (M = M' ∧ (D < D' ∨ (D = D' ∧ (H < H' ∨ (H = H' ∧ (I < I' ∨ (I = I' ∧ S < S')))))))))
theorem Cv.ctx_less {Y M D H I S N Y' M' D' H' I' S' : Nat} (a1 : Y < 10000) (a2 : M < 100) (a3 : D < 100) (a4 : H < 100) (a5 : I < 100) (a6 : S < 100) (a7 : N < 1000000000)
    (b1 : Y' < 10000) (b2 : M' < 100) (b3 : D' < 100) (b4 : H' < 100) (b5 : I' < 100) (b6 : S' < 100) :
    (Op.bytesLess (ctx Y M D H I S N) (ctx Y' M' D' H' I' S' 0) = true ↔ lex6 Y M D H I S Y' M' D' H' I' S') := by
  have e : ∀ Y M D H I S N : Nat, ctx Y M D H I S N = low Y 4 ++ ([45] ++ (low M 2 ++ ([45] ++ (low D 2 ++ ([84] ++ (low H 2 ++ ([58] ++ (low I 2 ++ ([58] ++ (low S 2 ++ ([46] ++ (low N 9 ++ ([90] ++ []))))))))))))) := by
    intro Y M D H I S N; simp only [ctx, List.append_assoc, List.append_nil]
  rw [e, e, less_fld _ _ _ a1 b1, less_fld _ _ _ a2 b2, less_fld _ _ _ a3 b3, less_fld _ _ _ a4 b4, less_fld _ _ _ a5 b5, less_fld _ _ _ a6 b6, less_fld _ _ _ (by simpa using a7) (by decide)]
  unfold lex6
  simp only [Bool.or_eq_true, Bool.and_eq_true, decide_eq_true_eq, Op.bytesLess, Nat.not_lt_zero, Bool.false_eq_true, and_false, or_false]
theorem Cv.lex_sec {a b : Int} (h : oY a < oY b ∨ (oY a = oY b ∧ (oM a < oM b ∨ (oM a = oM b ∧ (oD a < oD b ∨ (oD a = oD b ∧ (oH a < oH b ∨ (oH a = oH b ∧ (oI a < oI b ∨ (oI a = oI b ∧ oS a < oS b)))))))))) : a < b := by
  obtain ⟨ha, na⟩ := date a
  obtain ⟨hb, nb⟩ := date b
  have ca := clock a
  have cb := clock b
  by_cases hd : oY a < oY b ∨ (oY a = oY b ∧ (oM a < oM b ∨ (oM a = oM b ∧ oD a < oD b)))
  · have := num_lt ha hb hd
    rw [na, nb] at this; omega
  · have e : oY a = oY b ∧ oM a = oM b ∧ oD a = oD b := by omega
    have hn : a / 86400 = b / 86400 := by rw [← na, ← nb, e.1, e.2.1, e.2.2]
    omega
theorem Cv.lex_iff (a b : Int) : (oY a < oY b ∨ (oY a = oY b ∧ (oM a < oM b ∨ (oM a = oM b ∧ (oD a < oD b ∨ (oD a = oD b ∧ (oH a < oH b ∨ (oH a = oH b ∧ (oI a < oI b ∨ (oI a = oI b ∧ oS a < oS b)))))))))) ↔ a < b := by
  refine ⟨lex_sec, fun h => ?_⟩
  by_cases c : oY b < oY a ∨ (oY b = oY a ∧ (oM b < oM a ∨ (oM b = oM a ∧ (oD b < oD a ∨ (oD b = oD a ∧ (oH b < oH a ∨ (oH b = oH a ∧ (oI b < oI a ∨ (oI b = oI a ∧ oS b < oS a)))))))))
  · have := lex_sec c; omega
  · by_cases e : oY a = oY b ∧ oM a = oM b ∧ oD a = oD b ∧ oH a = oH b ∧ oI a = oI b ∧ oS a = oS b
    · have ha := sec_of_of a
      have hb := sec_of_of b
      rw [e.1, e.2.1, e.2.2.1, e.2.2.2.1, e.2.2.2.2.1, e.2.2.2.2.2, hb] at ha
      omega
    · omega

theorem Cv.toList_mk (l : List UInt8) : (⟨l.toArray⟩ : ByteArray).toList = l := by rw [ByteArray.toList_eq]
/-- Of two seconds the earlier one has the lesser text. -/
theorem Cv.text_less {a b n : Int} (ha : inS a = true) (hb : inS b = true) (n0 : 0 ≤ n) (n1 : n ≤ 999999999) :
    Op.bytesLess (txtC (oY a) (oM a) (oD a) (oH a) (oI a) (oS a) n).toList (txtC (oY b) (oM b) (oD b) (oH b) (oI b) (oS b) 0).toList = decide (a < b) := by
  have ka := okC_iff.1 (of_ok ha)
  have kb := okC_iff.1 (of_ok hb)
  have ea : okC (oY a) (oM a) (oD a) (oH a) (oI a) (oS a) n = true := okC_iff.2 (by omega)
  have eb := of_ok hb
  have ma := (md_bound (y := oY a) ka.2.2.1 ka.2.2.2.1).2
  have mb := (md_bound (y := oY b) kb.2.2.1 kb.2.2.2.1).2
  have hl := lex_iff a b
  unfold txtC
  rw [if_pos ea, if_pos eb, toList_mk, toList_mk]
  have hc := ctx_less (Y := (oY a).toNat) (M := (oM a).toNat) (D := (oD a).toNat) (H := (oH a).toNat) (I := (oI a).toNat) (S := (oS a).toNat) (N := n.toNat) (Y' := (oY b).toNat) (M' := (oM b).toNat) (D' := (oD b).toNat) (H' := (oH b).toNat) (I' := (oI b).toNat) (S' := (oS b).toNat)
    (by omega) (by omega) (by omega) (by omega) (by omega) (by omega) (by omega) (by omega) (by omega) (by omega) (by omega) (by omega) (by omega)
  have hlex : lex6 (oY a).toNat (oM a).toNat (oD a).toNat (oH a).toNat (oI a).toNat (oS a).toNat (oY b).toNat (oM b).toNat (oD b).toNat (oH b).toNat (oI b).toNat (oS b).toNat ↔ a < b := by
    rw [← hl]; unfold lex6
    generalize oY a = y1 at *; generalize oM a = y2 at *; generalize oD a = y3 at *; generalize oH a = y4 at *; generalize oI a = y5 at *; generalize oS a = y6 at *
    generalize oY b = z1 at *; generalize oM b = z2 at *; generalize oD b = z3 at *; generalize oH b = z4 at *; generalize oI b = z5 at *; generalize oS b = z6 at *
    omega
  rw [hlex] at hc
  by_cases h : a < b
  · rw [decide_eq_true h]; exact hc.2 h
  · rw [decide_eq_false h]
    cases hx : Op.bytesLess (ctx (oY a).toNat (oM a).toNat (oD a).toNat (oH a).toNat (oI a).toNat (oS a).toNat n.toNat) (ctx (oY b).toNat (oM b).toNat (oD b).toNat (oH b).toNat (oI b).toNat (oS b).toNat (0 : Int).toNat)
    · rfl
    · exact absurd (hc.1 hx) h

/-! ### What Text wrote is parsed -/
theorem Cv.ctx_fields (Y M D H I S N : Nat) :
    (ctx Y M D H I S N).take 4 = low Y 4 ∧ ((ctx Y M D H I S N).drop 5).take 2 = low M 2 ∧ ((ctx Y M D H I S N).drop 8).take 2 = low D 2 ∧ ((ctx Y M D H I S N).drop 11).take 2 = low H 2 ∧
      ((ctx Y M D H I S N).drop 14).take 2 = low I 2 ∧ ((ctx Y M D H I S N).drop 17).take 2 = low S 2 ∧ ((ctx Y M D H I S N).drop 20).take 9 = low N 9 := by
  simp [ctx, low]
theorem Cv.dig_okB (d : Nat) : okB 48 (UInt8.ofNat (48 + d % 10)).toNat = true := by
  have := digit_ok (d % 10) (Nat.mod_lt _ (by decide))
  simp only [okB, if_true, decide_eq_true_eq]; omega
theorem Cv.ctx_form (Y M D H I S N : Nat) : formB ⟨(ctx Y M D H I S N).toArray⟩ = true := by
  refine form_iff.2 ⟨by show (ctx Y M D H I S N).toArray.size = 30; rw [List.size_toArray, ctx_len], ?_⟩
  have h : ∀ j ∈ List.range 30, okB (fmB.data.toList.getD j 0).toNat ((ctx Y M D H I S N).getD j 0).toNat = true := by
    have e : List.range 30 = [0, 1, 2, 3, 4, 5, 6, 7, 8, 9, 10, 11, 12, 13, 14, 15, 16, 17, 18, 19, 20, 21, 22, 23, 24, 25, 26, 27, 28, 29] := by decide
    have f : ∀ k, (fmB.data.toList.getD k 0).toNat = (([48, 48, 48, 48, 45, 48, 48, 45, 48, 48, 84, 48, 48, 58, 48, 48, 58, 48, 48, 46, 48, 48, 48, 48, 48, 48, 48, 48, 48, 90] : List UInt8).getD k 0).toNat := fun k => rfl
    rw [e]
    simp only [List.mem_cons, List.not_mem_nil, or_false, forall_eq_or_imp, forall_eq, f, ctx, low, List.cons_append, List.nil_append, List.getD_cons_zero, List.getD_cons_succ]
    refine ⟨dig_okB _, dig_okB _, dig_okB _, dig_okB _, by decide, dig_okB _, dig_okB _, by decide, dig_okB _, dig_okB _, by decide, dig_okB _, dig_okB _, by decide, dig_okB _, dig_okB _, by decide, dig_okB _, dig_okB _, by decide, dig_okB _, dig_okB _, dig_okB _, dig_okB _, dig_okB _, dig_okB _, dig_okB _, dig_okB _, dig_okB _, by decide⟩
  intro j hj
  exact h j (List.mem_range.2 hj)
theorem Cv.parse_text {y m d hh mi s n : Int} (h : okC y m d hh mi s n = true) :
    pE (txtC y m d hh mi s n) = 0 ∧ pF (txtC y m d hh mi s n) 0 4 = y ∧ pF (txtC y m d hh mi s n) 5 7 = m ∧ pF (txtC y m d hh mi s n) 8 10 = d ∧ pF (txtC y m d hh mi s n) 11 13 = hh ∧ pF (txtC y m d hh mi s n) 14 16 = mi ∧ pF (txtC y m d hh mi s n) 17 19 = s ∧ pF (txtC y m d hh mi s n) 20 29 = n := by
  have k := okC_iff.1 h
  have hm := (md_bound (y := y) k.2.2.1 k.2.2.2.1).2
  have e : txtC y m d hh mi s n = ⟨(ctx y.toNat m.toNat d.toNat hh.toNat mi.toNat s.toNat n.toNat).toArray⟩ := if_pos h
  obtain ⟨f1, f2, f3, f4, f5, f6, f7⟩ := ctx_fields y.toNat m.toNat d.toNat hh.toNat mi.toNat s.toNat n.toNat
  have hf := ctx_form y.toNat m.toNat d.toNat hh.toNat mi.toNat s.toNat n.toNat
  rw [← e] at hf
  have g : ∀ a b, fld (txtC y m d hh mi s n) a b = dval 0 (((ctx y.toNat m.toNat d.toNat hh.toNat mi.toNat s.toNat n.toNat).drop a).take (b - a)) := by
    intro a b; rw [e]; rfl
  have v1 : fld (txtC y m d hh mi s n) 0 4 = y := by rw [g, show (4 : Nat) - 0 = 4 from rfl, List.drop_zero, f1, dval_low, Nat.mod_eq_of_lt (by omega)]; omega
  have v2 : fld (txtC y m d hh mi s n) 5 7 = m := by rw [g, show (7 : Nat) - 5 = 2 from rfl, f2, dval_low, Nat.mod_eq_of_lt (by omega)]; omega
  have v3 : fld (txtC y m d hh mi s n) 8 10 = d := by rw [g, show (10 : Nat) - 8 = 2 from rfl, f3, dval_low, Nat.mod_eq_of_lt (by omega)]; omega
  have v4 : fld (txtC y m d hh mi s n) 11 13 = hh := by rw [g, show (13 : Nat) - 11 = 2 from rfl, f4, dval_low, Nat.mod_eq_of_lt (by omega)]; omega
  have v5 : fld (txtC y m d hh mi s n) 14 16 = mi := by rw [g, show (16 : Nat) - 14 = 2 from rfl, f5, dval_low, Nat.mod_eq_of_lt (by omega)]; omega
  have v6 : fld (txtC y m d hh mi s n) 17 19 = s := by rw [g, show (19 : Nat) - 17 = 2 from rfl, f6, dval_low, Nat.mod_eq_of_lt (by omega)]; omega
  have v7 : fld (txtC y m d hh mi s n) 20 29 = n := by rw [g, show (29 : Nat) - 20 = 9 from rfl, f7, dval_low, Nat.mod_eq_of_lt (by omega)]; omega
  have p0 : pE (txtC y m d hh mi s n) = 0 := by
    unfold pE; rw [if_pos hf, v1, v2, v3, v4, v5, v6, v7, chk_ok h]
  exact ⟨p0, (if_pos p0).trans v1, (if_pos p0).trans v2, (if_pos p0).trans v3, (if_pos p0).trans v4, (if_pos p0).trans v5, (if_pos p0).trans v6, (if_pos p0).trans v7⟩
theorem Cv.text_size {y m d hh mi s n : Int} (h : okC y m d hh mi s n = true) : (txtC y m d hh mi s n).size = 30 := by
  rw [show txtC y m d hh mi s n = ⟨(ctx y.toNat m.toNat d.toNat hh.toNat mi.toNat s.toNat n.toNat).toArray⟩ from if_pos h]
  show (ctx y.toNat m.toNat d.toNat hh.toNat mi.toNat s.toNat n.toNat).toArray.size = 30
  rw [List.size_toArray, ctx_len]
end Go.Proofs.YtnhaflnlhcabpaaDoor
