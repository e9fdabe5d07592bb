/- The walk of PtimeBack. -/
import Derived.Test.YtemflgjfoappaabDoorPtmI
import Derived.Test.YtemflgjfoappaabDoorPtmSa
namespace Go.Proofs.YtemflgjfoappaabDoor
open Go.RowKit Fx Pt Wi

theorem Pt.fold_be (l : List Int) : ∀ a : Int, l.foldl (fun n b => n * 256 + b) a = a * ((256 ^ l.length : Nat) : Int) + beVal l := by
  induction l with
  | nil => intro a; simp [beVal]
  | cons x l ih =>
    intro a
    have e : beVal (x :: l) = x * ((256 ^ l.length : Nat) : Int) + beVal l := by
      show l.foldl (fun n b => n * 256 + b) (0 * 256 + x) = _
      rw [ih]; simp
    rw [List.foldl_cons, ih, e, List.length_cons, Nat.pow_succ, Int.natCast_mul, show ((256 : Nat) : Int) = 256 from rfl, Int.add_mul, Int.mul_assoc, Int.mul_comm _ (256 : Int)]
    rw [Int.add_assoc]
theorem Pt.val_be (n : Int) (k : Nat) : beVal (beB n k) = n % ((256 ^ k : Nat) : Int) := by
  induction k with
  | zero => simp [beB, beVal]
  | succ k ih =>
    have e : beVal (beB n (k + 1)) = byteAt n k * ((256 ^ k : Nat) : Int) + beVal (beB n k) := by
      show (beB n k).foldl (fun n b => n * 256 + b) (0 * 256 + byteAt n k) = _
      rw [fold_be, beB_length]; simp
    have hp : (2 : Int) ^ (8 * k) = ((256 ^ k : Nat) : Int) := by
      rw [Int.natCast_pow, Int.pow_mul]; rfl
    have p0 : 0 < ((256 ^ k : Nat) : Int) := by
      have : 0 < 256 ^ k := Nat.pow_pos (by decide)
      omega
    rw [e, ih]
    unfold byteAt
    rw [hp, Nat.pow_succ, Int.natCast_mul]
    generalize ((256 ^ k : Nat) : Int) = P at *
    have q := Int.emod_add_mul_ediv n P
    have r0 := Int.emod_nonneg n (b := P) (by omega)
    have r1 := Int.emod_lt_of_pos n p0
    -- n = (q / 256 * 256 + q % 256) * P + r
    have h : n = (n / P / 256) * (P * ((256 : Nat) : Int)) + ((n / P % 256) * P + n % P) := by
      have q2 := Int.emod_add_mul_ediv (n / P) 256
      have e3 : (n / P / 256) * (P * ((256 : Nat) : Int)) = 256 * (n / P / 256) * P := by
        rw [show ((256 : Nat) : Int) = 256 from rfl, Int.mul_comm P, ← Int.mul_assoc, Int.mul_comm _ (256 : Int)]
      rw [e3, ← Int.add_assoc, ← Int.add_mul]
      rw [show 256 * (n / P / 256) + n / P % 256 = n / P from by omega, Int.mul_comm]
      omega
    have b0 : 0 ≤ n / P % 256 := Int.emod_nonneg _ (by decide)
    have b1 : n / P % 256 ≤ 255 := by have := Int.emod_lt_of_pos (n / P) (b := 256) (by decide); omega
    have c0 : 0 ≤ n / P % 256 * P := Int.mul_nonneg b0 (by omega)
    have c1 : n / P % 256 * P ≤ 255 * P := Int.mul_le_mul_of_nonneg_right b1 (by omega)
    have : n % (P * ((256 : Nat) : Int)) = (n / P % 256) * P + n % P := by
      have hd : 0 < P * ((256 : Nat) : Int) := Int.mul_pos p0 (by decide)
      conv => lhs; rw [h]
      rw [Int.add_comm, Int.add_mul_emod_self_right, Int.emod_eq_of_lt (by omega) (by rw [show ((256 : Nat) : Int) = 256 from rfl]; omega)]
    rw [this]

theorem Pt.dec_enc {s n : Int} (h0 : 0 ≤ s) (h1 : s ≤ 281474976710655) (h2 : 0 ≤ n) (h3 : n < 1000000000) : decE (enc s n) = 0 ∧ decS (enc s n) = s ∧ decN (enc s n) = n := by
  have l6 : (beB s 6).length = 6 := beB_length s 6
  have l4 : (beB n 4).length = 4 := beB_length n 4
  have e1 : dS (enc s n) = s := by
    unfold dS enc
    rw [List.take_append_of_le_length (by omega), List.take_of_length_le (by omega), val_be]
    show s % 281474976710656 = s
    omega
  have e2 : dN (enc s n) = n := by
    unfold dN enc
    rw [List.drop_append_of_le_length (by omega), List.drop_of_length_le (by omega), List.nil_append, List.take_of_length_le (by omega), val_be]
    show n % 4294967296 = n
    omega
  have e : decE (enc s n) = 0 := by
    unfold decE
    rw [enc_len, if_neg (by decide), if_neg (by decide), e1, e2]
    exact chk_yes h0 h1 h2 h3
  exact ⟨e, (if_pos e).trans e1, (if_pos e).trans e2⟩

theorem decode_any' (A : Option Addr) (n c : Nat) (l : List Int) (w : World) (hr : BReads w w.heap.size A n l) (hm : n ≤ 9223372036854775807) :
    Calls Tryd.prog 14 #[.slice A n c] w fun e w' => e = .returned (.tuple #[.agg #[.int .i64 (decS l), .int .i64 (decN l)], .int .i64 (decE l)]) ∧ Below w.heap.size w w' := by
  by_cases h : n = 10
  · subst h; exact decode_ten A c l w hr
  · exact decode_long A n c l w hr.1 hm (by omega)

set_option maxRecDepth 100000 in
theorem ptimeBack_no (s n : Int) (w : World) (ht : Tab w) (he : Errs w) (ho : ok s n = false) :
    Calls Tryd.prog 4 #[.agg #[.int .i64 s, .int .i64 n]] w fun e w' => e = .returned (.bool true) ∧ Below w.heap.size w w' := by
  have HO := Lib.hid ho
  have HK : Hid (chk s n = 3) := Lib.hid (by unfold chk; rw [ho]; rfl)
  have HT : Hid (txt s n = ⟨#[]⟩) := Lib.hid (by unfold txt; rw [ho]; rfl)
  have HE : Hid (timV s n = 0 ∧ timE s n = 3) := Lib.hid ⟨if_neg (by rw [ho]; simp), if_neg (by rw [ho]; simp)⟩
  clear ho
  have X0 := Lib.hid (bx_new w s n)
  have B0 := Lib.hid ((Below.refl w.heap.size w).alloc (Nat.le_refl _) (.cells #[.int .i64 s, .int .i64 n] 23))
  obtain ⟨W0, hW0⟩ : ∃ W, w.alloc (.cells #[.int .i64 s, .int .i64 n] 23) = W := ⟨_, rfl⟩
  have z0 : w.heap.size < (w.alloc (.cells #[.int .i64 s, .int .i64 n] 23)).heap.size := by rw [size_alloc]; omega
  rw [hW0] at X0 B0 z0
  have HW0 := Lib.hid hW0
  have T0 := Lib.hid (ht.below B0.out)
  have E0 := Lib.hid (he.below B0.out)
  clear hW0 ht he
  obtain ⟨x0, x1, _, _, _⟩ := two_cells X0.out
  go_enter Tryd.func4, Tryd.ntmps4
  go_wp2_with fail
  rw [HW0.out]
  refine (pcheck_any s n _).mono ?_
  rintro e w' ⟨rfl, rfl⟩
  rw [HK.out]
  have hw1 := (Below.refl W0.heap.size W0).alloc (Nat.le_refl _) (.cells #[.int .i64 s, .int .i64 n] 23)
  obtain ⟨W1, hW1⟩ : ∃ W, W0.alloc (.cells #[.int .i64 s, .int .i64 n] 23) = W := ⟨_, rfl⟩
  rw [hW1] at hw1
  have HW1 := Lib.hid hW1
  have X1 := Lib.hid (X0.out.below hw1 (by omega))
  have B1 := Lib.hid (B0.out.trans (hw1.mono (by omega)))
  have T1 := Lib.hid (T0.out.below hw1)
  have E1 := Lib.hid (E0.out.below hw1)
  clear hw1 hW1 x0 x1 X0 B0 T0 E0
  obtain ⟨x0, x1, _, _, z1⟩ := two_cells X1.out
  rw [HW1.out]
  go_wp2_with fail
  refine (encode_no s n _ HO.out).mono ?_
  rintro e w2 ⟨rfl, hw2⟩
  have X2 := Lib.hid (X1.out.below hw2 (by omega))
  have B2 := Lib.hid (B1.out.trans (hw2.mono B1.out.size))
  have T2 := Lib.hid (T1.out.below hw2)
  have E2 := Lib.hid (E1.out.below hw2)
  clear hw2 x0 x1 X1 B1 T1 E1
  obtain ⟨x0, x1, _, _, z2⟩ := two_cells X2.out
  go_wp2_with fail
  refine (ptime_any s n _).mono ?_
  rintro e w3 ⟨rfl, hw3⟩
  rw [HE.out.1, HE.out.2]
  have X3 := Lib.hid (X2.out.below hw3 (by omega))
  have B3 := Lib.hid (B2.out.trans (hw3.mono B2.out.size))
  have T3 := Lib.hid (T2.out.below hw3)
  have E3 := Lib.hid (E2.out.below hw3)
  clear hw3 x0 x1 X2 B2 T2 E2
  obtain ⟨x0, x1, _, _, z3⟩ := two_cells X3.out
  go_wp2_with fail
  refine (ptext_any s n _ T3.out).mono ?_
  rintro e w4 ⟨rfl, hw4⟩
  rw [HT.out]
  have X4 := Lib.hid (X3.out.below hw4 (by omega))
  have B4 := Lib.hid (B3.out.trans (hw4.mono B3.out.size))
  have T4 := Lib.hid (T3.out.below hw4)
  have E4 := Lib.hid (E3.out.below hw4)
  clear hw4 x0 x1 X3 B3 T3 E3
  obtain ⟨x0, x1, _, _, z4⟩ := two_cells X4.out
  go_wp2_with fail
  refine (awake4_any _).mono ?_
  rintro e w7 ⟨rfl, hw7⟩
  have B7 := Lib.hid (B4.out.trans (hw7.mono B4.out.size))
  clear hw7
  go_wp2_with fail
  go_ret
  exact ⟨rfl, B7.out⟩

set_option maxHeartbeats 1000000 in
set_option maxRecDepth 100000 in
theorem ptimeBack_yes (s n : Int) (w : World) (ht : Tab w) (he : Errs w) (ho : ok s n = true) :
    Calls Tryd.prog 4 #[.agg #[.int .i64 s, .int .i64 n]] w fun e w' => e = .returned (.bool true) ∧ Below w.heap.size w w' := by
  obtain ⟨s0, s1, n0, n1⟩ := ok_iff.1 ho
  have HO := Lib.hid ho
  have HK := Lib.hid (chk_yes s0 s1 n0 n1)
  have HD := Lib.hid (show decS (enc s n) = s ∧ decN (enc s n) = n ∧ decE (enc s n) = 0 from ⟨(dec_enc s0 s1 n0 n1).2.1, (dec_enc s0 s1 n0 n1).2.2, (dec_enc s0 s1 n0 n1).1⟩)
  have HP : Hid (∀ w, Tab w → Errs w → Calls Tryd.prog 9 #[.string (txt s n)] w fun e w' => e = .returned (.tuple #[.agg #[.int .i64 s, .int .i64 n], .int .i64 0]) ∧ Below w.heap.size w w') := Lib.hid (fun w ht he => by
    obtain ⟨S, rfl⟩ := Int.eq_ofNat_of_zero_le s0
    obtain ⟨N, rfl⟩ := Int.eq_ofNat_of_zero_le n0
    exact parse_yes S N _ w rfl (by omega) (by omega) ht he)
  by_cases hi : ins s n ≤ 8000000000000000000
  · have HE : Hid (timV s n = ins s n ∧ timE s n = 0) := Lib.hid ⟨if_pos ⟨ho, hi⟩, if_pos ⟨ho, hi⟩⟩
    have hi2 : ins s n = (s + 2208988800) * 1000000000 + n := rfl
    obtain ⟨t, hT⟩ : ∃ t, ins s n = t := ⟨_, rfl⟩
    rw [hT] at hi hi2
    have HI := Lib.hid hT
    have HF : Hid (ofS t = s ∧ ofN t = n ∧ ofE t = 0) := Lib.hid (by
      refine ⟨(if_neg (by omega)).trans ?_, (if_neg (by omega)).trans ?_, if_neg (by omega)⟩ <;> omega)
    have hi3 : 2208988800000000000 ≤ t := by omega
    clear ho hT hi2
    have X0 := Lib.hid (bx_new w s n)
    have B0 := Lib.hid ((Below.refl w.heap.size w).alloc (Nat.le_refl _) (.cells #[.int .i64 s, .int .i64 n] 23))
    obtain ⟨W0, hW0⟩ : ∃ W, w.alloc (.cells #[.int .i64 s, .int .i64 n] 23) = W := ⟨_, rfl⟩
    have z0 : w.heap.size < (w.alloc (.cells #[.int .i64 s, .int .i64 n] 23)).heap.size := by rw [size_alloc]; omega
    rw [hW0] at X0 B0 z0
    have HW0 := Lib.hid hW0
    have T0 := Lib.hid (ht.below B0.out)
    have E0 := Lib.hid (he.below B0.out)
    clear hW0 ht he
    obtain ⟨x0, x1, _, _, _⟩ := two_cells X0.out
    go_enter Tryd.func4, Tryd.ntmps4
    go_wp2_with fail
    rw [HW0.out]
    refine (pcheck_any s n _).mono ?_
    rintro e w' ⟨rfl, rfl⟩
    rw [HK.out]
    have hw1 := (Below.refl W0.heap.size W0).alloc (Nat.le_refl _) (.cells #[.int .i64 s, .int .i64 n] 23)
    obtain ⟨W1, hW1⟩ : ∃ W, W0.alloc (.cells #[.int .i64 s, .int .i64 n] 23) = W := ⟨_, rfl⟩
    rw [hW1] at hw1
    have HW1 := Lib.hid hW1
    have X1 := Lib.hid (X0.out.below hw1 (by omega))
    have B1 := Lib.hid (B0.out.trans (hw1.mono (by omega)))
    have T1 := Lib.hid (T0.out.below hw1)
    have E1 := Lib.hid (E0.out.below hw1)
    clear hw1 hW1 x0 x1 X0 B0 T0 E0
    obtain ⟨x0, x1, _, _, z1⟩ := two_cells X1.out
    rw [HW1.out]
    go_wp2_with fail
    refine (encode_ok s n _ HO.out).mono ?_
    rintro e w2 ⟨g, rfl, hg, hB2, hw2⟩
    have Z2 := Lib.hid hB2
    have X2 := Lib.hid (X1.out.below hw2 (by omega))
    have B2 := Lib.hid (B1.out.trans (hw2.mono B1.out.size))
    have T2 := Lib.hid (T1.out.below hw2)
    have E2 := Lib.hid (E1.out.below hw2)
    clear hw2 x0 x1 X1 B1 T1 E1
    obtain ⟨x0, x1, _, _, z2⟩ := two_cells X2.out
    clear hB2
    go_wp2_with fail
    refine (decode_any' (some ⟨g, 0, none⟩) 10 10 (enc s n) _ (by have h := Z2.out.reads (enc_bytes s n) Z2.out.lt; rw [enc_len] at h; exact h) (by decide)).mono ?_
    rintro e w3 ⟨rfl, hw3'⟩
    rw [HD.out.1, HD.out.2.1, HD.out.2.2]
    have hw3 := hw3'.alloc hw3'.size (.cells #[.int .i64 s, .int .i64 n] 23)
    have X3w := Lib.hid (X2.out.below hw3' X2.out.lt)
    have Y3 := Lib.hid (bx_new w3 s n)
    obtain ⟨W3, hW3⟩ : ∃ W, w3.alloc (.cells #[.int .i64 s, .int .i64 n] 23) = W := ⟨_, rfl⟩
    rw [hW3] at hw3 Y3
    have HW3 := Lib.hid hW3
    have X3 := Lib.hid (X2.out.below hw3 (by omega))
    have B3 := Lib.hid (B2.out.trans (hw3.mono B2.out.size))
    have T3 := Lib.hid (T2.out.below hw3)
    have E3 := Lib.hid (E2.out.below hw3)
    clear hw3 x0 x1 X2 B2 T2 E2
    obtain ⟨x0, x1, _, _, z3⟩ := two_cells X3.out
    clear hw3' hW3 Z2 x0 x1 z3
    obtain ⟨x0, x1, _, _, z3⟩ := two_cells X3w.out
    go_wp2_with fail
    rw [HW3.out]
    clear x0 x1 z3 X3w
    obtain ⟨x0, x1, _, _, z3⟩ := two_cells X3.out
    refine (ptext_any s n _ T3.out).mono ?_
    rintro e w4 ⟨rfl, hw4⟩
    have Y4 := Lib.hid (Y3.out.below hw4 Y3.out.lt)
    have X4 := Lib.hid (X3.out.below hw4 (by omega))
    have B4 := Lib.hid (B3.out.trans (hw4.mono B3.out.size))
    have T4 := Lib.hid (T3.out.below hw4)
    have E4 := Lib.hid (E3.out.below hw4)
    clear hw4 x0 x1 X3 B3 T3 E3
    obtain ⟨x0, x1, _, _, z4⟩ := two_cells X4.out
    clear Y3
    go_wp2_with fail
    refine (HP.out _ T4.out E4.out).mono ?_
    rintro e w5 ⟨rfl, hw5'⟩
    have hw5 := hw5'.alloc hw5'.size (.cells #[.int .i64 s, .int .i64 n] 23)
    have Y5w := Lib.hid (Y4.out.below hw5' Y4.out.lt)
    have X5w := Lib.hid (X4.out.below hw5' X4.out.lt)
    have Y5 := Lib.hid (Y4.out.below hw5 Y4.out.lt)
    obtain ⟨W5, hW5⟩ : ∃ W, w5.alloc (.cells #[.int .i64 s, .int .i64 n] 23) = W := ⟨_, rfl⟩
    rw [hW5] at hw5 Y5
    have HW5 := Lib.hid hW5
    have X5 := Lib.hid (X4.out.below hw5 (by omega))
    have B5 := Lib.hid (B4.out.trans (hw5.mono B4.out.size))
    have T5 := Lib.hid (T4.out.below hw5)
    have E5 := Lib.hid (E4.out.below hw5)
    clear hw5 x0 x1 X4 B4 T4 E4
    obtain ⟨x0, x1, _, _, z5⟩ := two_cells X5.out
    clear hw5' hW5 Y4 x0 x1 z5
    obtain ⟨x0, x1, _, _, z5⟩ := two_cells X5w.out
    obtain ⟨y0, y1, _, _, z6⟩ := two_cells Y5w.out
    go_wp2_with fail
    rw [HW5.out]
    clear x0 x1 z5 y0 y1 z6 X5w Y5w
    obtain ⟨x0, x1, _, _, z5⟩ := two_cells X5.out
    refine (ptime_any s n _).mono ?_
    rintro e w6 ⟨rfl, hw6⟩
    have X6 := Lib.hid (X5.out.below hw6 (by omega))
    have B6 := Lib.hid (B5.out.trans (hw6.mono B5.out.size))
    have T6 := Lib.hid (T5.out.below hw6)
    have E6 := Lib.hid (E5.out.below hw6)
    clear hw6 x0 x1 X5 B5 T5 E5
    obtain ⟨x0, x1, _, _, z6⟩ := two_cells X6.out
    rw [HE.out.1, HE.out.2, HI.out]
    go_wp2_with fail
    refine (pof_any t _ (by omega) (by omega)).mono ?_
    rintro e w7 ⟨rfl, hw7'⟩
    rw [HF.out.1, HF.out.2.1, HF.out.2.2]
    have hw7 := hw7'.alloc hw7'.size (.cells #[.int .i64 s, .int .i64 n] 23)
    have X7w := Lib.hid (X6.out.below hw7' X6.out.lt)
    obtain ⟨W7, hW7⟩ : ∃ W, w7.alloc (.cells #[.int .i64 s, .int .i64 n] 23) = W := ⟨_, rfl⟩
    rw [hW7] at hw7
    have HW7 := Lib.hid hW7
    have B7 := Lib.hid (B6.out.trans (hw7.mono B6.out.size))
    clear hw7 hw7' hW7 x0 x1 X6 B6 T6 E6
    obtain ⟨x0, x1, _, _, z7⟩ := two_cells X7w.out
    go_wp2_with fail
    rw [HW7.out]
    refine (awake4_any _).mono ?_
    rintro e w8 ⟨rfl, hw8⟩
    have B8 := Lib.hid (B7.out.trans (hw8.mono B7.out.size))
    clear hw8
    go_wp2_with fail
    go_ret
    exact ⟨rfl, B8.out⟩
  · have HE : Hid (timV s n = 0 ∧ timE s n = 3) := Lib.hid ⟨if_neg (fun h => hi h.2), if_neg (fun h => hi h.2)⟩
    have hi2 : 5791011200 ≤ s := by unfold ins at hi; omega
    clear ho hi
    have X0 := Lib.hid (bx_new w s n)
    have B0 := Lib.hid ((Below.refl w.heap.size w).alloc (Nat.le_refl _) (.cells #[.int .i64 s, .int .i64 n] 23))
    obtain ⟨W0, hW0⟩ : ∃ W, w.alloc (.cells #[.int .i64 s, .int .i64 n] 23) = W := ⟨_, rfl⟩
    have z0 : w.heap.size < (w.alloc (.cells #[.int .i64 s, .int .i64 n] 23)).heap.size := by rw [size_alloc]; omega
    rw [hW0] at X0 B0 z0
    have HW0 := Lib.hid hW0
    have T0 := Lib.hid (ht.below B0.out)
    have E0 := Lib.hid (he.below B0.out)
    clear hW0 ht he
    obtain ⟨x0, x1, _, _, _⟩ := two_cells X0.out
    go_enter Tryd.func4, Tryd.ntmps4
    go_wp2_with fail
    rw [HW0.out]
    refine (pcheck_any s n _).mono ?_
    rintro e w' ⟨rfl, rfl⟩
    rw [HK.out]
    have hw1 := (Below.refl W0.heap.size W0).alloc (Nat.le_refl _) (.cells #[.int .i64 s, .int .i64 n] 23)
    obtain ⟨W1, hW1⟩ : ∃ W, W0.alloc (.cells #[.int .i64 s, .int .i64 n] 23) = W := ⟨_, rfl⟩
    rw [hW1] at hw1
    have HW1 := Lib.hid hW1
    have X1 := Lib.hid (X0.out.below hw1 (by omega))
    have B1 := Lib.hid (B0.out.trans (hw1.mono (by omega)))
    have T1 := Lib.hid (T0.out.below hw1)
    have E1 := Lib.hid (E0.out.below hw1)
    clear hw1 hW1 x0 x1 X0 B0 T0 E0
    obtain ⟨x0, x1, _, _, z1⟩ := two_cells X1.out
    rw [HW1.out]
    go_wp2_with fail
    refine (encode_ok s n _ HO.out).mono ?_
    rintro e w2 ⟨g, rfl, hg, hB2, hw2⟩
    have Z2 := Lib.hid hB2
    have X2 := Lib.hid (X1.out.below hw2 (by omega))
    have B2 := Lib.hid (B1.out.trans (hw2.mono B1.out.size))
    have T2 := Lib.hid (T1.out.below hw2)
    have E2 := Lib.hid (E1.out.below hw2)
    clear hw2 x0 x1 X1 B1 T1 E1
    obtain ⟨x0, x1, _, _, z2⟩ := two_cells X2.out
    clear hB2
    go_wp2_with fail
    refine (decode_any' (some ⟨g, 0, none⟩) 10 10 (enc s n) _ (by have h := Z2.out.reads (enc_bytes s n) Z2.out.lt; rw [enc_len] at h; exact h) (by decide)).mono ?_
    rintro e w3 ⟨rfl, hw3'⟩
    rw [HD.out.1, HD.out.2.1, HD.out.2.2]
    have hw3 := hw3'.alloc hw3'.size (.cells #[.int .i64 s, .int .i64 n] 23)
    have X3w := Lib.hid (X2.out.below hw3' X2.out.lt)
    have Y3 := Lib.hid (bx_new w3 s n)
    obtain ⟨W3, hW3⟩ : ∃ W, w3.alloc (.cells #[.int .i64 s, .int .i64 n] 23) = W := ⟨_, rfl⟩
    rw [hW3] at hw3 Y3
    have HW3 := Lib.hid hW3
    have X3 := Lib.hid (X2.out.below hw3 (by omega))
    have B3 := Lib.hid (B2.out.trans (hw3.mono B2.out.size))
    have T3 := Lib.hid (T2.out.below hw3)
    have E3 := Lib.hid (E2.out.below hw3)
    clear hw3 x0 x1 X2 B2 T2 E2
    obtain ⟨x0, x1, _, _, z3⟩ := two_cells X3.out
    clear hw3' hW3 Z2 x0 x1 z3
    obtain ⟨x0, x1, _, _, z3⟩ := two_cells X3w.out
    go_wp2_with fail
    rw [HW3.out]
    clear x0 x1 z3 X3w
    obtain ⟨x0, x1, _, _, z3⟩ := two_cells X3.out
    refine (ptext_any s n _ T3.out).mono ?_
    rintro e w4 ⟨rfl, hw4⟩
    have Y4 := Lib.hid (Y3.out.below hw4 Y3.out.lt)
    have X4 := Lib.hid (X3.out.below hw4 (by omega))
    have B4 := Lib.hid (B3.out.trans (hw4.mono B3.out.size))
    have T4 := Lib.hid (T3.out.below hw4)
    have E4 := Lib.hid (E3.out.below hw4)
    clear hw4 x0 x1 X3 B3 T3 E3
    obtain ⟨x0, x1, _, _, z4⟩ := two_cells X4.out
    clear Y3
    go_wp2_with fail
    refine (HP.out _ T4.out E4.out).mono ?_
    rintro e w5 ⟨rfl, hw5'⟩
    have hw5 := hw5'.alloc hw5'.size (.cells #[.int .i64 s, .int .i64 n] 23)
    have Y5w := Lib.hid (Y4.out.below hw5' Y4.out.lt)
    have X5w := Lib.hid (X4.out.below hw5' X4.out.lt)
    have Y5 := Lib.hid (Y4.out.below hw5 Y4.out.lt)
    obtain ⟨W5, hW5⟩ : ∃ W, w5.alloc (.cells #[.int .i64 s, .int .i64 n] 23) = W := ⟨_, rfl⟩
    rw [hW5] at hw5 Y5
    have HW5 := Lib.hid hW5
    have X5 := Lib.hid (X4.out.below hw5 (by omega))
    have B5 := Lib.hid (B4.out.trans (hw5.mono B4.out.size))
    have T5 := Lib.hid (T4.out.below hw5)
    have E5 := Lib.hid (E4.out.below hw5)
    clear hw5 x0 x1 X4 B4 T4 E4
    obtain ⟨x0, x1, _, _, z5⟩ := two_cells X5.out
    clear hw5' hW5 Y4 x0 x1 z5
    obtain ⟨x0, x1, _, _, z5⟩ := two_cells X5w.out
    obtain ⟨y0, y1, _, _, z6⟩ := two_cells Y5w.out
    go_wp2_with fail
    rw [HW5.out]
    clear x0 x1 z5 y0 y1 z6 X5w Y5w
    obtain ⟨x0, x1, _, _, z5⟩ := two_cells X5.out
    refine (ptime_any s n _).mono ?_
    rintro e w6 ⟨rfl, hw6⟩
    have X6 := Lib.hid (X5.out.below hw6 (by omega))
    have B6 := Lib.hid (B5.out.trans (hw6.mono B5.out.size))
    have T6 := Lib.hid (T5.out.below hw6)
    have E6 := Lib.hid (E5.out.below hw6)
    clear hw6 x0 x1 X5 B5 T5 E5
    obtain ⟨x0, x1, _, _, z6⟩ := two_cells X6.out
    rw [HE.out.1, HE.out.2]
    go_wp2_with fail
    refine (awake4_any _).mono ?_
    rintro e w8 ⟨rfl, hw8⟩
    have B8 := Lib.hid (B6.out.trans (hw8.mono B6.out.size))
    clear hw8
    go_wp2_with fail
    go_ret
    exact ⟨rfl, B8.out⟩

theorem ptimeBack_walk (s n : Int) (w : World) (ht : Tab w) (he : Errs w) :
    Calls Tryd.prog 4 #[.agg #[.int .i64 s, .int .i64 n]] w fun e w' => e = .returned (.bool true) ∧ Below w.heap.size w w' := by
  rcases ho : ok s n with _ | _
  · exact ptimeBack_no s n w ht he ho
  · exact ptimeBack_yes s n w ht he ho
end Go.Proofs.YtemflgjfoappaabDoor
