/- Contracts of layer 4: the specification's Text. -/
import Derived.Test.YtemflgjfoappaabDoorPtmU
import Derived.Laws.BytesArg
import Derived.Deep.RegionHeld3
namespace Go.Proofs.YtemflgjfoappaabDoor
open Go.RowKit Fx Pt Wi

/-- What the digits' loop leaves. -/
def Pt.Done (K n : Nat) (w : World) (e : Ending) (w' : World) : Prop := ∃ (i : Nat) (y : ByteArray), e = .returned (.string y) ∧ y = ⟨(low K i).toArray⟩ ∧ n ≤ i ∧ K < 10 ^ i ∧ (i = 0 ∨ i ≤ n ∨ 10 ^ (i - 1) ≤ K) ∧ Below w.heap.size w w'

theorem Pt.lim {K n i : Nat} (hK : K < 1000000000000000) (hn : n ≤ 9) (h : i = 0 ∨ i ≤ n ∨ 10 ^ (i - 1) ≤ K) : i ≤ 15 := by
  rcases h with h | h | h
  · omega
  · omega
  · rcases Nat.lt_or_ge 15 i with hlt | hge
    · have := Nat.pow_le_pow_right (show 0 < 10 by decide) (show 15 ≤ i - 1 by omega)
      omega
    · exact hge
theorem Pt.half (K i : Nat) : K / 10 ^ (i + 1) = K / 10 ^ i / 10 := by rw [Nat.pow_succ, Nat.div_div_eq_div_mul]

set_option maxRecDepth 100000 in
theorem digits_any (K n : Nat) (w : World) (hK : K < 1000000000000000) (hn : n ≤ 9) :
    Calls Tryd.prog 22 #[.int .i64 K, .int .i64 n] w (Done K n w) := by
  go_enter Tryd.func22, Tryd.ntmps22
  go_wp2_with fail
  go_loopw [0, 5, 6] (fun kv sv iv wr => ∃ (i k : Nat) (y : ByteArray), iv = .int .i64 i ∧ kv = .int .i64 k ∧ sv = .string y ∧ i ≤ 15 ∧ y.size = i ∧ k < 1000000000000000 ∧ Hid (k = K / 10 ^ i ∧ y = ⟨(low K i).toArray⟩ ∧ (i = 0 ∨ i ≤ n ∨ 10 ^ (i - 1) ≤ K)) ∧ Hid (Below w.heap.size w wr)) (fun kv _ iv _ => (n - (intOf iv).toNat) + (intOf kv).toNat)
  case atStart => exact ⟨0, K, ⟨#[]⟩, rfl, rfl, rfl, by omega, rfl, hK, Lib.hid ⟨by simp, rfl, .inl rfl⟩, Lib.hid (Below.refl _ _)⟩
  case round =>
    obtain ⟨i, k, y, rfl, rfl, rfl, hi, hy, hk, HI, HW⟩ := hrel
    by_cases hc : i < n ∨ 0 < k
    · have hj : i + 1 = 0 ∨ i + 1 ≤ n ∨ 10 ^ (i + 1 - 1) ≤ K := by
        rcases hc with hc | hc
        · exact .inr (.inl (by omega))
        · refine .inr (.inr ?_)
          rw [HI.out.1] at hc
          exact (Nat.div_pos_iff.1 hc).2
      have hi' := lim hK hn hj
      have hd : Hid (k / 10 = K / 10 ^ (i + 1)) := Lib.hid (by rw [half, ← HI.out.1])
      obtain ⟨d, hdd⟩ : ∃ d : Nat, 48 + k % 10 = d := ⟨_, rfl⟩
      have hdi : (48 : Int) + (k : Int) % 10 = (d : Int) := by omega
      have hd0 : d ≤ 57 := by omega
      have hcv := run_convert_bytes_arg (P := Tryd.prog) (wr.alloc (.cells #[.int .u8 d] 5)) 31 5 Tryd.underlying31 Tryd.underlying5 wr.heap.size 0 1 1 [(d : Int)] rfl (fun j hj => by
        obtain rfl : j = 0 := by omega
        exact (bblk_new wr [(d : Int)]).cell (i := 0) (by simp)) 9 Tryd.underlying9
      obtain ⟨x, hx⟩ : ∃ x : ByteArray, strOfNums [(d : Int)] = x := ⟨_, rfl⟩
      have hxs : x.size = 1 := by rw [← hx]; rfl
      have HN : Hid (x ++ y = ⟨(low K (i + 1)).toArray⟩) := Lib.hid (by
        rw [HI.out.2.1, ← hx, show strOfNums [(d : Int)] = (⟨([UInt8.ofNat d] : List UInt8).toArray⟩ : ByteArray) from rfl, mk_append, ← hdd, HI.out.1]
        rfl)
      have HJ := Lib.hid hj
      have HW' : Hid (Below w.heap.size w (wr.alloc (.cells #[.int .u8 d] 5))) := Lib.hid (HW.out.alloc HW.out.size _)
      have hsz : (x ++ y).size = i + 1 := by rw [ByteArray.size_append]; omega
      rw [hx] at hcv
      clear hj hx hdd
      by_cases hlt : i < n
      · clear hc
        go_wp2_with fail
        go_roundw
        case rel => exact ⟨i + 1, k / 10, x ++ y, by go_num, by go_num, rfl, hi', hsz, by omega, Lib.hid ⟨hd.out, HN.out, HJ.out⟩, HW'⟩
        case measure => simp [intOf]; omega
      · have hk0 : 0 < k := by omega
        clear hc
        go_wp2_with fail
        go_roundw
        case rel => exact ⟨i + 1, k / 10, x ++ y, by go_num, by go_num, rfl, hi', hsz, by omega, Lib.hid ⟨hd.out, HN.out, HJ.out⟩, HW'⟩
        case measure => simp [intOf]; omega
    · have hin : n ≤ i := by omega
      have hk0 : k = 0 := by omega
      have hlt : ¬ i < n := by omega
      have HL : Hid (K < 10 ^ i) := Lib.hid (by
        have h := HI.out.1
        rw [hk0] at h
        rcases Nat.lt_or_ge K (10 ^ i) with h1 | h1
        · exact h1
        · have := Nat.div_pos h1 (Nat.pow_pos (show 0 < 10 by decide)); omega)
      subst hk0
      clear hc
      go_wp2_with fail
      go_ret
      exact ⟨i, y, rfl, HI.out.2.1, hin, HL.out, HI.out.2.2, HW.out⟩

theorem digits_nine (K : Nat) (w : World) (hK : K < 1000000000) :
    Calls Tryd.prog 22 #[.int .i64 K, .int .i64 9] w fun e w' => e = .returned (.string ⟨(low K 9).toArray⟩) ∧ Below w.heap.size w w' := by
  refine (digits_any K 9 w (by omega) (by decide)).mono ?_
  rintro e w' ⟨i, y, rfl, rfl, h1, h2, h3, h4⟩
  have : i = 9 := by
    rcases h3 with h3 | h3 | h3
    · omega
    · omega
    · rcases Nat.lt_or_ge 9 i with hlt | hge
      · have := Nat.pow_le_pow_right (show 0 < 10 by decide) (show 9 ≤ i - 1 by omega)
        omega
      · omega
  rw [this]
  exact ⟨rfl, h4⟩
theorem digits_one (K : Nat) (w : World) (hK : K < 1000000000000000) :
    Calls Tryd.prog 22 #[.int .i64 K, .int .i64 1] w fun e w' => e = .returned (.string ⟨(Lib.decDigits K).toArray⟩) ∧ Below w.heap.size w w' := by
  refine (digits_any K 1 w hK (by decide)).mono ?_
  rintro e w' ⟨i, y, rfl, rfl, h1, h2, h3, h4⟩
  rw [low_dec_eq h1 h2 (by rcases h3 with h3 | h3 | h3 <;> omega)]
  exact ⟨rfl, h4⟩

set_option maxRecDepth 100000 in
theorem prtext_any (s n : Int) (w : World) :
    Calls Tryd.prog 7 #[.agg #[.int .i64 s, .int .i64 n]] w fun e w' => e = .returned (.string (txt s n)) ∧ Below w.heap.size w w' := by
  have B0 := Lib.hid (((Below.refl w.heap.size w).alloc (Nat.le_refl _) (.cells #[.int .i64 s, .int .i64 n] 23)).alloc (by simp) (.cells #[.int .i64 s, .int .i64 n] 23))
  have X0 : Hid (Bx ((w.alloc (.cells #[.int .i64 s, .int .i64 n] 23)).alloc (.cells #[.int .i64 s, .int .i64 n] 23)) w.heap.size s n) := Lib.hid ((Below.heap_alloc _ _ _ (bx_new w s n).lt).trans (bx_new w s n))
  rcases ho : ok s n with _ | _
  · have HT : Hid (txt s n = ⟨#[]⟩) := Lib.hid (by unfold txt; rw [ho]; rfl)
    have HK : Hid (chk s n = 3) := Lib.hid (by unfold chk; rw [ho]; rfl)
    clear ho
    go_enter Tryd.func7, Tryd.ntmps7
    go_wp2_with fail
    refine (prcheck_any s n _).mono ?_
    rintro e w' ⟨rfl, rfl⟩
    rw [HK.out]
    go_wp2_with fail
    go_ret
    exact ⟨ret_str HT.out.symm, B0.out⟩
  · obtain ⟨s0, s1, n0, n1⟩ := ok_iff.1 ho
    have HK := Lib.hid (chk_yes s0 s1 n0 n1)
    obtain ⟨S, rfl⟩ := Int.eq_ofNat_of_zero_le s0
    obtain ⟨N, rfl⟩ := Int.eq_ofNat_of_zero_le n0
    obtain ⟨v, hv⟩ : ∃ v : ByteArray, (⟨(low N 9).toArray⟩ : ByteArray) = v := ⟨_, rfl⟩
    obtain ⟨y, hy⟩ : ∃ y : ByteArray, (⟨(Lib.decDigits S).toArray⟩ : ByteArray) = y := ⟨_, rfl⟩
    have hvs : v.size ≤ 9 := by rw [← hv]; simp [ByteArray.size, low_len]
    have hys : y.size ≤ 20 := by
      have := dec_le 20 S (by decide) (by omega)
      rw [← hy]; simpa [ByteArray.size] using this
    obtain ⟨u, hu⟩ : ∃ u : ByteArray, y ++ ⟨#[46]⟩ = u := ⟨_, rfl⟩
    have hus : u.size ≤ 21 := by rw [← hu, ByteArray.size_append]; show y.size + 1 ≤ 21; omega
    have add1 : ∀ w : World, (Op.stringOp .add y ⟨#[46]⟩).run Tryd.prog w = .ok (.string u) w := fun w => by
      rw [run_string_add_sum (w := w) y ⟨#[46]⟩ (by show y.size + 1 ≤ _; omega), hu]
    obtain ⟨o, ho'⟩ : ∃ o : ByteArray, u ++ v = o := ⟨_, rfl⟩
    have add2 : ∀ w : World, (Op.stringOp .add u v).run Tryd.prog w = .ok (.string o) w := fun w => by
      rw [run_string_add_sum (w := w) u v (by omega), ho']
    have HF : Hid (txt S N = o) := Lib.hid (by
      unfold txt
      rw [← ho', ← hu, ho, ← hy, ← hv, show (⟨#[46]⟩ : ByteArray) = ⟨([46] : List UInt8).toArray⟩ from rfl, mk_append, mk_append]
      simp [ptL])
    have HV := Lib.hid hv
    have HY := Lib.hid hy
    clear ho hv hy hvs hys hus hu ho'
    go_enter Tryd.func7, Tryd.ntmps7
    go_wp2_with fail
    refine (prcheck_any S N _).mono ?_
    rintro e w' ⟨rfl, rfl⟩
    rw [HK.out]
    obtain ⟨W0, hW0⟩ : ∃ W, (w.alloc (.cells #[.int .i64 S, .int .i64 N] 23)).alloc (.cells #[.int .i64 S, .int .i64 N] 23) = W := ⟨_, rfl⟩
    rw [hW0] at B0 X0
    have HW0 := Lib.hid hW0
    clear hW0
    obtain ⟨x0, x1, _, _, _⟩ := two_cells X0.out
    have z0 : w.heap.size + 1 < W0.heap.size := by have := HW0.out; rw [← this]; simp
    go_wp2_with fail
    rw [HW0.out]
    go_region_held3 (fun w' => w'.cell? ⟨w.heap.size, 0, none⟩ = some (.int .i64 S) ∧ w'.cell? ⟨w.heap.size, 1, none⟩ = some (.int .i64 N)) (go_keep)
      (first
        | (go_at_call_of 22 (Value.int .i64 (S : Int)); refine (digits_one S _ ?_).mono ?_; omega; rintro e w1 ⟨rfl, hw1⟩; rw [HY.out]; have hw1' : Below W0.heap.size W0 w1 := ⟨hw1.os, hw1.tape, hw1.output, hw1.size, hw1.block⟩; have X1 := Lib.hid (X0.out.below hw1' (by omega)); have B1 := Lib.hid (B0.out.trans (hw1'.mono (by omega))); have z1 := hw1'.size; obtain ⟨x10, x11, _, _, _⟩ := two_cells X1.out; clear hw1 hw1' B0)
        | (go_at_call_of 22 (Value.int .i64 (N : Int)); refine (digits_nine N _ ?_).mono ?_; omega; rintro e w2 ⟨rfl, hw2⟩; rw [HV.out]; have X2 := Lib.hid (X1.out.below hw2 (by omega)); have B2 := Lib.hid (B1.out.trans (hw2.mono (by omega))); obtain ⟨x20, x21, _, _, _⟩ := two_cells X2.out; clear hw2 B1))
    go_wp2_with fail
    go_ret
    exact ⟨ret_str HF.out.symm, B2.out⟩
end Go.Proofs.YtemflgjfoappaabDoor
