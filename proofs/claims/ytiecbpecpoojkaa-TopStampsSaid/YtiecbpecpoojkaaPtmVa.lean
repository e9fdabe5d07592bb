/- Contracts of layer 4: what was encoded is decoded. -/
import Derived.Test.YtiecbpecpoojkaaPtmI
namespace Go.Proofs.Ytiecbpecpoojkaa
open Go.RowKit Fx Pt Wi

theorem Pt.fold_be (l : List Int) : ∀ a : Int, l.foldl (fun n b => n * 256 + b) a = a * ((256 ^ l.length : Nat) : Int) + beVal l := by
  induction l with
  | nil => intro a; simp [beVal]
  | cons x l ih =>
    intro a
    have e : beVal (x :: l) = x * ((256 ^ l.length : Nat) : Int) + beVal l := by
      show l.foldl (fun n b => n * 256 + b) (0 * 256 + x) = _
      rw [ih]; simp
    rw [List.foldl_cons, ih, e, List.length_cons, Nat.pow_succ, Int.natCast_mul, show ((256 : Nat) : Int) = 256 from rfl, Int.add_mul, Int.mul_assoc, Int.mul_comm _ (256 : Int)]
    rw [Int.add_assoc]
theorem Pt.val_be (n : Int) (k : Nat) : beVal (beB n k) = n % ((256 ^ k : Nat) : Int) := by
  induction k with
  | zero => simp [beB, beVal]
  | succ k ih =>
    have e : beVal (beB n (k + 1)) = byteAt n k * ((256 ^ k : Nat) : Int) + beVal (beB n k) := by
      show (beB n k).foldl (fun n b => n * 256 + b) (0 * 256 + byteAt n k) = _
      rw [fold_be, beB_length]; simp
    have hp : (2 : Int) ^ (8 * k) = ((256 ^ k : Nat) : Int) := by
      rw [Int.natCast_pow, Int.pow_mul]; rfl
    have p0 : 0 < ((256 ^ k : Nat) : Int) := by
      have : 0 < 256 ^ k := Nat.pow_pos (by decide)
      omega
    rw [e, ih]
    unfold byteAt
    rw [hp, Nat.pow_succ, Int.natCast_mul]
    generalize ((256 ^ k : Nat) : Int) = P at *
    have q := Int.emod_add_mul_ediv n P
    have r0 := Int.emod_nonneg n (b := P) (by omega)
    have r1 := Int.emod_lt_of_pos n p0
    -- n = (q / 256 * 256 + q % 256) * P + r
    have h : n = (n / P / 256) * (P * ((256 : Nat) : Int)) + ((n / P % 256) * P + n % P) := by
      have q2 := Int.emod_add_mul_ediv (n / P) 256
      have e3 : (n / P / 256) * (P * ((256 : Nat) : Int)) = 256 * (n / P / 256) * P := by
        rw [show ((256 : Nat) : Int) = 256 from rfl, Int.mul_comm P, ← Int.mul_assoc, Int.mul_comm _ (256 : Int)]
      rw [e3, ← Int.add_assoc, ← Int.add_mul]
      rw [show 256 * (n / P / 256) + n / P % 256 = n / P from by omega, Int.mul_comm]
      omega
    have b0 : 0 ≤ n / P % 256 := Int.emod_nonneg _ (by decide)
    have b1 : n / P % 256 ≤ 255 := by have := Int.emod_lt_of_pos (n / P) (b := 256) (by decide); omega
    have c0 : 0 ≤ n / P % 256 * P := Int.mul_nonneg b0 (by omega)
    have c1 : n / P % 256 * P ≤ 255 * P := Int.mul_le_mul_of_nonneg_right b1 (by omega)
    have : n % (P * ((256 : Nat) : Int)) = (n / P % 256) * P + n % P := by
      have hd : 0 < P * ((256 : Nat) : Int) := Int.mul_pos p0 (by decide)
      conv => lhs; rw [h]
      rw [Int.add_comm, Int.add_mul_emod_self_right, Int.emod_eq_of_lt (by omega) (by rw [show ((256 : Nat) : Int) = 256 from rfl]; omega)]
    rw [this]

theorem Pt.dec_enc {s n : Int} (h0 : 0 ≤ s) (h1 : s ≤ 281474976710655) (h2 : 0 ≤ n) (h3 : n < 1000000000) : decE (enc s n) = 0 ∧ decS (enc s n) = s ∧ decN (enc s n) = n := by
  have l6 : (beB s 6).length = 6 := beB_length s 6
  have l4 : (beB n 4).length = 4 := beB_length n 4
  have e1 : dS (enc s n) = s := by
    unfold dS enc
    rw [List.take_append_of_le_length (by omega), List.take_of_length_le (by omega), val_be]
    show s % 281474976710656 = s
    omega
  have e2 : dN (enc s n) = n := by
    unfold dN enc
    rw [List.drop_append_of_le_length (by omega), List.drop_of_length_le (by omega), List.nil_append, List.take_of_length_le (by omega), val_be]
    show n % 4294967296 = n
    omega
  have e : decE (enc s n) = 0 := by
    unfold decE
    rw [enc_len, if_neg (by decide), if_neg (by decide), e1, e2]
    exact chk_yes h0 h1 h2 h3
  exact ⟨e, (if_pos e).trans e1, (if_pos e).trans e2⟩

theorem decode_any' (A : Option Addr) (n c : Nat) (l : List Int) (w : World) (hr : BReads w w.heap.size A n l) (hm : n ≤ 9223372036854775807) :
    Calls Try.prog 10 #[.slice A n c] w fun e w' => e = .returned (.tuple #[.agg #[.int .i64 (decS l), .int .i64 (decN l)], .int .i64 (decE l)]) ∧ Below w.heap.size w w' := by
  by_cases h : n = 10
  · subst h; exact decode_ten A c l w hr
  · exact decode_long A n c l w hr.1 hm (by omega)

end Go.Proofs.Ytiecbpecpoojkaa
