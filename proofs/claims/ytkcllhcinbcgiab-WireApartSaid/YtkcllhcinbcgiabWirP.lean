/- The walk of WireSigned. -/
import Derived.Test.YtkcllhcinbcgiabWirK
namespace Go.Proofs.Ytkcllhcinbcgiab
open Go.RowKit Wi

theorem small_tmod (x : Int) : ∃ t : Nat, t ≤ 7 ∧ (IntKind.u64.wrap x).tmod 8 = (t : Int) := by
  have h : 0 ≤ IntKind.u64.wrap x := by rw [IntKind.wrap_u64]; omega
  rw [Int.tmod_eq_emod_of_nonneg h]
  exact ⟨(IntKind.u64.wrap x % 8).toNat, by omega, by omega⟩

/-- The number that Int must return, and the bytes that say it. -/
theorem Wi.signed_parts (n : Int) {s : Nat} (h1 : 1 ≤ s) (h8 : s ≤ 8) :
    ∃ N U : Int, wrap64 (n * 2 ^ (64 - 8 * s)) / 2 ^ (64 - 8 * s) = N ∧ IntKind.u64.wrap (IntKind.u64.wrap N * 2 ^ (64 - 8 * s)) / 2 ^ (64 - 8 * s) = U ∧
      -9223372036854775808 ≤ N ∧ N ≤ 9223372036854775807 ∧ 0 ≤ U ∧ U ≤ 18446744073709551615 ∧ U < ((256 ^ s : Nat) : Int) ∧ sgn U s = N ∧ U / 2 ^ (8 * s) = 0 := by
  refine ⟨_, _, rfl, rfl, ?_⟩
  unfold sgn wrap64
  simp only [IntKind.wrap_u64]
  obtain rfl | rfl | rfl | rfl | rfl | rfl | rfl | rfl : s = 1 ∨ s = 2 ∨ s = 3 ∨ s = 4 ∨ s = 5 ∨ s = 6 ∨ s = 7 ∨ s = 8 := by omega
  all_goals
    simp only [Nat.reduceSub, Nat.reduceMul, Int.reducePow, Nat.reducePow]
    refine ⟨by omega, by omega, by omega, by omega, by omega, ?_, by omega⟩
    split <;> omega

theorem Wi.fold_add (l : List Int) : ∀ a : Int, l.foldl (fun n b => n * 256 + b) a = a * ((256 ^ l.length : Nat) : Int) + beVal l := by
  induction l with
  | nil => intro a; simp [beVal]
  | cons x l ih =>
    intro a
    have e : beVal (x :: l) = x * ((256 ^ l.length : Nat) : Int) + beVal l := by
      show l.foldl (fun n b => n * 256 + b) (0 * 256 + x) = _
      rw [ih]; simp
    rw [List.foldl_cons, ih, e, List.length_cons, Nat.pow_succ, Int.natCast_mul, show ((256 : Nat) : Int) = 256 from rfl, Int.add_mul, Int.mul_assoc, Int.mul_comm _ (256 : Int)]
    rw [Int.add_assoc]
/-- The bytes of a number are read back. -/
theorem Wi.beVal_beB (n : Int) (k : Nat) : beVal (beB n k) = n % ((256 ^ k : Nat) : Int) := by
  induction k with
  | zero => simp [beB, beVal]
  | succ k ih =>
    have e : beVal (beB n (k + 1)) = byteAt n k * ((256 ^ k : Nat) : Int) + beVal (beB n k) := by
      show (beB n k).foldl (fun n b => n * 256 + b) (0 * 256 + byteAt n k) = _
      rw [fold_add, beB_length]; simp
    have hp : (2 : Int) ^ (8 * k) = ((256 ^ k : Nat) : Int) := by
      rw [Int.natCast_pow, Int.pow_mul]; rfl
    have p0 : 0 < ((256 ^ k : Nat) : Int) := by
      have : 0 < 256 ^ k := Nat.pow_pos (by decide)
      omega
    rw [e, ih]
    unfold byteAt
    rw [hp, Nat.pow_succ, Int.natCast_mul]
    generalize ((256 ^ k : Nat) : Int) = P at *
    have q := Int.emod_add_mul_ediv n P
    have r0 := Int.emod_nonneg n (b := P) (by omega)
    have r1 := Int.emod_lt_of_pos n p0
    -- n = (q / 256 * 256 + q % 256) * P + r
    have h : n = (n / P / 256) * (P * ((256 : Nat) : Int)) + ((n / P % 256) * P + n % P) := by
      have q2 := Int.emod_add_mul_ediv (n / P) 256
      have e3 : (n / P / 256) * (P * ((256 : Nat) : Int)) = 256 * (n / P / 256) * P := by
        rw [show ((256 : Nat) : Int) = 256 from rfl, Int.mul_comm P, ← Int.mul_assoc, Int.mul_comm _ (256 : Int)]
      rw [e3, ← Int.add_assoc, ← Int.add_mul]
      rw [show 256 * (n / P / 256) + n / P % 256 = n / P from by omega, Int.mul_comm]
      omega
    have b0 : 0 ≤ n / P % 256 := Int.emod_nonneg _ (by decide)
    have b1 : n / P % 256 ≤ 255 := by have := Int.emod_lt_of_pos (n / P) (b := 256) (by decide); omega
    have c0 : 0 ≤ n / P % 256 * P := Int.mul_nonneg b0 (by omega)
    have c1 : n / P % 256 * P ≤ 255 * P := Int.mul_le_mul_of_nonneg_right b1 (by omega)
    have : n % (P * ((256 : Nat) : Int)) = (n / P % 256) * P + n % P := by
      have hd : 0 < P * ((256 : Nat) : Int) := Int.mul_pos p0 (by decide)
      conv => lhs; rw [h]
      rw [Int.add_comm, Int.add_mul_emod_self_right, Int.emod_eq_of_lt (by omega) (by rw [show ((256 : Nat) : Int) = 256 from rfl]; omega)]
    rw [this]
theorem Wi.beB_bytes (n : Int) (k : Nat) : Bytes (beB n k) := by
  induction k with
  | zero => intro x hx; simp [beB] at hx
  | succ k ih =>
    intro x hx
    rcases List.mem_cons.1 hx with rfl | hx
    · unfold byteAt; omega
    · exact ih x hx

theorem PRd.other {w w' : World} {g k : Nat} {l : List Int} {err : Int} (h : PRd w g l err) (hg : w.grownBy w' (some k)) (hk : g < k) : PRd w' g l err := by
  obtain ⟨A, n, c, hh, hr, hnc, hcm, hA0⟩ := h
  have hlt := (two_cells hh).2.2.2.2
  exact ⟨A, n, c, (hg.block g hlt (fun e => by injection e with e; omega)).trans hh, hr.keep fun p hp => World.cell?_of_block (hg.block p.block (by omega) (fun e => by injection e with e; omega)), hnc, hcm, hA0⟩

set_option maxRecDepth 100000 in
theorem pnew2_any (A : Option Addr) (n c : Nat) (l : List Int) (w : World) (hr : BReads w w.heap.size A n l) (hm : n ≤ 140737488351232) :
    Calls Try.prog 7 #[.slice A n c] w fun e w' =>
      ∃ g, e = .returned (.pointer (some ⟨g, 0, none⟩)) ∧ w.heap.size ≤ g ∧ PRd w' g l 0 ∧ Below w.heap.size w w' ∧ g < w'.heap.size ∧ ∀ w'', (∀ k, w.heap.size ≤ k → k < w'.heap.size → w''.heap[k]? = w'.heap[k]?) → PRd w'' g l 0 := by
  obtain ⟨i0, hi0, hz0, hz1, hz2⟩ := info_parts info_u8
  have S1 := Lib.hid (show (l.map (Value.int .u8)).length = Nat.min n n by rw [List.length_map, hr.1]; exact (Nat.min_self n).symm)
  have S3 := Lib.hid (show 0 + (l.map (Value.int .u8)).length ≤ ((List.replicate n 0).map (Value.int .u8)).length by simp [hr.1])
  have HR := Lib.hid hr
  clear hr
  go_enter Try.func7, Try.ntmps7
  go_wp2_with (first
    | (at_make; refine wpList_make_full _ rfl (.tmp 5) (.tmp 5) 22 rfl w.heap.size 5 i0 (.int .u8 0) 1 Try.underlying22 hi0 hz0 hz1 .i64 .i64 _ _ n rfl rfl rfl rfl (by rw [hz2]; omega) (by unfold maxLen; omega) (Nat.le_refl _) ?_; intro w2 hown1 hgr1; have hb1 := Lib.hid (bblk_made hown1); have hw1 : Below w.heap.size w w2 := (Below.refl _ _).grown hgr1 (Nat.le_refl _) (by simp); have s2 := Lib.hid (copy_src (HR.out.below hw1) w.heap.size 0); clear hown1 hgr1)
    | (refine wpList_copy_splice (o := ⟨some 9, _, _, _, _, _⟩) rfl (.tmp 7) (.tmp 8) 22 22 rfl 5 Try.underlying22 size_u8 (some ⟨w.heap.size, 0, none⟩) A n n n c rfl rfl w.heap.size 0 ((List.replicate n 0).map (Value.int .u8)) 5 hb1.out (l.map (Value.int .u8)) S1.out s2.out S3.out (oneCell_u8 l) w.heap.size w hw1 (Nat.le_refl _) ?_; intro w3 hb2 hw2; have hb3 := bblk_copied (s := 0) HR.out.1 hb2; clear hb1 hw1 s2 hb2))
  rw [List.replicate_zero, List.append_nil] at hb3
  have HB := Lib.hid hb3
  clear hb3
  go_ret
  have hB := HB.out
  have hlt := hB.lt
  have hby := HR.out.2.1
  have hre : ∀ w4 : World, w4.heap[w.heap.size]? = w3.heap[w.heap.size]? → BReads w4 w3.heap.size (some ⟨w.heap.size, 0, none⟩) n l := fun w4 h4 => by
    have h5 : BBlk w4 w.heap.size l := h4.trans hB
    have := h5.reads hby hlt
    rwa [HR.out.1] at this
  have hnew := heap_alloc_new w3 (.cells #[.slice (some ⟨w.heap.size, 0, none⟩) n n, .int .i64 0] 44)
  have hold := Below.heap_alloc w3 (.cells #[.slice (some ⟨w.heap.size, 0, none⟩) n n, .int .i64 0] 44) w.heap.size hlt
  refine ⟨_, rfl, by omega, ⟨some ⟨w.heap.size, 0, none⟩, n, n, hnew, hre _ hold, Nat.le_refl _, by omega, fun e => by cases e⟩, hw2.alloc hw2.size _, by simp, fun w4 h4 => ?_⟩
  exact ⟨some ⟨w.heap.size, 0, none⟩, n, n, (h4 _ (by omega) (by simp)).trans hnew, hre _ ((h4 _ (Nat.le_refl _) (by simp; omega)).trans hold), Nat.le_refl _, by omega, fun e => by cases e⟩

end Go.Proofs.Ytkcllhcinbcgiab
