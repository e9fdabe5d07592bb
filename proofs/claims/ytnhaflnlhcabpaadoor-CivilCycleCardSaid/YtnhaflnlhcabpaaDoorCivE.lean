/- Contracts of layer 5, of the specification: Weekday, MJD, digits. -/
import Derived.Test.YtnhaflnlhcabpaaDoorCivD
import Derived.Test.YtnhaflnlhcabpaaDoorPtmT
namespace Go.Proofs.YtnhaflnlhcabpaaDoor
open Go.RowKit Fx Cv Pt

theorem rwday_any (t : Int) (w : World) (h0 : -9223372036854775808 ≤ t) (h1 : t ≤ 9223372036854775807) :
    Calls Tryd.prog 19 #[.int .i64 t] w fun e w' => e = .returned (.int .i64 (t / 86400 % 7)) ∧ w = w' := by
  obtain ⟨q, hq⟩ : ∃ q, t / 86400 = q := ⟨_, rfl⟩
  have hb : -106751991167301 ≤ q ∧ q ≤ 106751991167300 := by omega
  have HQ := Lib.hid hq
  clear hq
  obtain ⟨r, hr⟩ : ∃ r, q.tmod 7 = r := ⟨_, rfl⟩
  have hr2 : -7 < r ∧ r < 7 ∧ (r + 7) % 7 = q % 7 := by
    have a := Int.tmod_add_mul_tdiv q 7
    have b := Int.tmod_lt_of_pos q (show (0 : Int) < 7 by decide)
    have c : -7 < q.tmod 7 := by
      rcases Int.le_total 0 q with h | h
      · have := Int.tmod_nonneg 7 h; omega
      · have := Int.tmod_lt_of_pos (-q) (show (0 : Int) < 7 by decide)
        rw [Int.neg_tmod] at this; omega
    omega
  have HR := Lib.hid hr2.2.2
  obtain ⟨r0, r1, _⟩ := hr2
  rw [HQ.out]
  go_enter Tryd.func19, Tryd.ntmps19
  go_wp2_with fail
  refine (rday_any t _ h0 h1).mono ?_
  rintro e w' ⟨rfl, rfl⟩
  rw [HQ.out]
  go_wp2
  go_ret
  exact ⟨ret1 HR.out, rfl⟩

theorem rmjd_any (t : Int) (w : World) (h0 : -9223372036854775808 ≤ t) (h1 : t ≤ 9223372036854775807) :
    Calls Tryd.prog 21 #[.int .i64 t] w fun e w' => e = .returned (.int .i64 (t / 86400 + 15020)) ∧ w = w' := by
  obtain ⟨q, hq⟩ : ∃ q, t / 86400 = q := ⟨_, rfl⟩
  have hb : -106751991167301 ≤ q ∧ q ≤ 106751991167300 := by omega
  have HQ := Lib.hid hq
  clear hq
  rw [HQ.out]
  go_enter Tryd.func21, Tryd.ntmps21
  go_wp2_with fail
  refine (rday_any t _ h0 h1).mono ?_
  rintro e w' ⟨rfl, rfl⟩
  rw [HQ.out]
  go_wp2
  go_ret
  exact ⟨rfl, rfl⟩

theorem Cv.mkap (a b : List UInt8) : (⟨a.toArray⟩ : ByteArray) ++ ⟨b.toArray⟩ = ⟨(a ++ b).toArray⟩ := by
  apply ByteArray.ext; simp
theorem Cv.enc_one (d : Nat) (h : d < 128) : Utf8.encode (d : Int) = ⟨([UInt8.ofNat d] : List UInt8).toArray⟩ := by
  have hv : Utf8.valid (d : Int) = true := by simp [Utf8.valid]; omega
  unfold Utf8.encode
  simp only [hv, if_true, Int.toNat_natCast, if_pos h]
theorem Cv.half (K i : Nat) : K / 10 ^ (i + 1) = K / 10 ^ i / 10 := by rw [Nat.pow_succ, Nat.div_div_eq_div_mul]

set_option maxRecDepth 100000 in
theorem rdigits_any (K n : Nat) (w : World) (hK : K < 1000000000000000) (hn : n ≤ 9) :
    Calls Tryd.prog 46 #[.int .i64 K, .int .i64 n] w fun e w' => e = .returned (.string ⟨(low K n).toArray⟩) ∧ w = w' := by
  go_enter Tryd.func46, Tryd.ntmps46
  go_wp2_with fail
  go_loop [0, 5, 6] (fun kv sv iv => ∃ (i k : Nat) (y : ByteArray), iv = .int .i64 i ∧ kv = .int .i64 k ∧ sv = .string y ∧ i ≤ n ∧ y.size = i ∧ k < 1000000000000000 ∧ Hid (k = K / 10 ^ i ∧ y = ⟨(low K i).toArray⟩)) (fun _ _ iv => n - (intOf iv).toNat)
  case atStart => exact ⟨0, K, ⟨#[]⟩, rfl, rfl, rfl, by omega, rfl, hK, Lib.hid ⟨by simp, rfl⟩⟩
  case round =>
    obtain ⟨i, k, y, rfl, rfl, rfl, hi, hy, hk, HI⟩ := hrel
    by_cases hlt : i < n
    · have hd : Hid (k / 10 = K / 10 ^ (i + 1)) := Lib.hid (by rw [half, ← HI.out.1])
      obtain ⟨d, hdd⟩ : ∃ d : Nat, 48 + k % 10 = d := ⟨_, rfl⟩
      have hdi : (48 : Int) + (k : Int) % 10 = (d : Int) := by omega
      have hd0 : d ≤ 57 := by omega
      obtain ⟨x, hx⟩ : ∃ x : ByteArray, Utf8.encode (d : Int) = x := ⟨_, rfl⟩
      have hx2 := (enc_one d (by omega)).symm.trans hx
      have hxs : x.size = 1 := by rw [← hx2]; rfl
      have HN : Hid (x ++ y = ⟨(low K (i + 1)).toArray⟩) := Lib.hid (by
        rw [HI.out.2, ← hx2, mkap, ← hdd, HI.out.1]
        rfl)
      have hsz : (x ++ y).size = i + 1 := by rw [ByteArray.size_append]; omega
      clear hx2 hdd
      go_wp2_with fail
      go_round
      case rel => exact ⟨i + 1, k / 10, x ++ y, by go_num, by go_num, rfl, by omega, hsz, by omega, Lib.hid ⟨hd.out, HN.out⟩⟩
      case measure => simp [intOf]; omega
    · obtain rfl : i = n := by omega
      go_wp2_with fail
      go_ret
      exact ⟨by rw [HI.out.2]; rfl, rfl⟩
end Go.Proofs.YtnhaflnlhcabpaaDoor
