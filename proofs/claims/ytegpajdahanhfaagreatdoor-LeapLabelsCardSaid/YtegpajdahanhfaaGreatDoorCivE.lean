/- Contracts of layer 5, of the specification: Weekday, MJD, digits. -/
import Derived.Test.YtegpajdahanhfaaGreatDoorCivD
import Derived.Test.YtegpajdahanhfaaGreatDoorPtmT
namespace Go.Proofs.YtegpajdahanhfaaGreatDoor
open Go.RowKit Fx Cv Pt

theorem Cv.mkap (a b : List UInt8) : (⟨a.toArray⟩ : ByteArray) ++ ⟨b.toArray⟩ = ⟨(a ++ b).toArray⟩ := by
  apply ByteArray.ext; simp
theorem Cv.enc_one (d : Nat) (h : d < 128) : Utf8.encode (d : Int) = ⟨([UInt8.ofNat d] : List UInt8).toArray⟩ := by
  have hv : Utf8.valid (d : Int) = true := by simp [Utf8.valid]; omega
  unfold Utf8.encode
  simp only [hv, if_true, Int.toNat_natCast, if_pos h]
theorem Cv.half (K i : Nat) : K / 10 ^ (i + 1) = K / 10 ^ i / 10 := by rw [Nat.pow_succ, Nat.div_div_eq_div_mul]

end Go.Proofs.YtegpajdahanhfaaGreatDoor
