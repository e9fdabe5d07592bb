/- Contracts of layer 5: number of the specification. -/
import Derived.Test.YtegpajdahanhfaaGreatDoorCivF
namespace Go.Proofs.YtegpajdahanhfaaGreatDoor
open Go.RowKit Fx Cv Pt

theorem Cv.dval_lt (l : List UInt8) (hd : Digs l) : dval 0 l < 10 ^ l.length := by
  suffices h : ∀ (l : List UInt8) (acc : Nat), Digs l → dval acc l < (acc + 1) * 10 ^ l.length by simpa using h l 0 hd
  intro l
  induction l with
  | nil => intro acc _; show acc < (acc + 1) * 1; omega
  | cons c l ih =>
    intro acc hd
    have hc := hd c (by simp)
    have := ih (acc * 10 + (c.toNat - 48)) (fun x hx => hd x (by simp [hx]))
    refine Nat.lt_of_lt_of_le this ?_
    rw [List.length_cons, Nat.pow_succ, Nat.mul_comm (10 ^ l.length) 10, ← Nat.mul_assoc]
    exact Nat.mul_le_mul_right _ (by omega)
theorem Cv.digs_take {l : List UInt8} (h : Digs l) (i : Nat) : Digs (l.take i) := fun c hc => h c (List.mem_of_mem_take hc)

end Go.Proofs.YtegpajdahanhfaaGreatDoor
