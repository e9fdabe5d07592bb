/- The plain arithmetic of layer 2: numbers in bytes, most significant byte first. No program in sight. -/
import Derived.Laws.BitsAllLaws
namespace Go.Proofs.Ytiecbpecpoojkaa.Wi
open Go

/-- The number in bytes. -/
def beVal (l : List Int) : Int := l.foldl (fun n b => n * 256 + b) 0
/-- Are they bytes? -/
def Bytes (l : List Int) : Prop := ∀ x ∈ l, 0 ≤ x ∧ x ≤ 255
/-- The error of Get, and its number. -/
def getE (len : Nat) (at_ size : Int) : Int := if size < 1 ∨ 8 < size then 2 else if at_ < 0 ∨ (len : Int) - at_ < size then 5 else 0
def getV (l : List Int) (at_ size : Int) : Int := if getE l.length at_ size = 0 then beVal ((l.drop at_.toNat).take size.toNat) else 0

theorem beVal_nil : beVal [] = 0 := rfl
theorem beVal_snoc (l : List Int) (x : Int) : beVal (l ++ [x]) = beVal l * 256 + x := by simp [beVal]
theorem Bytes.take {l : List Int} (h : Bytes l) (k : Nat) : Bytes (l.take k) := fun x hx => h x (List.mem_of_mem_take hx)
theorem Bytes.drop {l : List Int} (h : Bytes l) (k : Nat) : Bytes (l.drop k) := fun x hx => h x (List.mem_of_mem_drop hx)
theorem Bytes.append {l m : List Int} (h : Bytes l) (h' : Bytes m) : Bytes (l ++ m) := fun x hx => by
  rcases List.mem_append.1 hx with hx | hx
  · exact h x hx
  · exact h' x hx
theorem Bytes.getD {l : List Int} (h : Bytes l) (k : Nat) : 0 ≤ l.getD k 0 ∧ l.getD k 0 ≤ 255 := by
  rw [List.getD_eq_getElem?_getD]
  rcases hk : l[k]? with _ | x
  · simp
  · exact h x (List.mem_of_getElem? hk)

theorem fold_bounds (l : List Int) (h : Bytes l) : ∀ a : Int, 0 ≤ a → 0 ≤ l.foldl (fun n b => n * 256 + b) a ∧ l.foldl (fun n b => n * 256 + b) a < (a + 1) * ((256 ^ l.length : Nat) : Int) := by
  induction l with
  | nil => intro a ha; simp; omega
  | cons x l ih =>
    intro a ha
    have hx := h x (by simp)
    obtain ⟨i1, i2⟩ := ih (fun y hy => h y (List.mem_cons_of_mem _ hy)) (a * 256 + x) (by omega)
    refine ⟨i1, Int.lt_of_lt_of_le i2 ?_⟩
    rw [List.length_cons, Nat.pow_succ, Int.natCast_mul, Int.mul_comm ((256 ^ l.length : Nat) : Int), ← Int.mul_assoc]
    exact Int.mul_le_mul_of_nonneg_right (by omega) (Int.natCast_nonneg _)

theorem beVal_bounds (l : List Int) (h : Bytes l) : 0 ≤ beVal l ∧ beVal l < ((256 ^ l.length : Nat) : Int) := by
  obtain ⟨a, b⟩ := fold_bounds l h 0 (by omega)
  rw [Int.zero_add, Int.one_mul] at b
  exact ⟨a, b⟩

/-- One more byte. -/
theorem take_drop_succ (l : List Int) (a k : Nat) (h : a + k < l.length) : (l.drop a).take (k + 1) = (l.drop a).take k ++ [l.getD (a + k) 0] := by
  have hk : k < (l.drop a).length := by rw [List.length_drop]; omega
  rw [List.take_succ_eq_append_getElem hk, List.getElem_drop, List.getD_eq_getElem?_getD, List.getElem?_eq_getElem h]
  rfl

theorem pow256_le {k : Nat} (h : k ≤ 7) : ((256 ^ k : Nat) : Int) ≤ 72057594037927936 := by
  have : 256 ^ k ≤ 256 ^ 7 := Nat.pow_le_pow_right (by decide) h
  omega

/-- The step of Get's loop. -/
theorem get_step (l : List Int) (hb : Bytes l) (a k : Nat) (h : a + k < l.length) (hk : k ≤ 7) :
    bits .or .u64 (IntKind.u64.wrap (beVal ((l.drop a).take k) * 256)) (l.getD (a + k) 0) = beVal ((l.drop a).take (k + 1)) ∧ 0 ≤ beVal ((l.drop a).take k) ∧ beVal ((l.drop a).take k) < 72057594037927936 := by
  have b := beVal_bounds ((l.drop a).take k) ((hb.drop a).take k)
  have hl : ((l.drop a).take k).length = k := by rw [List.length_take, List.length_drop]; omega
  rw [hl] at b
  have hp := pow256_le hk
  have hx := hb.getD (a + k)
  rw [take_drop_succ l a k h, beVal_snoc]
  refine ⟨?_, b.1, by omega⟩
  rw [show IntKind.u64.wrap (beVal ((l.drop a).take k) * 256) = beVal ((l.drop a).take k) * 256 from by rw [IntKind.wrap_u64]; omega]
  rw [u64_or _ _ (by omega) (by omega) hx.1 (by omega), nat_join 8 _ _ (by omega) (by omega)]
  omega
end Go.Proofs.Ytiecbpecpoojkaa.Wi
