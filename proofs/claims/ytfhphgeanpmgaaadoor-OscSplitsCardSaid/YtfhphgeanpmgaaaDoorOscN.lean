/- The plain arithmetic of layer 9: a segment that is divided. -/
import Derived.Test.YtfhphgeanpmgaaaDoorOscM
namespace Go.Proofs.YtfhphgeanpmgaaaDoor.Oc

/-- The segments with a new one in place i. -/
def ins (f : Nat → Int × Int) (i : Nat) (s : Int × Int) (j : Nat) : Int × Int := if j < i then f j else if j = i then s else f (j - 1)
theorem ins_lt {f : Nat → Int × Int} {i : Nat} {s : Int × Int} {j : Nat} (h : j < i) : ins f i s j = f j := if_pos h
theorem ins_eq {f : Nat → Int × Int} {i : Nat} {s : Int × Int} : ins f i s i = s := (if_neg (Nat.lt_irrefl _)).trans (if_pos rfl)
theorem ins_gt {f : Nat → Int × Int} {i : Nat} {s : Int × Int} {j : Nat} (h : i < j) : ins f i s j = f (j - 1) := (if_neg (by omega)).trans (if_neg (by omega))
theorem ins_vd {ph : Int} {n : Nat} {f : Nat → Int × Int} (h : Vd ph n f) (hn : n < 16) {i : Nat} (hi0 : 0 < i) (hi : i ≤ n) {s : Int × Int} (hs : okS s) (hl : (f (i - 1)).1 < s.1) (hr : i < n → s.1 < (f i).1) : Vd ph (n + 1) (ins f i s) := by
  refine ⟨by omega, by omega, h.p0, h.p1, fun j hj => ?_, ?_, fun j hj => ?_⟩
  · rcases Nat.lt_trichotomy j i with hlt | rfl | hgt
    · rw [ins_lt hlt]; exact h.ok j (by omega)
    · rw [ins_eq]; exact hs
    · rw [ins_gt hgt]; exact h.ok (j - 1) (by omega)
  · rw [ins_lt hi0]; exact h.z
  · rcases Nat.lt_trichotomy (j + 1) i with hlt | he | hgt
    · rw [ins_lt hlt, ins_lt (by omega)]; exact h.inc j (by omega)
    · subst he
      rw [ins_lt (by omega), ins_eq]; exact hl
    · rw [ins_gt hgt]
      rcases Nat.lt_or_eq_of_le (show i ≤ j by omega) with h2 | rfl
      · rw [ins_gt h2]
        have := h.inc (j - 1) (by omega)
        rw [show j - 1 + 1 = j by omega] at this
        exact this
      · rw [ins_eq]; exact hr (by omega)
/-- Before the divided segment nothing turns. -/
theorem ins_gain_lo {n : Nat} {f : Nat → Int × Int} {i : Nat} {s : Int × Int} {t : Int} (hi : i ≤ n) : ∀ {k : Nat}, k + 1 ≤ i → gain (ins f i s) (n + 1) t k = gain f n t k
  | 0, _ => rfl
  | k + 1, hk => by
    have ih := ins_gain_lo (n := n) (f := f) (i := i) (s := s) (t := t) hi (k := k) (by omega)
    have he : lenI (ins f i s) (n + 1) t k = lenI f n t k := by
      unfold lenI endI
      rw [if_pos (by omega), if_pos (by omega), ins_lt (by omega), ins_lt (by omega)]
    unfold gain
    rw [ih, he, ins_lt (by omega)]
theorem ins_gain_mid {n : Nat} {f : Nat → Int × Int} {i : Nat} (hi0 : 0 < i) (hi : i ≤ n) {at_ t : Int} (h0 : 0 ≤ t) (h1 : t ≤ 1125899906842624) (ha : at_ ≤ 1125899906842624) (hl : (f (i - 1)).1 < at_) (hr : i < n → at_ < (f i).1) :
    gain (ins f i (at_, (f (i - 1)).2)) (n + 1) t (i + 1) = gain f n t i := by
  obtain ⟨k, rfl⟩ : ∃ k, i = k + 1 := ⟨i - 1, by omega⟩
  rw [show k + 1 - 1 = k from rfl] at hl ⊢
  have lo := ins_gain_lo (n := n) (f := f) (i := k + 1) (s := (at_, (f k).2)) (t := t) hi (k := k) (Nat.le_refl _)
  have e1 : lenI (ins f (k + 1) (at_, (f k).2)) (n + 1) t k = max 0 (min t at_ - (f k).1) := by
    unfold lenI endI
    rw [if_pos (by omega), ins_eq, ins_lt (by omega)]
  have e2 : lenI (ins f (k + 1) (at_, (f k).2)) (n + 1) t (k + 1) = max 0 (min t (endI f n k) - at_) := by
    unfold lenI endI
    rw [ins_eq]
    by_cases hk : k + 1 < n
    · rw [if_pos (by omega), if_pos hk, ins_gt (by omega)]; rfl
    · rw [if_neg (by omega), if_neg hk]
  have hE : at_ ≤ endI f n k := by
    unfold endI
    by_cases hk : k + 1 < n
    · rw [if_pos hk]; have := hr hk; omega
    · rw [if_neg hk]; omega
  have e3 : lenI f n t k = max 0 (min t (endI f n k) - (f k).1) := rfl
  show gain (ins f (k + 1) (at_, (f k).2)) (n + 1) t k + lenI (ins f (k + 1) (at_, (f k).2)) (n + 1) t k * (ins f (k + 1) (at_, (f k).2) k).2 + lenI (ins f (k + 1) (at_, (f k).2)) (n + 1) t (k + 1) * (ins f (k + 1) (at_, (f k).2) (k + 1)).2 = gain f n t k + lenI f n t k * (f k).2
  rw [lo, e1, e2, e3, ins_eq, ins_lt (by omega)]
  have : max 0 (min t (endI f n k) - (f k).1) = max 0 (min t at_ - (f k).1) + max 0 (min t (endI f n k) - at_) := by omega
  rw [this, Int.add_mul]
  show _ + _ * (f k).2 + _ * (f k).2 = _
  omega
theorem ins_gain_hi {n : Nat} {f : Nat → Int × Int} {i : Nat} (hi0 : 0 < i) (hi : i ≤ n) {at_ t : Int} (h0 : 0 ≤ t) (h1 : t ≤ 1125899906842624) (ha : at_ ≤ 1125899906842624) (hl : (f (i - 1)).1 < at_) (hr : i < n → at_ < (f i).1) :
    ∀ {d : Nat}, i + d ≤ n → gain (ins f i (at_, (f (i - 1)).2)) (n + 1) t (i + d + 1) = gain f n t (i + d)
  | 0, _ => ins_gain_mid hi0 hi h0 h1 ha hl hr
  | d + 1, hd => by
    have ih := ins_gain_hi hi0 hi h0 h1 ha hl hr (d := d) (by omega)
    have he : lenI (ins f i (at_, (f (i - 1)).2)) (n + 1) t (i + d + 1) = lenI f n t (i + d) := by
      have q1 : ins f i (at_, (f (i - 1)).2) (i + d + 1) = f (i + d) := ins_gt (by omega)
      have q2 : ins f i (at_, (f (i - 1)).2) (i + d + 1 + 1) = f (i + d + 1) := ins_gt (by omega)
      unfold lenI endI
      rw [q1, q2]
      by_cases hk : i + d + 1 < n
      · rw [if_pos (by omega), if_pos hk]
      · rw [if_neg (by omega), if_neg hk]
    show gain (ins f i (at_, (f (i - 1)).2)) (n + 1) t (i + d + 1) + lenI (ins f i (at_, (f (i - 1)).2)) (n + 1) t (i + d + 1) * (ins f i (at_, (f (i - 1)).2) (i + d + 1)).2 = gain f n t (i + d) + lenI f n t (i + d) * (f (i + d)).2
    rw [ih, he, ins_gt (by omega)]
    rfl
theorem ins_rd {ph : Int} {n : Nat} {f : Nat → Int × Int} {i : Nat} (hi0 : 0 < i) (hi : i ≤ n) {at_ t : Int} (h0 : 0 ≤ t) (h1 : t ≤ 1125899906842624) (ha : at_ ≤ 1125899906842624) (hl : (f (i - 1)).1 < at_) (hr : i < n → at_ < (f i).1) :
    rd ph (n + 1) (ins f i (at_, (f (i - 1)).2)) t = rd ph n f t := by
  have := ins_gain_hi hi0 hi h0 h1 ha hl hr (d := n - i) (by omega)
  rw [show i + (n - i) = n by omega] at this
  unfold rd; rw [this]
/-- What stands behind the time does not count. -/
theorem ins_gain_any {n : Nat} {f : Nat → Int × Int} {i : Nat} {at_ p q t : Int} (ht : t ≤ at_) : ∀ k, gain (ins f i (at_, p)) n t k = gain (ins f i (at_, q)) n t k
  | 0 => rfl
  | k + 1 => by
    have ih := ins_gain_any (n := n) (f := f) (i := i) (p := p) (q := q) ht k
    have hfst : ∀ j, (ins f i (at_, p) j).1 = (ins f i (at_, q) j).1 := fun j => by
      unfold ins; split
      · rfl
      · split <;> rfl
    have he : lenI (ins f i (at_, p)) n t k = lenI (ins f i (at_, q)) n t k := by
      unfold lenI endI; rw [hfst, hfst]
    unfold gain
    rw [ih, he]
    by_cases hk : k = i
    · subst hk
      have : lenI (ins f k (at_, q)) n t k = 0 := by
        unfold lenI; rw [ins_eq]; show max 0 (min t _ - at_) = 0; omega
      rw [this]; simp
    · have : ins f i (at_, p) k = ins f i (at_, q) k := by
        unfold ins; split
        · rfl
        · first | rfl | rw [if_neg hk, if_neg hk]
      rw [this]
theorem ins_rd_any {ph : Int} {n : Nat} {f : Nat → Int × Int} {i : Nat} {at_ p q t : Int} (ht : t ≤ at_) : rd ph n (ins f i (at_, p)) t = rd ph n (ins f i (at_, q)) t := by
  unfold rd; rw [ins_gain_any ht]
/-- The cells of segments. -/
def cellsOf (f : Nat → Int × Int) : Nat → List (Int × Int)
  | 0 => []
  | k + 1 => cellsOf f k ++ [f k]
end Go.Proofs.YtfhphgeanpmgaaaDoor.Oc
