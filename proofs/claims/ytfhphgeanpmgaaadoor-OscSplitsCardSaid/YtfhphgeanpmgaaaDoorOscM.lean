/- The plain arithmetic of layer 9: oscillators, no program in sight. -/
namespace Go.Proofs.YtfhphgeanpmgaaaDoor.Oc

/-- Is a segment within the limits? -/
def okS (s : Int × Int) : Prop := (0 ≤ s.1 ∧ s.1 ≤ 1125899906842624) ∧ (-500000 ≤ s.2 ∧ s.2 ≤ 500000)
instance (s : Int × Int) : Decidable (okS s) := inferInstanceAs (Decidable (_ ∧ _))
/-- The error of segment i. -/
def segE (f : Nat → Int × Int) (i : Nat) : Int :=
  if ¬ okS (f i) then 3 else if i = 0 then (if (f 0).1 = 0 then 0 else 7) else if (f i).1 ≤ (f (i - 1)).1 then 12 else 0
/-- The first error of the first k segments. -/
def firstE (f : Nat → Int × Int) : Nat → Int
  | 0 => 0
  | k + 1 => if firstE f k = 0 then segE f k else firstE f k
/-- The error of an oscillator. -/
def chk (ph : Int) (n : Nat) (f : Nat → Int × Int) : Int :=
  if n = 0 then 14 else if 16 < n then 6 else if ph < -1125899906842624 ∨ 1125899906842624 < ph then 3 else firstE f n
theorem firstE_zero {f : Nat → Int × Int} : ∀ {k : Nat}, firstE f k = 0 ↔ ∀ i, i < k → segE f i = 0
  | 0 => ⟨fun _ i h => absurd h (by omega), fun _ => rfl⟩
  | k + 1 => by
    have ih := @firstE_zero f k
    unfold firstE
    by_cases h : firstE f k = 0
    · rw [if_pos h]
      exact ⟨fun h2 i hi => by
        rcases Nat.lt_or_eq_of_le (Nat.lt_succ_iff.1 hi) with h3 | rfl
        · exact ih.1 h i h3
        · exact h2, fun h2 => h2 k (by omega)⟩
    · rw [if_neg h]
      exact ⟨fun h2 => absurd h2 h, fun h2 => absurd (ih.2 fun i hi => h2 i (by omega)) h⟩
theorem firstE_at {f : Nat → Int × Int} {k : Nat} (h : firstE f k = 0) (h2 : ¬ segE f k = 0) : ∀ {m : Nat}, k < m → firstE f m = segE f k := by
  intro m
  induction m with
  | zero => intro h3; omega
  | succ m ih =>
    intro h3
    unfold firstE
    rcases Nat.lt_or_eq_of_le (Nat.lt_succ_iff.1 h3) with h4 | rfl
    · rw [ih h4, if_neg h2]
    · rw [if_pos h]
theorem segE_iff {f : Nat → Int × Int} {i : Nat} : segE f i = 0 ↔ (okS (f i) ∧ (i = 0 → (f 0).1 = 0) ∧ (0 < i → (f (i - 1)).1 < (f i).1)) := by
  unfold segE
  by_cases h : okS (f i)
  · rw [if_neg (not_not_intro h)]
    by_cases h0 : i = 0
    · rw [if_pos h0]
      by_cases h1 : (f 0).1 = 0
      · rw [if_pos h1]; exact ⟨fun _ => ⟨h, fun _ => h1, fun h2 => by omega⟩, fun _ => rfl⟩
      · rw [if_neg h1]; exact ⟨fun h2 => by omega, fun h2 => absurd (h2.2.1 h0) h1⟩
    · rw [if_neg h0]
      by_cases h1 : (f i).1 ≤ (f (i - 1)).1
      · rw [if_pos h1]; exact ⟨fun h2 => by omega, fun h2 => by have := h2.2.2 (by omega); omega⟩
      · rw [if_neg h1]; exact ⟨fun _ => ⟨h, fun h2 => absurd h2 h0, fun _ => by omega⟩, fun _ => rfl⟩
  · rw [if_pos h]; exact ⟨fun h2 => by omega, fun h2 => absurd h2.1 h⟩
/-- The valid oscillators. -/
structure Vd (ph : Int) (n : Nat) (f : Nat → Int × Int) : Prop where
  n0 : 0 < n
  n16 : n ≤ 16
  p0 : -1125899906842624 ≤ ph
  p1 : ph ≤ 1125899906842624
  ok : ∀ i, i < n → okS (f i)
  z : (f 0).1 = 0
  inc : ∀ i, i + 1 < n → (f i).1 < (f (i + 1)).1
theorem chk_iff {ph : Int} {n : Nat} {f : Nat → Int × Int} : chk ph n f = 0 ↔ Vd ph n f := by
  unfold chk
  by_cases h : n = 0
  · rw [if_pos h]; exact ⟨fun h2 => by omega, fun h2 => by have := h2.n0; omega⟩
  · rw [if_neg h]
    by_cases h1 : 16 < n
    · rw [if_pos h1]; exact ⟨fun h2 => by omega, fun h2 => by have := h2.n16; omega⟩
    · rw [if_neg h1]
      by_cases h3 : ph < -1125899906842624 ∨ 1125899906842624 < ph
      · rw [if_pos h3]; exact ⟨fun h2 => by omega, fun h2 => by have := h2.p0; have := h2.p1; omega⟩
      · rw [if_neg h3, firstE_zero]
        constructor
        · intro h4
          exact ⟨by omega, by omega, by omega, by omega, fun i hi => (segE_iff.1 (h4 i hi)).1, (segE_iff.1 (h4 0 (by omega))).2.1 rfl, fun i hi => (segE_iff.1 (h4 (i + 1) hi)).2.2 (by omega)⟩
        · intro h4 i hi
          exact segE_iff.2 ⟨h4.ok i hi, fun _ => h4.z, fun hp => by have := h4.inc (i - 1) (by omega); rw [show i - 1 + 1 = i by omega] at this; exact this⟩

/-- Where a span ends. -/
def endI (f : Nat → Int × Int) (n i : Nat) : Int := if i + 1 < n then (f (i + 1)).1 else 1125899906842624
/-- How much of t lies in span i. -/
def lenI (f : Nat → Int × Int) (n : Nat) (t : Int) (i : Nat) : Int := max 0 (min t (endI f n i) - (f i).1)
def whole (f : Nat → Int × Int) (n : Nat) (t : Int) : Nat → Int
  | 0 => 0
  | k + 1 => whole f n t k + lenI f n t k / 1000000000 * (f k).2
def rest (f : Nat → Int × Int) (n : Nat) (t : Int) : Nat → Int
  | 0 => 0
  | k + 1 => rest f n t k + lenI f n t k % 1000000000 * (f k).2
def gain (f : Nat → Int × Int) (n : Nat) (t : Int) : Nat → Int
  | 0 => 0
  | k + 1 => gain f n t k + lenI f n t k * (f k).2
def tot (f : Nat → Int × Int) (n : Nat) (t : Int) : Nat → Int
  | 0 => 0
  | k + 1 => tot f n t k + lenI f n t k
/-- The reading. -/
def rd (ph : Int) (n : Nat) (f : Nat → Int × Int) (t : Int) : Int := ph + t + gain f n t n / 1000000000
theorem gain_eq (f : Nat → Int × Int) (n : Nat) (t : Int) : ∀ k, gain f n t k = 1000000000 * whole f n t k + rest f n t k
  | 0 => rfl
  | k + 1 => by
    unfold gain whole rest
    rw [gain_eq f n t k, Int.mul_add, ← Int.mul_assoc]
    have h := Int.mul_ediv_add_emod (lenI f n t k) 1000000000
    have e : lenI f n t k * (f k).2 = 1000000000 * (lenI f n t k / 1000000000) * (f k).2 + lenI f n t k % 1000000000 * (f k).2 := by
      rw [← Int.add_mul, h]
    omega
theorem rd_eq (ph : Int) (n : Nat) (f : Nat → Int × Int) (t : Int) : rd ph n f t = ph + t + whole f n t n + rest f n t n / 1000000000 := by
  unfold rd; rw [gain_eq]; omega
theorem mulb {e p M N : Int} (h0 : 0 ≤ e) (h1 : e ≤ M) (h2 : -N ≤ p) (h3 : p ≤ N) (hN : 0 ≤ N) : -(M * N) ≤ e * p ∧ e * p ≤ M * N := by
  have a : e * p ≤ e * N := Int.mul_le_mul_of_nonneg_left h3 h0
  have b : e * N ≤ M * N := Int.mul_le_mul_of_nonneg_right h1 hN
  have c : e * (-N) ≤ e * p := Int.mul_le_mul_of_nonneg_left h2 h0
  rw [Int.mul_neg] at c
  omega
theorem endI_bound {ph : Int} {n : Nat} {f : Nat → Int × Int} (h : Vd ph n f) {i : Nat} : 0 ≤ endI f n i ∧ endI f n i ≤ 1125899906842624 := by
  unfold endI; split
  · exact (h.ok _ (by assumption)).1
  · omega
theorem lenI_bound {ph : Int} {n : Nat} {f : Nat → Int × Int} (h : Vd ph n f) (t : Int) {i : Nat} (hi : i < n) : 0 ≤ lenI f n t i ∧ lenI f n t i ≤ 1125899906842624 := by
  have := endI_bound h (i := i)
  have := (h.ok i hi).1
  unfold lenI; omega
theorem parts_bound {ph : Int} {n : Nat} {f : Nat → Int × Int} (h : Vd ph n f) (t : Int) {i : Nat} (hi : i < n) :
    (-562950000000 ≤ lenI f n t i / 1000000000 * (f i).2 ∧ lenI f n t i / 1000000000 * (f i).2 ≤ 562950000000) ∧ (-500000000000000 ≤ lenI f n t i % 1000000000 * (f i).2 ∧ lenI f n t i % 1000000000 * (f i).2 ≤ 500000000000000) := by
  have a := lenI_bound h t hi
  have b := (h.ok i hi).2
  have c := mulb (e := lenI f n t i / 1000000000) (p := (f i).2) (M := 1125900) (N := 500000) (by omega) (by omega) b.1 b.2 (by omega)
  have d := mulb (e := lenI f n t i % 1000000000) (p := (f i).2) (M := 1000000000) (N := 500000) (by omega) (by omega) b.1 b.2 (by omega)
  omega
theorem sums_bound {ph : Int} {n : Nat} {f : Nat → Int × Int} (h : Vd ph n f) (t : Int) : ∀ {k : Nat}, k ≤ n →
    (-((k : Int) * 562950000000) ≤ whole f n t k ∧ whole f n t k ≤ (k : Int) * 562950000000) ∧ (-((k : Int) * 500000000000000) ≤ rest f n t k ∧ rest f n t k ≤ (k : Int) * 500000000000000)
  | 0, _ => by unfold whole rest; omega
  | k + 1, hk => by
    have ih := sums_bound h t (k := k) (by omega)
    have c := parts_bound h t (i := k) (by omega)
    unfold whole rest
    omega
theorem sums_small {ph : Int} {n : Nat} {f : Nat → Int × Int} (h : Vd ph n f) (t : Int) {k : Nat} (hk : k ≤ n) :
    (-10000000000000 ≤ whole f n t k ∧ whole f n t k ≤ 10000000000000) ∧ (-10000000000000000 ≤ rest f n t k ∧ rest f n t k ≤ 10000000000000000) := by
  have := sums_bound h t hk
  have := h.n16
  omega
theorem rd_bound {ph : Int} {n : Nat} {f : Nat → Int × Int} (h : Vd ph n f) {t : Int} (h0 : 0 ≤ t) (h1 : t ≤ 1125899906842624) : -2000000000000000 ≤ rd ph n f t ∧ rd ph n f t ≤ 3000000000000000 := by
  have := sums_small h t (Nat.le_refl n)
  have := h.p0
  have := h.p1
  rw [rd_eq]
  omega
/-- Where span k begins, or the end. -/
def begI (f : Nat → Int × Int) (n k : Nat) : Int := if k < n then (f k).1 else 1125899906842624
theorem begI_succ (f : Nat → Int × Int) (n k : Nat) : begI f n (k + 1) = endI f n k := rfl
theorem begI_le {ph : Int} {n : Nat} {f : Nat → Int × Int} (h : Vd ph n f) {k : Nat} (hk : k < n) : begI f n k ≤ begI f n (k + 1) := by
  unfold begI
  rw [if_pos hk]
  split
  · have := h.inc k (by assumption); omega
  · exact (h.ok k hk).1.2
theorem tot_eq {ph : Int} {n : Nat} {f : Nat → Int × Int} (h : Vd ph n f) {t : Int} (h0 : 0 ≤ t) : ∀ {k : Nat}, k ≤ n → tot f n t k = min t (begI f n k)
  | 0, _ => by
    unfold tot begI
    rw [if_pos h.n0, h.z]; omega
  | k + 1, hk => by
    have ih := tot_eq h h0 (k := k) (by omega)
    have hb := begI_le h (k := k) (by omega)
    unfold tot lenI
    rw [ih, begI_succ]
    rw [begI_succ] at hb
    have : begI f n k = (f k).1 := if_pos (by omega)
    rw [this] at ih hb ⊢
    omega
theorem tot_all {ph : Int} {n : Nat} {f : Nat → Int × Int} (h : Vd ph n f) {t : Int} (h0 : 0 ≤ t) (h1 : t ≤ 1125899906842624) : tot f n t n = t := by
  rw [tot_eq h h0 (Nat.le_refl n)]
  unfold begI
  rw [if_neg (by omega)]; omega
theorem lenI_mono (f : Nat → Int × Int) (n : Nat) {t u : Int} (h : t ≤ u) (i : Nat) : lenI f n t i ≤ lenI f n u i := by
  unfold lenI; omega
/-- Gains differ by at most B a nanosecond. -/
theorem gain_diff {n : Nat} {f : Nat → Int × Int} {t u B : Int} (htu : t ≤ u) : ∀ {k : Nat}, (∀ i, i < k → -B ≤ (f i).2 ∧ (f i).2 ≤ B) →
    -(B * (tot f n u k - tot f n t k)) ≤ gain f n u k - gain f n t k ∧ gain f n u k - gain f n t k ≤ B * (tot f n u k - tot f n t k)
  | 0, _ => by unfold gain tot; omega
  | k + 1, hB => by
    have ih := gain_diff (n := n) (f := f) (t := t) (u := u) (B := B) htu (k := k) fun i hi => hB i (by omega)
    have hb := hB k (by omega)
    have hm := lenI_mono f n htu k
    obtain ⟨D, hD⟩ : ∃ D, lenI f n u k - lenI f n t k = D := ⟨_, rfl⟩
    have d0 : 0 ≤ D := by omega
    have e : lenI f n u k * (f k).2 - lenI f n t k * (f k).2 = D * (f k).2 := by rw [← Int.sub_mul, hD]
    have a : D * (f k).2 ≤ D * B := Int.mul_le_mul_of_nonneg_left hb.2 d0
    have c : D * (-B) ≤ D * (f k).2 := Int.mul_le_mul_of_nonneg_left hb.1 d0
    rw [Int.mul_neg] at c
    unfold gain tot
    have g : B * (tot f n u k + lenI f n u k - (tot f n t k + lenI f n t k)) = B * (tot f n u k - tot f n t k) + D * B := by
      rw [show tot f n u k + lenI f n u k - (tot f n t k + lenI f n t k) = (tot f n u k - tot f n t k) + D by omega, Int.mul_add, Int.mul_comm B D]
    rw [g]
    omega
/-- The greatest absolute frequency error. -/
def bnd (f : Nat → Int × Int) : Nat → Int
  | 0 => 0
  | k + 1 => max (max (bnd f k) (f k).2) (-(f k).2)
theorem bnd_nonneg (f : Nat → Int × Int) : ∀ k, 0 ≤ bnd f k
  | 0 => Int.le_refl _
  | k + 1 => by have := bnd_nonneg f k; unfold bnd; omega
theorem bnd_le (f : Nat → Int × Int) : ∀ {k i : Nat}, i < k → -(bnd f k) ≤ (f i).2 ∧ (f i).2 ≤ bnd f k
  | 0, _, h => absurd h (by omega)
  | k + 1, i, h => by
    unfold bnd
    rcases Nat.lt_or_eq_of_le (Nat.lt_succ_iff.1 h) with h2 | rfl
    · have := bnd_le f (k := k) (i := i) h2; omega
    · omega
theorem bnd_max {f : Nat → Int × Int} : ∀ {k : Nat}, (∀ i, i < k → -500000 ≤ (f i).2 ∧ (f i).2 ≤ 500000) → bnd f k ≤ 500000
  | 0, _ => by unfold bnd; omega
  | k + 1, h => by
    have := bnd_max (f := f) (k := k) fun i hi => h i (by omega)
    have := h k (by omega)
    unfold bnd; omega
theorem rd_diff {ph : Int} {n : Nat} {f : Nat → Int × Int} (h : Vd ph n f) {t d : Int} (h0 : 0 ≤ t) (hd : 0 ≤ d) (h1 : t + d ≤ 1125899906842624) :
    rd ph n f (t + d) - rd ph n f t - d ≤ (d * bnd f n + 999999999) / 1000000000 ∧ d - (rd ph n f (t + d) - rd ph n f t) ≤ (d * bnd f n + 999999999) / 1000000000 := by
  have g := gain_diff (n := n) (f := f) (t := t) (u := t + d) (B := bnd f n) (by omega) (k := n) fun i hi => bnd_le f hi
  rw [tot_all h (by omega) h1, tot_all h h0 (by omega), show t + d - t = d by omega, Int.mul_comm] at g
  unfold rd
  obtain ⟨D, hD⟩ : ∃ D, d * bnd f n = D := ⟨_, rfl⟩
  rw [hD] at g ⊢
  omega
theorem rd_mono {ph : Int} {n : Nat} {f : Nat → Int × Int} (h : Vd ph n f) {t u : Int} (h0 : 0 ≤ t) (hu : t ≤ u) (h1 : u ≤ 1125899906842624) : rd ph n f t ≤ rd ph n f u := by
  have hd := rd_diff h (t := t) (d := u - t) h0 (by omega) (by omega)
  rw [show t + (u - t) = u by omega] at hd
  have hb := bnd_max (f := f) (k := n) fun i hi => (h.ok i hi).2
  have hb0 := bnd_nonneg f n
  have : (u - t) * bnd f n ≤ (u - t) * 500000 := Int.mul_le_mul_of_nonneg_left hb (by omega)
  omega
/-- The rate behind the first k segments. -/
def rt (f : Nat → Int × Int) (t : Int) : Nat → Int
  | 0 => (f 0).2
  | k + 1 => if (f k).1 ≤ t then (f k).2 else rt f t k
theorem rt_one (f : Nat → Int × Int) (t : Int) : rt f t 1 = (f 0).2 := by unfold rt; split <;> rfl
/-- w is the first time with a reading of at least r. -/
def Fst (ph : Int) (n : Nat) (f : Nat → Int × Int) (r w : Int) : Prop := (0 ≤ w ∧ w ≤ 1125899906842624) ∧ r ≤ rd ph n f w ∧ (0 < w → rd ph n f (w - 1) < r)
theorem fst_unique {ph : Int} {n : Nat} {f : Nat → Int × Int} {r v w : Int} (h : Vd ph n f) (hv : Fst ph n f r v) (hw : Fst ph n f r w) : v = w := by
  obtain ⟨v0, v1, v2⟩ := hv
  obtain ⟨w0, w1, w2⟩ := hw
  rcases Int.lt_trichotomy v w with hlt | he | hlt
  · have := w2 (by omega)
    have := rd_mono h (t := v) (u := w - 1) v0.1 (by omega) (by omega)
    omega
  · exact he
  · have := v2 (by omega)
    have := rd_mono h (t := w) (u := v - 1) w0.1 (by omega) (by omega)
    omega
end Go.Proofs.YtfhphgeanpmgaaaDoor.Oc
