/- The mathematics of valid tables: labels and seconds. -/
import Derived.Test.YtegpajdahanhfaaGreatDoorLeaE
namespace Go.Proofs.YtegpajdahanhfaaGreatDoor
open Go.RowKit Fx Cv Lp

/-- What a valid table has. -/
structure Lp.Val (B E : Int) (f : Nat → Int × Int) (n : Nat) : Prop where
  le : n ≤ 64
  rng : inR B E f n
  day : ∀ i, i < n → (f i).1 % 86400 = 0
  beg : ∀ i, i < n → beg (f i).1 = true
  ord : ∀ i, i + 1 < n → (f i).1 < (f (i + 1)).1
  stp : ∀ i, i < n → (f i).2 - offA B f i = 1 ∨ (f i).2 - offA B f i = -1
theorem Lp.fE_all {B : Int} {f : Nat → Int × Int} {n : Nat} (h : fE B f n = 0) : ∀ k, k < n → entE B f k = 0 := by
  induction n with
  | zero => intro k hk; omega
  | succ m ih =>
    have e : fE B f (m + 1) = if fE B f m = 0 then entE B f m else fE B f m := rfl
    rw [e] at h
    by_cases c : fE B f m = 0
    · rw [if_pos c] at h
      intro k hk
      rcases Nat.lt_or_ge k m with hlt | hge
      · exact ih c k hlt
      · rw [show k = m by omega]; exact h
    · rw [if_neg c] at h; exact absurd h c
theorem Lp.ent_zero {B : Int} {f : Nat → Int × Int} {k : Nat} (h : entE B f k = 0) : Lp.beg (f k).1 = true ∧ ¬ (0 < k ∧ (f k).1 ≤ (f (k - 1)).1) ∧ ((f k).2 - offA B f k = 1 ∨ (f k).2 - offA B f k = -1) := by
  unfold entE at h
  by_cases a : Lp.beg (f k).1 = false
  · rw [if_pos a] at h; omega
  · rw [if_neg a] at h
    by_cases b : 0 < k ∧ (f k).1 ≤ (f (k - 1)).1
    · rw [if_pos b] at h; omega
    · rw [if_neg b] at h
      by_cases c : (f k).2 - offA B f k = 1 ∨ (f k).2 - offA B f k = -1
      · exact ⟨by simpa using a, b, c⟩
      · rw [if_neg c] at h; omega
theorem Lp.beg_day {t : Int} (h : Lp.beg t = true) : t % 86400 = 0 := by
  unfold Lp.beg oH oI oS at h
  simp only [Bool.and_eq_true, decide_eq_true_eq] at h
  omega
theorem Lp.val_of {B E : Int} {f : Nat → Int × Int} {n : Nat} (h : chkL B E f n = 0) : Val B E f n := by
  obtain ⟨hn, hR, hf⟩ := chk_zero h
  have ha := fE_all hf
  exact ⟨hn, hR, fun i hi => beg_day (ent_zero (ha i hi)).1, fun i hi => (ent_zero (ha i hi)).1, fun i hi => by
    have := (ent_zero (ha (i + 1) hi)).2.1
    simp only [Nat.add_sub_cancel] at this
    omega, fun i hi => (ent_zero (ha i hi)).2.2⟩
theorem Lp.offA_succ (B : Int) (f : Nat → Int × Int) (k : Nat) : offA B f (k + 1) = (f k).2 := rfl
/-- Entries are a day apart at least. -/
theorem Lp.Val.gap {B E : Int} {f : Nat → Int × Int} {n : Nat} (h : Val B E f n) : ∀ m i, i + m + 1 < n → (f i).1 + 86400 ≤ (f (i + m + 1)).1 := by
  intro m
  induction m with
  | zero =>
    intro i hi
    have a := h.day i (by omega)
    have b := h.day (i + 1) hi
    have c := h.ord i hi
    show (f i).1 + 86400 ≤ (f (i + 1)).1
    omega
  | succ m ih =>
    intro i hi
    have a := ih i (by omega)
    have b := h.ord (i + m + 1) hi
    show (f i).1 + 86400 ≤ (f (i + m + 1 + 1)).1
    omega
theorem Lp.Val.lt {B E : Int} {f : Nat → Int × Int} {n : Nat} (h : Val B E f n) {i j : Nat} (hij : i < j) (hj : j < n) : (f i).1 + 86400 ≤ (f j).1 := by
  have := h.gap (j - i - 1) i (by omega)
  rwa [show i + (j - i - 1) + 1 = j by omega] at this
theorem Lp.Val.near {B E : Int} {f : Nat → Int × Int} {n : Nat} (h : Val B E f n) {i : Nat} (hi : i < n) : (f i).2 = offA B f i + 1 ∨ (f i).2 = offA B f i - 1 := by
  rcases h.stp i hi with h | h <;> omega
theorem Lp.Val.bnd {B E : Int} {f : Nat → Int × Int} {n : Nat} (h : Val B E f n) {i : Nat} (hi : i < n) : -1000 ≤ (f i).2 ∧ (f i).2 ≤ 1000 := (h.rng.2.2 i hi).1
theorem Lp.Val.bndA {B E : Int} {f : Nat → Int × Int} {n : Nat} (h : Val B E f n) {k : Nat} (hk : k ≤ n) : -1000 ≤ offA B f k ∧ offA B f k ≤ 1000 := offA_in h.rng hk
/-- How many entries there are up to a second. -/
theorem Lp.psU_eq {f : Nat → Int × Int} {n k : Nat} {u : Int} (hk : k ≤ n) (h1 : ∀ i, i < k → (f i).1 ≤ u) (h2 : k < n → u < (f k).1) : psU f n u = k := by
  refine fst_eq hk (fun j hj => decide_eq_true (h1 j hj)) ?_
  rcases Nat.lt_or_ge k n with h | h
  · exact .inr (decide_eq_false (by have := h2 h; omega))
  · exact .inl (by omega)
theorem Lp.psT_eq {f : Nat → Int × Int} {n k : Nat} {t : Int} (hk : k ≤ n) (h1 : ∀ i, i < k → (f i).1 + (f i).2 ≤ t) (h2 : k < n → t < (f k).1 + (f k).2) : psT f n t = k := by
  refine fst_eq hk (fun j hj => decide_eq_true (h1 j hj)) ?_
  rcases Nat.lt_or_ge k n with h | h
  · exact .inr (decide_eq_false (by have := h2 h; omega))
  · exact .inl (by omega)
theorem Lp.psU_spec (f : Nat → Int × Int) (n : Nat) (u : Int) : (∀ i, i < psU f n u → (f i).1 ≤ u) ∧ (psU f n u < n → u < (f (psU f n u)).1) := by
  obtain ⟨_, h1, h2⟩ := fst_spec (fun i => decide ((f i).1 ≤ u)) n
  refine ⟨fun i hi => of_decide_eq_true (h1 i hi), fun h => ?_⟩
  rcases h2 with h2 | h2
  · exact absurd h2 (Nat.ne_of_lt h)
  · have := of_decide_eq_false h2
    show u < (f (fst (fun i => decide ((f i).1 ≤ u)) n)).1
    omega
theorem Lp.psT_spec (f : Nat → Int × Int) (n : Nat) (t : Int) : (∀ i, i < psT f n t → (f i).1 + (f i).2 ≤ t) ∧ (psT f n t < n → t < (f (psT f n t)).1 + (f (psT f n t)).2) := by
  obtain ⟨_, h1, h2⟩ := fst_spec (fun i => decide ((f i).1 + (f i).2 ≤ t)) n
  refine ⟨fun i hi => of_decide_eq_true (h1 i hi), fun h => ?_⟩
  rcases h2 with h2 | h2
  · exact absurd h2 (Nat.ne_of_lt h)
  · have := of_decide_eq_false h2
    show t < (f (fst (fun i => decide ((f i).1 + (f i).2 ≤ t)) n)).1 + (f (fst (fun i => decide ((f i).1 + (f i).2 ≤ t)) n)).2
    omega
/-- What holds at the k-th offset. -/
theorem Lp.Val.pre {B E : Int} {f : Nat → Int × Int} {n : Nat} (h : Val B E f n) {k : Nat} (hk : k ≤ n) {u : Int} (h1 : ∀ j, k = j + 1 → (f j).1 ≤ u) : ∀ i, i < k → (f i).1 ≤ u := by
  intro i hi
  obtain ⟨j, rfl⟩ : ∃ j, k = j + 1 := ⟨k - 1, by omega⟩
  have := h1 j rfl
  rcases Nat.lt_or_ge i j with hlt | hge
  · have := h.lt hlt (by omega); omega
  · rw [show i = j by omega]; omega
theorem Lp.Val.preT {B E : Int} {f : Nat → Int × Int} {n : Nat} (h : Val B E f n) {k : Nat} (hk : k ≤ n) {t : Int} (h1 : ∀ j, k = j + 1 → (f j).1 + (f j).2 ≤ t) : ∀ i, i < k → (f i).1 + (f i).2 ≤ t := by
  intro i hi
  obtain ⟨j, rfl⟩ : ∃ j, k = j + 1 := ⟨k - 1, by omega⟩
  have := h1 j rfl
  have b1 := h.bnd (i := i) (by omega)
  have b2 := h.bnd (i := j) (by omega)
  rcases Nat.lt_or_ge i j with hlt | hge
  · have := h.lt hlt (by omega); omega
  · rw [show i = j by omega]; omega

/-- The label of a second leads back to it. -/
theorem Lp.ut_tai {B E : Int} {f : Nat → Int × Int} {n : Nat} {t : Int} (he : utE B E f n t = 0) : taiE B E f n (utV B E f n t) (utP B E f n t) = 0 ∧ taiV B E f n (utV B E f n t) (utP B E f n t) = t := by
  have hz : chkL B E f n = 0 := by
    rcases Int.decEq (chkL B E f n) 0 with h | h
    · unfold utE at he; rw [if_pos h] at he; exact absurd he h
    · exact h
  have hv := val_of hz
  rw [show utV B E f n t = utU B f n t from if_pos he, show utP B E f n t = utX B f n t from if_pos he]
  have hin : inS (utU B f n t) = true := by
    unfold utE at he
    rw [if_neg (by rw [hz]; decide)] at he
    by_cases c : okI (t - offA B f (psT f n t)) = true ∧ inS (utU B f n t) = true
    · exact c.2
    · rw [if_neg c] at he; omega
  have hk := psT_le f n t
  obtain ⟨p1, p2⟩ := psT_spec f n t
  unfold utU utX at *
  generalize psT f n t = k at *
  -- the number of entries up to the label's second
  have hcase : (decide (k < n) && decide (t - offA B f k = (f k).1)) = true ∨ (decide (k < n) && decide (t - offA B f k = (f k).1)) = false := by cases (decide (k < n) && decide (t - offA B f k = (f k).1)) <;> simp
  have hprev : ∀ j, k = j + 1 → (f j).1 ≤ t - offA B f k := by
    intro j e
    have := p1 j (by omega)
    subst e
    rw [offA_succ]; omega
  rcases hcase with hx | hx
  · rw [hx] at hin ⊢
    simp only [if_true] at hin ⊢
    simp only [Bool.and_eq_true, decide_eq_true_eq] at hx
    obtain ⟨hkn, ha⟩ := hx
    have q2 := p2 hkn
    have hst : (f k).2 - offA B f k = 1 := by rcases hv.stp k hkn with h | h <;> omega
    have hps : psU f n (t - offA B f k - 1) = k := by
      refine psU_eq hk (hv.pre hk fun j e => ?_) (fun _ => by omega)
      have := hv.lt (i := j) (j := k) (by omega) hkn
      omega
    have hch : chaU B f n (t - offA B f k - 1) = 1 := by
      unfold chaU; rw [hps, if_pos ⟨hkn, by omega⟩, hst]
    have hte : taiE B E f n (t - offA B f k - 1) true = 0 := by
      unfold taiE
      rw [if_neg (by rw [hz]; decide), if_neg (by rw [hin]; decide), if_neg (by simp [hch])]
    refine ⟨hte, ?_⟩
    unfold taiV
    rw [if_pos hte, hps]; simp; omega
  · rw [hx] at hin ⊢
    simp only [Bool.false_eq_true, if_false, Int.sub_zero] at hin ⊢
    have hnx : k < n → t - offA B f k ≠ (f k).1 := by
      intro h e
      rw [decide_eq_true h, decide_eq_true e] at hx
      cases hx
    have hlt : k < n → t - offA B f k < (f k).1 ∧ ((f k).2 - offA B f k = -1 → t - offA B f k + 1 < (f k).1) := by
      intro h
      have q2 := p2 h
      have := hnx h
      rcases hv.stp k h with h1 | h1 <;> omega
    have hps : psU f n (t - offA B f k) = k := psU_eq hk (hv.pre hk hprev) (fun h => (hlt h).1)
    have hch : chaU B f n (t - offA B f k) ≠ -1 := by
      unfold chaU; rw [hps]
      by_cases c : k < n ∧ (f k).1 = t - offA B f k + 1
      · rw [if_pos c]
        have := (hlt c.1).2
        omega
      · rw [if_neg c]; omega
    have hte : taiE B E f n (t - offA B f k) false = 0 := by
      unfold taiE
      rw [if_neg (by rw [hz]; decide), if_neg (by rw [hin]; decide), if_neg (by simp [hch])]
    refine ⟨hte, ?_⟩
    unfold taiV
    rw [if_pos hte, hps]; simp

/-- The second of a label has that label. -/
theorem Lp.tai_ut {B E : Int} {f : Nat → Int × Int} {n : Nat} {u : Int} {x : Bool} (he : taiE B E f n u x = 0) : utE B E f n (taiV B E f n u x) = 0 ∧ utV B E f n (taiV B E f n u x) = u ∧ utP B E f n (taiV B E f n u x) = x := by
  have hz : chkL B E f n = 0 := by
    rcases Int.decEq (chkL B E f n) 0 with h | h
    · unfold taiE at he; rw [if_pos h] at he; exact absurd he h
    · exact h
  have hv := val_of hz
  rw [show taiV B E f n u x = _ from if_pos he]
  unfold taiE at he
  rw [if_neg (by rw [hz]; decide)] at he
  have hin : inS u = true := by
    cases h : inS u
    · rw [if_pos h] at he; omega
    · rfl
  rw [if_neg (by rw [hin]; decide)] at he
  have hcond : ¬ (if x = true then chaU B f n u ≠ 1 else chaU B f n u = -1) := by
    intro h; rw [if_pos h] at he; omega
  clear he
  have hu : -8000000000 ≤ u ∧ u ≤ 8000000000 := of_decide_eq_true hin
  have hk := psU_le f n u
  obtain ⟨p1, p2⟩ := psU_spec f n u
  have hc1 : x = true → chaU B f n u = 1 := by
    intro h
    subst h
    simpa using hcond
  have hc2 : x = false → chaU B f n u ≠ -1 := by
    intro h
    subst h
    simpa using hcond
  clear hcond
  unfold chaU at hc1 hc2
  generalize psU f n u = k at *
  have hb := hv.bndA hk
  have hnext : k < n → (f k).1 + (f k).2 > u + offA B f k + (if x = true then 1 else 0) ∧ (x = true → (f k).1 = u + 1) ∧ u < (f k).1 := by
    intro h
    have q := p2 h
    have st := hv.stp k h
    by_cases e : (f k).1 = u + 1
    · rw [if_pos ⟨h, e⟩] at hc1 hc2
      cases x
      · have := hc2 rfl; simp; omega
      · have := hc1 rfl; simp; omega
    · rw [if_neg (fun h => e h.2)] at hc1 hc2
      cases x
      · simp; omega
      · have := hc1 rfl; omega
  have hxn : x = true → k < n := by
    intro hx
    rcases Nat.lt_or_ge k n with h | h
    · exact h
    · have := hc1 hx
      rw [if_neg (fun hh => absurd hh.1 (by omega))] at this
      omega
  have hps : psT f n (u + offA B f k + (if x = true then 1 else 0)) = k := by
    refine psT_eq hk (hv.preT hk fun j e => ?_) (fun h => (hnext h).1)
    subst e
    have := p1 j (by omega)
    rw [offA_succ]
    split <;> omega
  have hX : utX B f n (u + offA B f k + (if x = true then 1 else 0)) = x := by
    unfold utX; rw [hps]
    cases x
    · simp
      intro h
      have := (hnext h).2.2
      omega
    · have h := hxn rfl
      have := (hnext h).2.1 rfl
      simp [h]; omega
  have hU : utU B f n (u + offA B f k + (if x = true then 1 else 0)) = u := by
    unfold utU; rw [hX, hps]; split <;> omega
  have hE : utE B E f n (u + offA B f k + (if x = true then 1 else 0)) = 0 := by
    unfold utE
    rw [if_neg (by rw [hz]; decide), hU, hps, if_pos ⟨okI_yes (by split <;> omega) (by split <;> omega), hin⟩]
  exact ⟨hE, by unfold utV; rw [if_pos hE, hU], by unfold utP; rw [if_pos hE, hX]⟩

/-- The labels of a second and of the next one. -/
theorem Lp.ticks {B E : Int} {f : Nat → Int × Int} {n : Nat} {t : Int} (he : utE B E f n t = 0) (hf : utE B E f n (t + 1) = 0) :
    (utP B E f n (t + 1) = true → utV B E f n (t + 1) = utV B E f n t ∧ utP B E f n t = false ∧ offU B E f n (utV B E f n t + 1) - offU B E f n (utV B E f n t) = 1) ∧
    (utP B E f n (t + 1) = false → (utV B E f n (t + 1) - utV B E f n t = 2 ∧ utP B E f n t = false ∧ offU B E f n (utV B E f n (t + 1)) - offU B E f n (utV B E f n t) = -1) ∨
      (utV B E f n (t + 1) - utV B E f n t = 1 ∧ (utP B E f n t = true → offU B E f n (utV B E f n (t + 1)) - offU B E f n (utV B E f n t) = 1))) := by
  have hz : chkL B E f n = 0 := by
    rcases Int.decEq (chkL B E f n) 0 with h | h
    · unfold utE at he; rw [if_pos h] at he; exact absurd he h
    · exact h
  have hv := val_of hz
  rw [show utV B E f n t = utU B f n t from if_pos he, show utP B E f n t = utX B f n t from if_pos he, show utV B E f n (t + 1) = utU B f n (t + 1) from if_pos hf, show utP B E f n (t + 1) = utX B f n (t + 1) from if_pos hf]
  have off : ∀ u, offU B E f n u = offA B f (psU f n u) := fun u => if_pos hz
  simp only [off]
  clear he hf off
  have hk := psT_le f n t
  obtain ⟨p1, p2⟩ := psT_spec f n t
  have hk' := psT_le f n (t + 1)
  obtain ⟨p1', p2'⟩ := psT_spec f n (t + 1)
  unfold utU utX
  generalize psT f n t = k at *
  generalize psT f n (t + 1) = k' at *
  have h1 : k ≤ k' := by
    rcases Nat.lt_or_ge k' k with h | h
    · have a := p2' (by omega)
      have b := p1 k' h
      omega
    · exact h
  have h2 : k' ≤ k + 1 := by
    rcases Nat.lt_or_ge (k + 1) k' with h | h
    · have a := p1' (k + 1) h
      have b := p2 (by omega)
      have c := hv.lt (i := k) (j := k + 1) (by omega) (by omega)
      have d := hv.bnd (i := k + 1) (by omega)
      have e := hv.bnd (i := k) (by omega)
      omega
    · exact h
  rcases Nat.lt_or_ge k k' with hkk | hkk
  · -- an entry begins with the next second
    obtain rfl : k' = k + 1 := by omega
    have hkn : k < n := by omega
    have a := p1' k (by omega)
    have b := p2 hkn
    have st := hv.stp k hkn
    have hq : (decide (k + 1 < n) && decide (t + 1 - offA B f (k + 1) = (f (k + 1)).1)) = false := by
      rcases Nat.lt_or_ge (k + 1) n with h | h
      · have c := hv.lt (i := k) (j := k + 1) (by omega) h
        rw [offA_succ, decide_eq_false (show ¬ t + 1 - (f k).2 = (f (k + 1)).1 by omega)]; simp
      · rw [decide_eq_false (show ¬ k + 1 < n by omega)]; rfl
    rw [hq]
    simp only [Bool.false_eq_true, if_false, false_implies, true_and, forall_const, Int.sub_zero]
    rw [offA_succ]
    have hprev : ∀ j, k = j + 1 → (f j).1 + 86400 ≤ (f k).1 := fun j e => hv.lt (by omega) hkn
    have hA : psU f n ((f k).1) = k + 1 := psU_eq (by omega) (hv.pre (by omega) fun j e => by (obtain rfl : j = k := (by omega)); omega) (fun h => by have := hv.lt (i := k) (j := k + 1) (by omega) h; omega)
    have hB : psU f n ((f k).1 - 1) = k := psU_eq (by omega) (hv.pre (by omega) fun j e => by have := hprev j e; omega) (fun _ => by omega)
    have hC : psU f n ((f k).1 - 2) = k := psU_eq (by omega) (hv.pre (by omega) fun j e => by have := hprev j e; omega) (fun _ => by omega)
    rcases st with st | st
    · have hp : (decide (k < n) && decide (t - offA B f k = (f k).1)) = true := by rw [decide_eq_true hkn, decide_eq_true (show t - offA B f k = (f k).1 by omega)]; rfl
      rw [hp]
      simp only [if_true]
      refine .inr ⟨by omega, fun _ => ?_⟩
      rw [show t + 1 - (f k).2 = (f k).1 by omega, show t - offA B f k - 1 = (f k).1 - 1 by omega, hA, hB, offA_succ]
      exact st
    · have hp : (decide (k < n) && decide (t - offA B f k = (f k).1)) = false := by rw [decide_eq_false (show ¬ t - offA B f k = (f k).1 by omega)]; simp
      rw [hp]
      simp only [Bool.false_eq_true, if_false, Int.sub_zero]
      refine .inl ⟨by omega, trivial, ?_⟩
      rw [show t + 1 - (f k).2 = (f k).1 by omega, show t - offA B f k = (f k).1 - 2 by omega, hA, hC, offA_succ]
      exact st
  · obtain rfl : k = k' := by omega
    have hpf : (decide (k < n) && decide (t - offA B f k = (f k).1)) = false := by
      rcases Nat.lt_or_ge k n with h | h
      · have b := p2' h
        have st := hv.stp k h
        rw [decide_eq_false (show ¬ t - offA B f k = (f k).1 by omega)]; simp
      · rw [decide_eq_false (show ¬ k < n by omega)]; rfl
    rw [hpf]
    simp only [Bool.false_eq_true, if_false, Int.sub_zero, true_and, false_implies, and_true]
    cases hq : (decide (k < n) && decide (t + 1 - offA B f k = (f k).1))
    · simp; omega
    · simp only [Bool.and_eq_true, decide_eq_true_eq] at hq
      obtain ⟨hkn, ha⟩ := hq
      have b := p2' hkn
      have st := hv.stp k hkn
      have hA : psU f n ((f k).1) = k + 1 := psU_eq (by omega) (hv.pre (by omega) fun j e => by (obtain rfl : j = k := (by omega)); omega) (fun h => by have := hv.lt (i := k) (j := k + 1) (by omega) h; omega)
      have hB : psU f n ((f k).1 - 1) = k := psU_eq (by omega) (hv.pre (by omega) fun j e => by have := hv.lt (i := j) (j := k) (by omega) hkn; omega) (fun _ => by omega)
      simp only [if_true, forall_const, Bool.true_eq_false, false_implies, and_true]
      refine ⟨by omega, ?_⟩
      rw [show t - offA B f k + 1 = (f k).1 by omega, show t - offA B f k = (f k).1 - 1 by omega, hA, hB, offA_succ]
      omega
end Go.Proofs.YtegpajdahanhfaaGreatDoor
