/- What Tai finds, for an instant's reading. -/
import Derived.Test.YtghaboanakecjaaDoorSmeF
import Derived.Test.YtghaboanakecjaaDoorSmeP
namespace Go.Proofs.YtghaboanakecjaaDoor
open Go.RowKit Fx Cv Lp Sm

theorem Sm.rdg_one {B E : Int} {f : Nat → Int × Int} {n : Nat} {t : Int} (hv : Val B E f n) {k : Nat} (hk : psW f n 1 0 t = k) : rdg B f n 1 0 t = t - offA B f k * 1000000000 := by
  have hi : inW f n 1 0 t = false := by
    cases h : inW f n 1 0 t
    · rfl
    · have b := (place_in (B := B) (E := E) (t := t) hv pol_one).2
      rw [h] at b
      have := (b.resolve_left (fun h => by have := h.2.2; cases this)).2.2.2.1
      omega
  obtain ⟨hr, _⟩ := rdg_out (B := B) hi
  have e : pb f n 1 0 t = k := by unfold pb; rw [hi, if_neg (by decide), hk]
  rw [hr, e]
theorem Sm.en_chg (f : Nat → Int × Int) (i : Nat) : enI f 1 0 i = chg f i := by
  rw [en_one]; unfold fsI sft; rw [if_neg (by decide), if_neg (by decide)]; omega
/-- Among instants that are less than some weeks apart the offset changes once at most. -/
theorem Sm.near_one {B E : Int} {f : Nat → Int × Int} {n : Nat} (hv : Val B E f n) (F b : Int) (hb : b ≤ F + 4000000000000) :
    ∃ o o' c : Int, (o' = o + 1 ∨ o' = o - 1) ∧ (c ≤ b → ∃ j, j < n ∧ chg f j = c) ∧ F < c ∧ ∀ s, F ≤ s → s ≤ b → (s < c → rdg B f n 1 0 s = s - o * 1000000000) ∧ (c ≤ s → rdg B f n 1 0 s = s - o' * 1000000000) := by
  obtain ⟨h0, h1, h2⟩ := psW_spec f n 1 0 F
  obtain ⟨k, hk⟩ : ∃ k, psW f n 1 0 F = k := ⟨_, rfl⟩
  rw [hk] at h0 h1 h2
  rcases Nat.lt_or_ge k n with hl | hg
  · have st := hv.stp k hl
    rw [← offA_succ B f k] at st
    have hc := h2 hl
    rw [en_chg] at hc
    refine ⟨offA B f k, offA B f (k + 1), chg f k, by omega, fun _ => ⟨k, hl, rfl⟩, hc, fun s hs hsb => ⟨fun h => ?_, fun h => ?_⟩⟩
    · exact rdg_one hv (psW_eq h0 (fun i hi => by have := h1 i hi; omega) (fun _ => by rw [en_chg]; exact h))
    · refine rdg_one hv (psW_eq (by omega) (fun i hi => ?_) (fun h3 => ?_))
      · rcases (show i < k ∨ i = k by omega) with a | rfl
        · have := h1 i a; omega
        · rw [en_chg]; exact h
      · have g := beg_gap (hv.beg k hl) (hv.beg (k + 1) h3) (hv.ord k h3)
        have s2 := hv.stp (k + 1) h3
        rw [offA_succ] at s2
        rw [en_chg]
        unfold chg at hc ⊢
        omega
  · obtain rfl : k = n := by omega
    refine ⟨offA B f k, offA B f k + 1, max b F + 1, by omega, fun h => by omega, by omega, fun s hs hsb => ⟨fun h => ?_, fun h => by omega⟩⟩
    exact rdg_one hv (psW_eq (Nat.le_refl k) (fun i hi => by have := h1 i hi; omega) (fun h => by omega))
theorem Sm.cut_min {B : Int} {f : Nat → Int × Int} {K W u : Int} {m : Nat} : ∀ n j, j < n → rch B f m K W u (chg f j - 1) = true → cut B f m K W u n ≤ chg f j - 1 := by
  intro n
  induction n with
  | zero => intro j h; omega
  | succ i ih =>
    intro j h hr
    unfold cut
    rcases (show j < i ∨ j = i by omega) with a | rfl
    · have := ih j a hr
      split <;> omega
    · split
      · omega
      · rename_i hh
        have : ¬ chg f j - 1 < cut B f m K W u j := fun k => hh ⟨k, hr⟩
        omega
theorem Sm.cut_or {B : Int} {f : Nat → Int × Int} {K W u : Int} {m : Nat} : ∀ n, cut B f m K W u n = lstT u ∨ rch B f m K W u (cut B f m K W u n) = true := by
  intro n
  induction n with
  | zero => exact .inl rfl
  | succ i ih =>
    unfold cut
    split
    · rename_i hh; exact .inr hh.2
    · exact ih
/-- No change lies before the first day of the range. -/
theorem Sm.chg_low {B E : Int} {f : Nat → Int × Int} {n : Nat} (hv : Val B E f n) {j : Nat} (hj : j < n) : -7999990000000000000 ≤ chg f j := by
  have d := hv.day j hj
  have r := hv.rng.2.2 j hj
  unfold chg
  omega
theorem Sm.rch_iff {B : Int} {f : Nat → Int × Int} {n : Nat} {K W u t : Int} : rch B f n K W u t = true ↔ u ≤ rdg B f n K W t := by
  unfold rch; simp
theorem Sm.returns {B E : Int} {f : Nat → Int × Int} {n : Nat} {K W t X e : Int} (hc : chkS B E f n K W = 0) (ht : isT t = true) (hu : isT (rdg B f n K W t) = true) (h : TaiR B E f n K W (rdg B f n K W t) X e) :
    e = 0 ∧ isT X = true ∧ rdg B f n K W X = rdg B f n K W t ∧ X ≤ t := by
  obtain ⟨hz, hP⟩ := chk_pol hc
  have hv := val_of hz
  have hn := rdg_near hv hP t
  have tb : -8000000000000000000 ≤ t ∧ t ≤ 8000000000000000000 := of_decide_eq_true ht
  obtain ⟨u, hue⟩ : ∃ u, rdg B f n K W t = u := ⟨_, rfl⟩
  rw [hue] at hu h hn ⊢
  have ub : -8000000000000000000 ≤ u ∧ u ≤ 8000000000000000000 := of_decide_eq_true hu
  rcases h with h | h | ⟨_, _, r, ⟨r0, r1, f1, f2⟩, hr⟩
  · exact absurd hc h.1
  · rw [hu] at h; exact absurd h.2.1 (by decide)
  have cin := cut_in hv hP hu n (Nat.le_refl n)
  have cle := cut_le (B := B) (f := f) (n := n) (K := K) (W := W) (u := u) n
  have cor := cut_or (B := B) (f := f) (m := n) (K := K) (W := W) (u := u) n
  have cmi := fun j hj => cut_min (B := B) (f := f) (m := n) (K := K) (W := W) (u := u) n j hj
  have F1 := clampI_eq (u - 1000000000000)
  have L1 := clampI_eq (u + 1000000000000)
  have sp := Sm.span u
  rw [show clampI (u - 1000000000000) (-8000000000000000000) 8000000000000000000 = fstT u from rfl] at F1
  rw [show clampI (u + 1000000000000) (-8000000000000000000) 8000000000000000000 = lstT u from rfl] at L1
  obtain ⟨F, hF⟩ : ∃ F, fstT u = F := ⟨_, rfl⟩
  obtain ⟨b, hb⟩ : ∃ b, lstT u = b := ⟨_, rfl⟩
  obtain ⟨L, hL⟩ : ∃ L, cut B f n K W u n = L := ⟨_, rfl⟩
  rw [hF] at F1 sp cin r1 f1 f2 hr
  rw [hb] at L1 cor sp cle
  rw [hL] at cin cle cor cmi r1 f2 hr
  clear hF hb hL
  have hFt : F ≤ t := by omega
  have htb : t ≤ b := by omega
  have g1 : 0 < r → rdg B f n K W (F + (r - 1)) < u := fun h => by
    have a := f1 h
    simp only [] at a
    have c : ¬ u ≤ rdg B f n K W (F + (r - 1)) := fun k => by rw [rch_iff.2 k] at a; cases a
    omega
  have g2 : r < L - F + 1 → u ≤ rdg B f n K W (F + r) := fun h => rch_iff.1 (f2 h)
  have core : r ≠ L - F + 1 → rdg B f n K W (F + r) = u ∧ F + r ≤ t → e = 0 ∧ isT X = true ∧ rdg B f n K W X = u ∧ X ≤ t := fun h1 h2 => by
    obtain ⟨_, rfl, rfl⟩ := hr.resolve_left (fun k => h1 k.1)
    exact ⟨rfl, decide_eq_true (by omega), h2.1, h2.2⟩
  by_cases hK : K = 1
  · have hW : W = 0 := hP.st hK
    subst hK
    subst hW
    obtain ⟨o, o', c, ho, hcj, hFc, loc⟩ := near_one hv F b (by omega)
    have lt := loc t hFt htb
    rw [hue] at lt
    have early : t < c → c ≤ b → L ≤ c - 1 := fun h1 h2 => by
      obtain ⟨j, hj, rfl⟩ := hcj h2
      refine cmi j hj (rch_iff.2 ?_)
      have a := (loc (chg f j - 1) (by omega) (by omega)).1 (by omega)
      have b := lt.1 h1
      omega
    have nr : r ≠ L - F + 1 := fun h => by
      have a := g1 (by omega)
      rw [show F + (r - 1) = L by omega] at a
      rcases cor with k | k
      · subst k
        have l := loc L (by omega) (by omega)
        by_cases h1 : t < c
        · by_cases h2 : c ≤ L
          · have := early h1 h2; omega
          · have x := l.1 (by omega)
            have y := lt.1 h1
            omega
        · have x := l.2 (by omega)
          have y := lt.2 (by omega)
          omega
      · have := rch_iff.1 k; omega
    refine core nr ?_
    have gx := g2 (by omega)
    have lx := loc (F + r) (by omega) (by omega)
    have le : F + r ≤ t := by
      apply Classical.byContradiction
      intro hgt
      have a := g1 (by omega)
      have l := loc (F + (r - 1)) (by omega) (by omega)
      by_cases h1 : t < c
      · by_cases h2 : c ≤ F + (r - 1)
        · have := early h1 (by omega); omega
        · have x := l.1 (by omega)
          have y := lt.1 h1
          omega
      · have x := l.2 (by omega)
        have y := lt.2 (by omega)
        omega
    refine ⟨?_, le⟩
    by_cases hr0 : 0 < r
    · have a := g1 hr0
      have l := loc (F + (r - 1)) (by omega) (by omega)
      by_cases h1 : F + r < c
      · have x := lx.1 h1
        have y := l.1 (by omega)
        omega
      · have x := lx.2 (by omega)
        by_cases h2 : F + (r - 1) < c
        · have y := l.1 h2
          have z := lt.2 (by omega)
          omega
        · have y := l.2 (by omega)
          omega
    · have hr0 : r = 0 := by omega
      subst hr0
      have nF := rdg_near hv hP F
      have l := loc F (by omega) (by omega)
      have y := l.1 hFc
      rw [show F + (0 : Int) = F by omega] at gx ⊢
      rcases F1 with ⟨h1, _⟩ | ⟨h1, h2⟩ | ⟨h1, h2⟩
      · omega
      · have hc2 : b < c := by
          apply Classical.byContradiction
          intro h
          obtain ⟨j, hj, rfl⟩ := hcj (by omega)
          have := chg_low hv hj
          omega
        have z := lt.1 (by omega)
        omega
      · omega
  · have mono : ∀ p q, p ≤ q → rdg B f n K W p ≤ rdg B f n K W q := fun p q h => (rdg_mono hv hP hK h).1
    have nr : r ≠ L - F + 1 := fun h => by
      have a := g1 (by omega)
      rw [show F + (r - 1) = L by omega] at a
      rcases cor with k | k
      · subst k
        have := mono t L htb
        omega
      · have := rch_iff.1 k; omega
    refine core nr ?_
    have gx := g2 (by omega)
    have le : F + r ≤ t := by
      apply Classical.byContradiction
      intro hgt
      have a := g1 (by omega)
      have := mono t (F + (r - 1)) (by omega)
      omega
    have := mono (F + r) t le
    exact ⟨by omega, le⟩
end Go.Proofs.YtghaboanakecjaaDoor
