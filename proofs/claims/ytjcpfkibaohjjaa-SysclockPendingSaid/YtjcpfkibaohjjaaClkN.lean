/- The plain arithmetic of layer 10: the changes of a state. -/
import Derived.Test.YtjcpfkibaohjjaaClkM
namespace Go.Proofs.Ytjcpfkibaohjjaa.Ck
open Fx

/-- Setting the frequency: error, state. -/
def frE (x : St) (raw ppb : Int) : Int := if win ppb 500000 = true then mvE x raw else 3
def frZ (x : St) (raw ppb : Int) : St := ⟨raw, at' x raw, ppb, lft x raw, if lft x raw = 0 then 0 else x.q, x.s⟩
def frS (x : St) (raw ppb : Int) : St := if frE x raw ppb = 0 then frZ x raw ppb else x
/-- Slewing. -/
def slOk (d rate : Int) : Bool := decide (-4503599627370496 ≤ d ∧ d ≤ 4503599627370496 ∧ 1 ≤ rate ∧ rate ≤ 500000)
def slE (x : St) (raw d rate : Int) : Int := if slOk d rate = true then mvE x raw else 3
def slZ (x : St) (raw d rate : Int) : St := ⟨raw, at' x raw, x.p, d, if d = 0 then 0 else rate, x.s⟩
def slS (x : St) (raw d rate : Int) : St := if slE x raw d rate = 0 then slZ x raw d rate else x
/-- Stepping. -/
def spI (x : St) (raw d : Int) : Int := if win (at' x raw + d) 4503599627370496 = true then if x.s = 9223372036854775807 then 4 else 0 else 3
def spE (x : St) (raw d : Int) : Int := if win d 4503599627370496 = true then if mvE x raw = 0 then spI x raw d else mvE x raw else 3
def spZ (x : St) (raw d : Int) : St := ⟨raw, at' x raw + d, x.p, 0, 0, x.s + 1⟩
def spS (x : St) (raw d : Int) : St := if spE x raw d = 0 then spZ x raw d else x

theorem slOk_iff {d rate : Int} : slOk d rate = true ↔ (-4503599627370496 ≤ d ∧ d ≤ 4503599627370496 ∧ 1 ≤ rate ∧ rate ≤ 500000) := by simp [slOk]
theorem slOk_iff' {d rate : Int} : slOk d rate = false ↔ ¬(-4503599627370496 ≤ d ∧ d ≤ 4503599627370496 ∧ 1 ≤ rate ∧ rate ≤ 500000) := by simp [slOk]
theorem frE_iff {x : St} {raw ppb : Int} : frE x raw ppb = 0 ↔ ((-500000 ≤ ppb ∧ ppb ≤ 500000) ∧ mvE x raw = 0) := by
  unfold frE
  cases h : win ppb 500000 with
  | true => rw [if_pos rfl]; have := win_iff.1 h; exact ⟨fun h' => ⟨this, h'⟩, fun h' => h'.2⟩
  | false => rw [if_neg (by decide)]; have := win_iff'.1 h; exact ⟨fun h' => by omega, fun h' => absurd h'.1 this⟩
theorem slE_iff {x : St} {raw d rate : Int} : slE x raw d rate = 0 ↔ ((-4503599627370496 ≤ d ∧ d ≤ 4503599627370496 ∧ 1 ≤ rate ∧ rate ≤ 500000) ∧ mvE x raw = 0) := by
  unfold slE
  cases h : slOk d rate with
  | true => rw [if_pos rfl]; have := slOk_iff.1 h; exact ⟨fun h' => ⟨this, h'⟩, fun h' => h'.2⟩
  | false => rw [if_neg (by decide)]; have := slOk_iff'.1 h; exact ⟨fun h' => by omega, fun h' => absurd h'.1 this⟩
theorem spI_iff {x : St} {raw d : Int} : spI x raw d = 0 ↔ ((-4503599627370496 ≤ at' x raw + d ∧ at' x raw + d ≤ 4503599627370496) ∧ x.s ≠ 9223372036854775807) := by
  unfold spI
  cases h : win (at' x raw + d) 4503599627370496 with
  | true =>
    have := win_iff.1 h
    rw [if_pos rfl]
    by_cases h2 : x.s = 9223372036854775807
    · rw [if_pos h2]; exact ⟨fun h' => by omega, fun h' => absurd h2 h'.2⟩
    · rw [if_neg h2]; exact ⟨fun _ => ⟨this, h2⟩, fun _ => rfl⟩
  | false => rw [if_neg (by decide)]; have := win_iff'.1 h; exact ⟨fun h' => by omega, fun h' => absurd h'.1 this⟩
theorem spE_iff {x : St} {raw d : Int} : spE x raw d = 0 ↔ ((-4503599627370496 ≤ d ∧ d ≤ 4503599627370496) ∧ mvE x raw = 0 ∧ spI x raw d = 0) := by
  unfold spE
  cases h : win d 4503599627370496 with
  | true =>
    have := win_iff.1 h
    rw [if_pos rfl]
    by_cases h2 : mvE x raw = 0
    · rw [if_pos h2]; exact ⟨fun h' => ⟨this, h2, h'⟩, fun h' => h'.2.2⟩
    · rw [if_neg h2]; exact ⟨fun h' => absurd h' h2, fun h' => absurd h'.2.1 h2⟩
  | false => rw [if_neg (by decide)]; have := win_iff'.1 h; exact ⟨fun h' => by omega, fun h' => absurd h'.1 this⟩
theorem fr_ok {x : St} {raw ppb : Int} (h : Ok x) : Ok (frS x raw ppb) := by
  unfold frS
  split
  · rename_i he
    obtain ⟨h1, h2⟩ := frE_iff.1 he
    obtain ⟨hr, ht, hl, hp, hq, hlq, hs⟩ := mv_ok h h2
    exact ⟨hr, ht, hl, h1, hq, hlq, hs⟩
  · exact h
theorem sl_ok {x : St} {raw d rate : Int} (h : Ok x) : Ok (slS x raw d rate) := by
  unfold slS
  split
  · rename_i he
    obtain ⟨⟨d0, d1, r0, r1⟩, h2⟩ := slE_iff.1 he
    obtain ⟨hr, ht, hl, hp, hq, hlq, hs⟩ := mv_ok h h2
    refine ⟨hr, ht, ⟨d0, d1⟩, hp, ?_, ?_, hs⟩
    · show 0 ≤ (if d = 0 then 0 else rate) ∧ (if d = 0 then 0 else rate) ≤ 500000
      split <;> omega
    · show d = 0 ∨ 0 < (if d = 0 then 0 else rate)
      split
      · left; assumption
      · right; omega
  · exact h
theorem sp_ok {x : St} {raw d : Int} (h : Ok x) : Ok (spS x raw d) := by
  unfold spS
  split
  · rename_i he
    obtain ⟨h1, h2, h3⟩ := spE_iff.1 he
    obtain ⟨h4, h5⟩ := spI_iff.1 h3
    obtain ⟨hr, ht, hl, hp, hq, hlq, hs⟩ := mv_ok h h2
    refine ⟨hr, h4, ⟨by show (_ : Int) ≤ 0; decide, by show (0 : Int) ≤ _; decide⟩, hp, ⟨Int.le_refl _, by show (0 : Int) ≤ 500000; decide⟩, .inl rfl, ?_⟩
    have hs' : 0 ≤ x.s ∧ x.s ≤ 9223372036854775807 := hs
    show 0 ≤ x.s + 1 ∧ x.s + 1 ≤ 9223372036854775807
    omega
  · exact h
end Go.Proofs.Ytjcpfkibaohjjaa.Ck
