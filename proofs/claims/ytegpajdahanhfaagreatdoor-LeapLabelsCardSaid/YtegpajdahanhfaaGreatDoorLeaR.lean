/- Contracts of layer 6: Parse of the program. -/
import Derived.Test.YtegpajdahanhfaaGreatDoorLeaQ
namespace Go.Proofs.YtegpajdahanhfaaGreatDoor
open Go.RowKit Go.Shelf Fx Cv Lp

/-- All lines. -/
def Lp.readAll : Nat → List UInt8 → RS → Option RS
  | 0, _, s => some s
  | _ + 1, [], s => some s
  | n + 1, c :: l, s => match readV (cutL 10 (c :: l)) s with
    | none => none
    | some s' => readAll n (cutR 10 (c :: l)) s'
theorem Lp.cutR_lt (c : UInt8) (l : List UInt8) : (cutR 10 (c :: l)).length ≤ l.length := by
  unfold cutR
  have h := (List.dropWhile_sublist (fun x => x != 10) (l := c :: l)).length_le
  rw [List.length_drop]
  simp at h
  omega
theorem Lp.readAll_fuel : ∀ (n m : Nat) (l : List UInt8) (s : RS), l.length ≤ n → l.length ≤ m → readAll n l s = readAll m l s := by
  intro n
  induction n with
  | zero =>
    intro m l s h _
    obtain rfl : l = [] := List.eq_nil_of_length_eq_zero (by omega)
    cases m <;> rfl
  | succ n ih =>
    intro m l s h h2
    cases l with
    | nil => cases m <;> rfl
    | cons c l =>
      cases m with
      | zero => simp at h2
      | succ m =>
        have := cutR_lt c l
        simp at h h2
        unfold readAll
        split
        · rfl
        · exact ih m _ _ (by omega) (by omega)
theorem Lp.readV_len {x : List UInt8} {s s' : RS} (h : readV x s = some s') : s'.l.length ≤ s.l.length + 1 := by
  unfold readV at h
  split at h
  · split at h
    · cases h; simp
    · cases h
  · split at h
    · split at h
      · cases h; simp
      · cases h
    · split at h
      · cases h; omega
      · split at h
        · cases h; simp
        · cases h
def Lp.rs0 : RS := ⟨0, 0, false, false, []⟩
def Lp.entF (l : List (Int × Int)) (i : Nat) : Int × Int := l.getD i (0, 0)
/-- What Parse returns: the error, the table. -/
def Lp.parV (x : List UInt8) : Int × RS :=
  match readAll x.length x rs0 with
  | none => (19, rs0)
  | some s => if s.he && s.hb then (if chkL s.b s.e (entF s.l) s.l.length = 0 then (0, s) else (chkL s.b s.e (entF s.l) s.l.length, rs0)) else (11, rs0)
theorem Lp.ents_at (l : List (Int × Int)) : ∀ i, i < l.length → (ents l)[i * 2]? = some (.int .i64 (entF l i).1) ∧ (ents l)[i * 2 + 1]? = some (.int .i64 (entF l i).2) := by
  induction l with
  | nil => intro i h; simp at h
  | cons a l ih =>
    intro i h
    cases i with
    | zero => simp [ents, entF]
    | succ i =>
      have := ih i (by simpa using h)
      have e1 : (i + 1) * 2 = i * 2 + 1 + 1 := by omega
      have e2 : ents (a :: l) = .int .i64 a.1 :: .int .i64 a.2 :: ents l := rfl
      rw [e1, e2]
      simpa [entF] using this
theorem Lp.row_lrd {W : World} {base : Nat} {p : Option Addr} {k c : Nat} {l : List (Int × Int)} (h : W.ownsRow base 44 2 (.slice p k c) k (ents l)) (hk : l.length = k) : LRd W W.heap.size p k (entF l) := by
  intro hk0
  rcases h.2 with ⟨_, h0⟩ | ⟨g, cap, cur, hv, hg, hgb, hkc, hc, hsz, htk⟩
  · omega
  · injection hv with h1 h2 h3
    refine ⟨g, 0, h1, (Array.getElem?_eq_some_iff.1 hgb).1, fun i hi => ?_⟩
    obtain ⟨a, b⟩ := ents_at l i (by omega)
    rw [← htk] at a b
    have e : ∀ j, j < k * 2 → W.cell? ⟨g, j, none⟩ = (cur.toList.take (k * 2))[j]? := by
      intro j hj
      simp only [World.cell?, hgb]
      simp [hj]
    refine ⟨?_, ?_⟩
    · rw [Nat.zero_add, e (i * 2) (by omega)]; exact a
    · rw [Nat.zero_add, e (i * 2 + 1) (by omega)]; exact b
/-- A table is stored whole. -/
theorem Lp.tb_store {W : World} {G : Nat} {B E : Int} {a : Option Addr} {n c : Nat} (h : TBx W G B E a n c) (u0 u1 : Int) (a' : Option Addr) (n' c' : Nat) :
    ∃ W1 W2 W3, W.setCell ⟨G, 0, none⟩ (.int .i64 u0) = W1 ∧ W1.setCell ⟨G, 1, none⟩ (.int .i64 u1) = W2 ∧ W2.setCell ⟨G, 2, none⟩ (.slice a' n' c') = W3 ∧
      (W.cell? ⟨G, 0, none⟩ = some (.int .i64 B) ∧ W.frozen? ⟨G, 0, none⟩ = false) ∧ (W1.cell? ⟨G, 1, none⟩ = some (.int .i64 E) ∧ W1.frozen? ⟨G, 1, none⟩ = false) ∧ (W2.cell? ⟨G, 2, none⟩ = some (.slice a n c) ∧ W2.frozen? ⟨G, 2, none⟩ = false) ∧
      Hid (TBx W3 G u0 u1 a' n' c') ∧ Hid (Below G W W3 ∧ W.grownBy W3 (some G)) := by
  have h0 : W.heap[G]? = some (.cells #[.int .i64 B, .int .i64 E, .slice a n c] 24 (0, 0)) := h
  have h1 := setblk (i := 0) h0 (.int .i64 u0)
  have h2 := setblk (i := 1) h1 (.int .i64 u1)
  have h3 := setblk (i := 2) h2 (.slice a' n' c')
  refine ⟨_, _, _, rfl, rfl, rfl, ⟨by simp [World.cell?, h0], by simp [World.frozen?, h0]⟩, ⟨by simp [World.cell?, h1], by simp [World.frozen?, h1]⟩, ⟨by simp [World.cell?, h2], by simp [World.frozen?, h2]⟩, Lib.hid h3, Lib.hid ⟨?_, ?_⟩⟩
  · exact (((Below.refl G W).setCell (p := ⟨G, 0, none⟩) (Nat.le_refl G) _).setCell (p := ⟨G, 1, none⟩) (Nat.le_refl G) _).setCell (p := ⟨G, 2, none⟩) (Nat.le_refl G) _
  · exact ((grown_set W G 0 _).trans (grown_set _ G 1 _)).trans (grown_set _ G 2 _)
def Lp.PPost (x : List UInt8) (w : World) (e : Ending) (w' : World) : Prop :=
  Below w.heap.size w w' ∧ ∃ v, e = .returned (.tuple #[.agg #[.int .i64 (parV x).2.b, .int .i64 (parV x).2.e, v], .int .i64 (parV x).1]) ∧ w'.ownsRow w.heap.size 44 2 v (parV x).2.l.length (ents (parV x).2.l)
end Go.Proofs.YtegpajdahanhfaaGreatDoor
