/- Contracts of layer 6: what a reading holds; one line of a table's text. -/
import Derived.Test.YtegpajdahanhfaaGreatDoorLeaN
namespace Go.Proofs.YtegpajdahanhfaaGreatDoor
open Go.RowKit Go.Shelf Fx Cv Lp

/-- What has been read of a table's text. -/
structure Lp.RS where
  b : Int
  e : Int
  he : Bool
  hb : Bool
  l : List (Int × Int)
def Lp.ents (l : List (Int × Int)) : List Value := l.flatMap (fun p => [.int .i64 p.1, .int .i64 p.2])
theorem Lp.ents_len (l : List (Int × Int)) : (ents l).length = l.length * 2 := by
  unfold ents
  induction l with
  | nil => rfl
  | cons a l ih => rw [List.flatMap_cons, List.length_append, ih]; simp; omega
/-- Block B is the box of a reading. -/
def Lp.RR (B : Nat) (W : World) (s : RS) : Prop :=
  ∃ v, W.heap[B]? = some (.cells #[.int .i64 s.b, .int .i64 s.e, v, .bool s.he, .bool s.hb] 57 (0, 0)) ∧ W.ownsRow (B + 1) 44 2 v s.l.length (ents s.l)
theorem Lp.RR.lt {B : Nat} {W : World} {s : RS} (h : RR B W s) : B < W.heap.size := by
  obtain ⟨v, h, _⟩ := h; exact (Array.getElem?_eq_some_iff.1 h).1
theorem Lp.RR.below {B : Nat} {W W' : World} {s : RS} (h : RR B W s) (hb : Below W.heap.size W W') : RR B W' s := by
  have hl := h.lt
  obtain ⟨v, h, hr⟩ := h
  exact ⟨v, (hb.block B hl).trans h, row_below hr hb⟩
/-- The row of the entries is not the reading's own box. -/
theorem Lp.row_ne {W : World} {B base : Nat} {e : TypeId} {size : Nat} {v : Value} {k : Nat} {xs : List Value} (hr : W.ownsRow base e size v k xs) (hB : B < base) : v.ownBlock ≠ some B := by
  rcases hr.2 with ⟨rfl, _⟩ | ⟨g, cap, cur, rfl, hg, _⟩
  · simp [Value.ownBlock]
  · simp [Value.ownBlock]; omega
theorem Lp.setblk {W : World} {B i : Nat} {cs : Array Value} {t : TypeId} (h : W.heap[B]? = some (.cells cs t (0, 0))) (v : Value) : (W.setCell ⟨B, i, none⟩ v).heap[B]? = some (.cells (cs.set! i v) t (0, 0)) := by
  obtain ⟨hlt, hk⟩ := Array.getElem?_eq_some_iff.1 h
  show (W.heap.modify B _)[B]? = _
  rw [Array.getElem?_eq_getElem (by rw [Array.size_modify]; exact hlt), Array.getElem_modify_self, hk]
  simp
theorem Lp.grown_set (W : World) (b i : Nat) (v : Value) : W.grownBy (W.setCell ⟨b, i, none⟩ v) (some b) :=
  ⟨rfl, rfl, rfl, (KeepsWalks.setCell W _ v).size, fun k _ hk => Below.heap_setCell _ _ _ k (fun e => hk (by rw [e]))⟩

theorem lsetE_any (x : ByteArray) (hxs : x.size ≤ 4294967280) (hxa : Asc x) (B : Nat) (s : RS) (w : World) (hp : Tab w) (he : Errs w) (hR : RR B w s) :
    Calls Tryz.prog 56 #[.pointer (some ⟨B, 1, none⟩), .pointer (some ⟨B, 3, none⟩), .string x] w fun e w' => e = .returned (.bool (nmB x.data.toList 1 && !s.he)) ∧
      RR B w' (if nmB x.data.toList 1 && !s.he then { s with e := oneV x.data.toList, he := true } else s) ∧ Below B w w' := by
  have hBl := hR.lt
  obtain ⟨v, hb, hr⟩ := hR
  refine (lsetonce_any x hxs hxa B 1 3 s.e s.he _ _ w hp he hb rfl rfl (by decide)).mono ?_
  rintro e w' ⟨he', w1, hb1, rfl⟩
  refine ⟨he', ?_, ?_⟩
  · have h1 := (hb1.block B hBl).trans hb
    have r1 := row_below hr hb1
    split
    · refine ⟨v, ?_, (r1.kept (grown_set w1 B 1 _) (.inr (row_ne r1 (by omega)))).kept (grown_set _ B 3 _) (.inr (row_ne r1 (by omega)))⟩
      rw [setblk (setblk h1 _) _]; rfl
    · exact ⟨v, h1, r1⟩
  · have h2 := hb1.mono (show B ≤ w.heap.size by omega)
    split
    · exact (h2.setCell (p := ⟨B, 1, none⟩) (Nat.le_refl B) _).setCell (p := ⟨B, 3, none⟩) (Nat.le_refl B) _
    · exact h2

theorem lsetB_any (x : ByteArray) (hxs : x.size ≤ 4294967280) (hxa : Asc x) (B : Nat) (s : RS) (w : World) (hp : Tab w) (he : Errs w) (hR : RR B w s) :
    Calls Tryz.prog 56 #[.pointer (some ⟨B, 0, none⟩), .pointer (some ⟨B, 4, none⟩), .string x] w fun e w' => e = .returned (.bool (nmB x.data.toList 1 && !s.hb)) ∧
      RR B w' (if nmB x.data.toList 1 && !s.hb then { s with b := oneV x.data.toList, hb := true } else s) ∧ Below B w w' := by
  have hBl := hR.lt
  obtain ⟨v, hb, hr⟩ := hR
  refine (lsetonce_any x hxs hxa B 0 4 s.b s.hb _ _ w hp he hb rfl rfl (by decide)).mono ?_
  rintro e w' ⟨he', w1, hb1, rfl⟩
  refine ⟨he', ?_, ?_⟩
  · have h1 := (hb1.block B hBl).trans hb
    have r1 := row_below hr hb1
    split
    · refine ⟨v, ?_, (r1.kept (grown_set w1 B 0 _) (.inr (row_ne r1 (by omega)))).kept (grown_set _ B 4 _) (.inr (row_ne r1 (by omega)))⟩
      rw [setblk (setblk h1 _) _]; rfl
    · exact ⟨v, h1, r1⟩
  · have h2 := hb1.mono (show B ≤ w.heap.size by omega)
    split
    · exact (h2.setCell (p := ⟨B, 0, none⟩) (Nat.le_refl B) _).setCell (p := ⟨B, 4, none⟩) (Nat.le_refl B) _
    · exact h2

/-- What a line says. -/
def Lp.readV (x : List UInt8) (s : RS) : Option RS :=
  match tagV [35, 64] x with
  | some r => if nmB r 1 && !s.he then some { s with e := oneV r, he := true } else none
  | none =>
    match tagV [35, 61] x with
    | some r => if nmB r 1 && !s.hb then some { s with b := oneV r, hb := true } else none
    | none =>
      match trL (trR (cutL 35 x)) with
      | [] => some s
      | _ :: _ => if nmB (cutL 35 x) 2 then some { s with l := s.l ++ [(numV ((flds (cutL 35 x)).headD []), numV (((flds (cutL 35 x)).drop 1).headD []))] } else none
end Go.Proofs.YtegpajdahanhfaaGreatDoor
