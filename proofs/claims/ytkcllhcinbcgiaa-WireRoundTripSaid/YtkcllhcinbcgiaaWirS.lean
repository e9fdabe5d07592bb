/- The walk of WireStops. -/
import Derived.Test.YtkcllhcinbcgiaaWirJ
namespace Go.Proofs.Ytkcllhcinbcgiaa
open Go.RowKit Wi

/-- The slice of n calls at A reads as f and lies below block B. -/
def CReads (w : World) (B : Nat) (A : Option Addr) (n : Nat) (f : Nat → Int × Int) : Prop :=
  0 < n → ∃ b off, A = some ⟨b, off, none⟩ ∧ b < B ∧ ∀ i, i < n → w.cell? ⟨b, off + i * 2, none⟩ = some (.int .i64 (f i).1) ∧ w.cell? ⟨b, off + i * 2 + 1, none⟩ = some (.int .i64 (f i).2)
theorem CReads.keep {w w' : World} {B : Nat} {A : Option Addr} {n : Nat} {f : Nat → Int × Int} (h : CReads w B A n f) (hk : ∀ p : Addr, p.block < B → w'.cell? p = w.cell? p) : CReads w' B A n f := fun hn => by
  obtain ⟨b, off, e, hb, hc⟩ := h hn
  exact ⟨b, off, e, hb, fun i hi => ⟨(hk _ hb).trans (hc i hi).1, (hk _ hb).trans (hc i hi).2⟩⟩
theorem CReads.below {w w' : World} {B : Nat} {A : Option Addr} {n : Nat} {f : Nat → Int × Int} (h : CReads w B A n f) (hb : Below B w w') : CReads w' B A n f := h.keep fun _ hp => hb.cell hp

theorem first_any (A : Option Addr) (n c : Nat) (w : World) (hm : n ≤ 9223372036854775807) (hc : n ≤ c) :
    Calls Try.prog 50 #[.slice A n c] w fun e w' => e = .returned (.slice A (min n 200) c) ∧ w = w' := by
  by_cases h : n ≤ 200
  · rw [Nat.min_eq_left h]
    go_enter Try.func50, Try.ntmps50
    go_wp2_with fail
    go_ret
    exact ⟨rfl, rfl⟩
  · rw [Nat.min_eq_right (by omega)]
    have h2 : 200 ≤ c := by omega
    go_enter Try.func50, Try.ntmps50
    go_wp2_with fail
    go_ret
    exact ⟨rfl, rfl⟩

theorem stopped {l : List Int} {err n : Int} (he : err ≠ 0) : numV l err n = 0 ∧ numL l err n = l ∧ numE l err n = err ∧ intV l err n = 0 ∧ takeV l err n = [] ∧ takeL l err n = l ∧ takeE l err n = err :=
  ⟨if_neg he, if_neg (fun h => he h.1), if_neg he, by unfold intV; rw [if_neg (by rw [show numE l err n = err from if_neg he]; exact he)], if_neg (fun h => he h.1), if_neg (fun h => he h.1), if_neg he⟩

/-- Block B is the box of one call. -/
def Box (w : World) (B : Nat) (k x : Int) : Prop := w.heap[B]? = some (.cells #[.int .i64 k, .int .i64 x] 51 (0, 0))
theorem Box.grown {w w' : World} {B g : Nat} {k x : Int} (h : Box w B k x) (hg : w.grownBy w' (some g)) (hne : B ≠ g) : Box w' B k x :=
  (hg.block B (two_cells h).2.2.2.2 (fun e => by injection e with e; omega)).trans h

theorem skip_tmod (x : Int) (n : Nat) (hn : n ≤ 5000) : ∃ t : Nat, t ≤ n ∧ (IntKind.u64.wrap x).tmod ((n : Int) + 1) = (t : Int) := by
  have h : 0 ≤ IntKind.u64.wrap x := by rw [IntKind.wrap_u64]; omega
  rw [Int.tmod_eq_emod_of_nonneg h]
  have h0 := Int.emod_nonneg (IntKind.u64.wrap x) (b := (n : Int) + 1) (by omega)
  have h1 := Int.emod_lt_of_pos (IntKind.u64.wrap x) (b := (n : Int) + 1) (by omega)
  exact ⟨(IntKind.u64.wrap x % ((n : Int) + 1)).toNat, by omega, by omega⟩

/-- What the law does in the loop and behind it, in words of the reader's state. -/
def StopInv (w wr : World) (g : Nat) (l : List Int) (want : Int) : Prop := Hid (PRd wr g l want) ∧ Below w.heap.size w wr

end Go.Proofs.Ytkcllhcinbcgiaa
