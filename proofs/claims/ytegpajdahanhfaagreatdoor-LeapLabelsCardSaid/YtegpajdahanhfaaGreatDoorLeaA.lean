/- Contracts of layer 6: tables, small functions. -/
import Derived.Test.YtegpajdahanhfaaGreatDoorCivK
import Derived.Deep.RegionHeld3
namespace Go.Proofs.YtegpajdahanhfaaGreatDoor
open Go.RowKit Fx Cv

/-- The n entries at a read as f and lie below block D. -/
def Lp.LRd (w : World) (D : Nat) (a : Option Addr) (n : Nat) (f : Nat → Int × Int) : Prop :=
  0 < n → ∃ b off, a = some ⟨b, off, none⟩ ∧ b < D ∧ ∀ i, i < n → w.cell? ⟨b, off + i * 2, none⟩ = some (.int .i64 (f i).1) ∧ w.cell? ⟨b, off + i * 2 + 1, none⟩ = some (.int .i64 (f i).2)
theorem Lp.LRd.below {w w' : World} {D : Nat} {a : Option Addr} {n : Nat} {f : Nat → Int × Int} (h : LRd w D a n f) (hb : Below D w w') : LRd w' D a n f := fun hn => by
  obtain ⟨b, off, rfl, hlt, hc⟩ := h hn
  exact ⟨b, off, rfl, hlt, fun i hi => ⟨(hb.cell (p := ⟨b, off + i * 2, none⟩) hlt).trans (hc i hi).1, (hb.cell (p := ⟨b, off + i * 2 + 1, none⟩) hlt).trans (hc i hi).2⟩⟩
theorem Lp.LRd.mono {w : World} {D D' : Nat} {a : Option Addr} {n : Nat} {f : Nat → Int × Int} (h : LRd w D a n f) (hD : D ≤ D') : LRd w D' a n f := fun hn => by
  obtain ⟨b, off, rfl, hlt, hc⟩ := h hn
  exact ⟨b, off, rfl, Nat.lt_of_lt_of_le hlt hD, hc⟩
/-- Block G is the box of a table. -/
def Lp.TBx (w : World) (G : Nat) (B E : Int) (a : Option Addr) (n c : Nat) : Prop := w.heap[G]? = some (.cells #[.int .i64 B, .int .i64 E, .slice a n c] 24 (0, 0))
theorem Lp.TBx.lt {w : World} {G : Nat} {B E : Int} {a : Option Addr} {n c : Nat} (h : TBx w G B E a n c) : G < w.heap.size := by
  rcases Nat.lt_or_ge G w.heap.size with hlt | hge
  · exact hlt
  · unfold TBx at h; rw [Array.getElem?_eq_none hge] at h; cases h
theorem Lp.TBx.cells {w : World} {G : Nat} {B E : Int} {a : Option Addr} {n c : Nat} (h : TBx w G B E a n c) :
    w.cell? ⟨G, 0, none⟩ = some (.int .i64 B) ∧ w.cell? ⟨G, 1, none⟩ = some (.int .i64 E) ∧ w.cell? ⟨G, 2, none⟩ = some (.slice a n c) := by
  unfold TBx at h; simp [World.cell?, h]
theorem Lp.TBx.below {w w' : World} {G D : Nat} {B E : Int} {a : Option Addr} {n c : Nat} (h : TBx w G B E a n c) (hb : Below D w w') (hG : G < D) : TBx w' G B E a n c := (hb.block G hG).trans h
theorem Lp.TBx.alloc {w : World} {G : Nat} {B E : Int} {a : Option Addr} {n c : Nat} (h : TBx w G B E a n c) (o : Obj) : TBx (w.alloc o) G B E a n c := (Below.heap_alloc _ _ _ h.lt).trans h
theorem Lp.tbx_new (w : World) (B E : Int) (a : Option Addr) (n c : Nat) : TBx (w.alloc (.cells #[.int .i64 B, .int .i64 E, .slice a n c] 24)) w.heap.size B E a n c := heap_alloc_new w _

/-- The offset after k entries. -/
def Lp.offA (B : Int) (f : Nat → Int × Int) : Nat → Int
  | 0 => B
  | k + 1 => (f k).2
/-- The first second of a month. -/
def Lp.beg (t : Int) : Bool := inS t && (decide (oD t = 1) && (decide (oH t = 0) && (decide (oI t = 0) && decide (oS t = 0))))
/-- All numbers are in their ranges. -/
def Lp.inR (B E : Int) (f : Nat → Int × Int) (n : Nat) : Prop := (-1000 ≤ B ∧ B ≤ 1000) ∧ (-8000000000 ≤ E ∧ E ≤ 8000000000) ∧ ∀ i, i < n → (-1000 ≤ (f i).2 ∧ (f i).2 ≤ 1000) ∧ (-8000000000 ≤ (f i).1 ∧ (f i).1 ≤ 8000000000)
open Lp
theorem Lp.offA_in {B E : Int} {f : Nat → Int × Int} {n k : Nat} (h : inR B E f n) (hk : k ≤ n) : -1000 ≤ offA B f k ∧ offA B f k ≤ 1000 := by
  cases k with
  | zero => exact h.1
  | succ j => exact (h.2.2 j (by omega)).1


theorem lisoff_any (x : Int) (w : World) :
    Calls Tryz.prog 51 #[.int .i64 x] w fun e w' => e = .returned (.bool (decide (-1000 ≤ x ∧ x ≤ 1000))) ∧ w' = w := by
  by_cases a : -1000 ≤ x
  · by_cases b : x ≤ 1000
    · rw [decide_eq_true ⟨a, b⟩]
      go_enter Tryz.func51, Tryz.ntmps51
      go_wp2
      go_ret
      exact ⟨rfl, rfl⟩
    · rw [decide_eq_false (by omega)]
      go_enter Tryz.func51, Tryz.ntmps51
      go_wp2
      go_ret
      exact ⟨rfl, rfl⟩
  · rw [decide_eq_false (by omega)]
    go_enter Tryz.func51, Tryz.ntmps51
    go_wp2
    go_ret
    exact ⟨rfl, rfl⟩
theorem lissec_any (x : Int) (w : World) :
    Calls Tryz.prog 32 #[.int .i64 x] w fun e w' => e = .returned (.bool (inS x)) ∧ w' = w := by
  by_cases a : -8000000000 ≤ x
  · by_cases b : x ≤ 8000000000
    · rw [show inS x = true from decide_eq_true ⟨a, b⟩]
      go_enter Tryz.func32, Tryz.ntmps32
      go_wp2
      go_ret
      exact ⟨rfl, rfl⟩
    · rw [show inS x = false from decide_eq_false (by omega)]
      go_enter Tryz.func32, Tryz.ntmps32
      go_wp2
      go_ret
      exact ⟨rfl, rfl⟩
  · rw [show inS x = false from decide_eq_false (by omega)]
    go_enter Tryz.func32, Tryz.ntmps32
    go_wp2
    go_ret
    exact ⟨rfl, rfl⟩
theorem rin_any (x m : Int) (w : World) (m0 : 0 ≤ m) (m1 : m ≤ 9223372036854775807) :
    Calls Tryz.prog 29 #[.int .i64 x, .int .i64 m] w fun e w' => e = .returned (.bool (decide (-m ≤ x ∧ x ≤ m))) ∧ w' = w := by
  by_cases a : -m ≤ x
  · by_cases b : x ≤ m
    · rw [decide_eq_true ⟨a, b⟩]
      go_enter Tryz.func29, Tryz.ntmps29
      go_wp2
      go_ret
      exact ⟨rfl, rfl⟩
    · rw [decide_eq_false (by omega)]
      go_enter Tryz.func29, Tryz.ntmps29
      go_wp2
      go_ret
      exact ⟨rfl, rfl⟩
  · rw [decide_eq_false (by omega)]
    go_enter Tryz.func29, Tryz.ntmps29
    go_wp2
    go_ret
    exact ⟨rfl, rfl⟩

theorem offa_any (B E : Int) (a : Option Addr) (n c : Nat) (f : Nat → Int × Int) (k : Nat) (w : World) (hr : LRd w w.heap.size a n f) (hk : k ≤ n) (hn : n ≤ 64) :
    Calls Tryz.prog 34 #[.agg #[.int .i64 B, .int .i64 E, .slice a n c], .int .i64 k] w fun e w' => e = .returned (.int .i64 (offA B f k)) ∧ Below w.heap.size w w' := by
  have B1 := Lib.hid ((Below.refl w.heap.size w).alloc (Nat.le_refl _) (.cells #[.int .i64 B, .int .i64 E, .slice a n c] 24))
  obtain ⟨c0, c1, c2⟩ := (tbx_new w B E a n c).cells
  cases k with
  | zero =>
    clear hr
    go_enter Tryz.func34, Tryz.ntmps34
    go_wp2_with fail
    go_ret
    exact ⟨rfl, B1.out⟩
  | succ j =>
    obtain ⟨b, off, rfl, hlt, hc⟩ := (hr.below B1.out) (by omega)
    have d1 := (hc j (by omega)).2
    have hj64 : (j : Int) ≤ 63 := by omega
    have hjn : (j : Int) < n := by omega
    clear hc hr
    go_enter Tryz.func34, Tryz.ntmps34
    go_wp2_with fail
    go_ret
    exact ⟨rfl, B1.out⟩

theorem rold_any (B E : Int) (a : Option Addr) (n c : Nat) (f : Nat → Int × Int) (k : Nat) (w : World) (hr : LRd w w.heap.size a n f) (hk : k ≤ n) (hn : n ≤ 64) :
    Calls Tryz.prog 31 #[.agg #[.int .i64 B, .int .i64 E, .slice a n c], .int .i64 k] w fun e w' => e = .returned (.int .i64 (offA B f k)) ∧ Below w.heap.size w w' := by
  have B1 := Lib.hid ((Below.refl w.heap.size w).alloc (Nat.le_refl _) (.cells #[.int .i64 B, .int .i64 E, .slice a n c] 24))
  obtain ⟨c0, c1, c2⟩ := (tbx_new w B E a n c).cells
  cases k with
  | zero =>
    clear hr
    go_enter Tryz.func31, Tryz.ntmps31
    go_wp2_with fail
    go_ret
    exact ⟨rfl, B1.out⟩
  | succ j =>
    obtain ⟨b, off, rfl, hlt, hc⟩ := (hr.below B1.out) (by omega)
    have d1 := (hc j (by omega)).2
    have hj64 : (j : Int) ≤ 63 := by omega
    have hjn : (j : Int) < n := by omega
    clear hc hr
    go_enter Tryz.func31, Tryz.ntmps31
    go_wp2_with fail
    go_ret
    exact ⟨rfl, B1.out⟩
end Go.Proofs.YtegpajdahanhfaaGreatDoor
