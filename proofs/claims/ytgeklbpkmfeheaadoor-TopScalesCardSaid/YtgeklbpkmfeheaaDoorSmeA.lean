/- Contracts of layer 7: checks, windows. -/
import Derived.Test.YtgeklbpkmfeheaaDoorLevA
import Derived.Test.YtgeklbpkmfeheaaDoorLeaY
namespace Go.Proofs.YtgeklbpkmfeheaaDoor
open Go.RowKit Fx Cv Lp

/-- The error of a policy. -/
def Sm.polE (K W : Int) : Int := if K < 1 ∨ 4 < K then 8 else if K = 1 then (if W = 0 then 0 else 3) else if W < 2 ∨ 172800 < W ∨ W % 2 ≠ 0 then 3 else 0
def Sm.chkS (B E : Int) (f : Nat → Int × Int) (n : Nat) (K W : Int) : Int := if chkL B E f n ≠ 0 then chkL B E f n else polE K W
def Sm.isT (t : Int) : Bool := decide (-8000000000000000000 ≤ t ∧ t ≤ 8000000000000000000)
/-- The instant of a change; the first instant of its window; the first one behind it. -/
def Sm.chg (f : Nat → Int × Int) (i : Nat) : Int := ((f i).1 + (f i).2) * 1000000000
def Sm.sft (K W : Int) : Int := if K = 2 then W * 1000000000 / 2 else if K = 3 then W * 1000000000 else 0
def Sm.fsI (f : Nat → Int × Int) (K W : Int) (i : Nat) : Int := chg f i - sft K W
def Sm.enI (f : Nat → Int × Int) (K W : Int) (i : Nat) : Int := chg f i - sft K W + W * 1000000000
open Sm
/-- A valid policy. -/
structure Sm.Pol (K W : Int) : Prop where
  k0 : 1 ≤ K
  k1 : K ≤ 4
  w0 : 0 ≤ W
  w1 : W ≤ 172800
  ev : W % 2 = 0
  st : K = 1 → W = 0
  sm : K ≠ 1 → 2 ≤ W
theorem Sm.pol_of {K W : Int} (h : polE K W = 0) : Pol K W := by
  unfold polE at h
  by_cases a : K < 1 ∨ 4 < K
  · rw [if_pos a] at h; omega
  · rw [if_neg a] at h
    by_cases b : K = 1
    · rw [if_pos b] at h
      by_cases c : W = 0
      · exact ⟨by omega, by omega, by omega, by omega, by omega, fun _ => c, fun h => absurd b h⟩
      · rw [if_neg c] at h; omega
    · rw [if_neg b] at h
      by_cases c : W < 2 ∨ 172800 < W ∨ W % 2 ≠ 0
      · rw [if_pos c] at h; omega
      · exact ⟨by omega, by omega, by omega, by omega, by omega, fun h => absurd h b, fun _ => by omega⟩
theorem Sm.chk_pol {B E : Int} {f : Nat → Int × Int} {n : Nat} {K W : Int} (h : chkS B E f n K W = 0) : chkL B E f n = 0 ∧ Pol K W := by
  unfold chkS at h
  rcases Int.decEq (chkL B E f n) 0 with c | c
  · rw [if_pos c] at h; exact absurd h c
  · rw [if_neg (fun k => k c)] at h; exact ⟨c, pol_of h⟩
/-- Block G is the box of a policy. -/
def Sm.KBx (w : World) (G : Nat) (K W : Int) : Prop := w.heap[G]? = some (.cells #[.int .i64 K, .int .i64 W] 26 (0, 0))
theorem Sm.KBx.lt {w : World} {G : Nat} {K W : Int} (h : KBx w G K W) : G < w.heap.size := by
  rcases Nat.lt_or_ge G w.heap.size with hlt | hge
  · exact hlt
  · unfold KBx at h; rw [Array.getElem?_eq_none hge] at h; cases h
theorem Sm.KBx.cells {w : World} {G : Nat} {K W : Int} (h : KBx w G K W) : w.cell? ⟨G, 0, none⟩ = some (.int .i64 K) ∧ w.cell? ⟨G, 1, none⟩ = some (.int .i64 W) := by
  unfold KBx at h; simp [World.cell?, h]
theorem Sm.KBx.below {w w' : World} {G D : Nat} {K W : Int} (h : KBx w G K W) (hb : Below D w w') (hG : G < D) : KBx w' G K W := (hb.block G hG).trans h
/-- The boxes of a table and of a policy, and the entries. -/
structure Sm.Bs (w v : World) (G H : Nat) (B E : Int) (a : Option Addr) (n c : Nat) (f : Nat → Int × Int) (K W : Int) : Prop where
  box : TBx v G B E a n c
  pol : KBx v H K W
  lrd : LRd v v.heap.size a n f
  bel : Below w.heap.size w v
theorem Sm.Bs.below {w v v' : World} {G H : Nat} {B E : Int} {a : Option Addr} {n c : Nat} {f : Nat → Int × Int} {K W : Int} (h : Bs w v G H B E a n c f K W) (hb : Below v.heap.size v v') : Bs w v' G H B E a n c f K W :=
  ⟨h.box.below hb h.box.lt, h.pol.below hb h.pol.lt, (h.lrd.below hb).mono hb.size, h.bel.trans (hb.mono h.bel.size)⟩
theorem Sm.Bs.cells {w v : World} {G H : Nat} {B E : Int} {a : Option Addr} {n c : Nat} {f : Nat → Int × Int} {K W : Int} (h : Bs w v G H B E a n c f K W) :
    v.cell? ⟨G, 0, none⟩ = some (.int .i64 B) ∧ v.cell? ⟨G, 1, none⟩ = some (.int .i64 E) ∧ v.cell? ⟨G, 2, none⟩ = some (.slice a n c) ∧ v.cell? ⟨H, 0, none⟩ = some (.int .i64 K) ∧ v.cell? ⟨H, 1, none⟩ = some (.int .i64 W) :=
  ⟨h.box.cells.1, h.box.cells.2.1, h.box.cells.2.2, h.pol.cells.1, h.pol.cells.2⟩
theorem Sm.bs_new (w : World) (B E : Int) (a : Option Addr) (n c : Nat) (f : Nat → Int × Int) (K W : Int) (hr : LRd w w.heap.size a n f) :
    Bs w ((w.alloc (.cells #[.int .i64 B, .int .i64 E, .slice a n c] 24)).alloc (.cells #[.int .i64 K, .int .i64 W] 26)) w.heap.size (w.heap.size + 1) B E a n c f K W := by
  have b1 : Below w.heap.size w (w.alloc (.cells #[.int .i64 B, .int .i64 E, .slice a n c] 24)) := (Below.refl _ _).alloc (Nat.le_refl _) _
  have t1 := tbx_new w B E a n c
  obtain ⟨U, hU⟩ : ∃ U, w.alloc (.cells #[.int .i64 B, .int .i64 E, .slice a n c] 24) = U := ⟨_, rfl⟩
  have hs : U.heap.size = w.heap.size + 1 := by rw [← hU]; simp
  rw [hU] at b1 t1 ⊢
  have b2 : Below U.heap.size U (U.alloc (.cells #[.int .i64 K, .int .i64 W] 26)) := (Below.refl _ _).alloc (Nat.le_refl _) _
  refine ⟨t1.below b2 t1.lt, ?_, ((((hr.below b1).mono b1.size).below b2).mono b2.size), b1.trans (b2.mono b1.size)⟩
  rw [← hs]
  exact heap_alloc_new U _

theorem sist_any (t : Int) (w : World) :
    Calls Tryd.prog 16 #[.int .i64 t] w fun e w' => e = .returned (.bool (isT t)) ∧ w' = w := by
  by_cases a : -8000000000000000000 ≤ t
  · by_cases b : t ≤ 8000000000000000000
    · rw [show isT t = true from decide_eq_true ⟨a, b⟩]
      go_enter Tryd.func16, Tryd.ntmps16
      go_wp2
      go_ret
      exact ⟨rfl, rfl⟩
    · rw [show isT t = false from decide_eq_false (by omega)]
      go_enter Tryd.func16, Tryd.ntmps16
      go_wp2
      go_ret
      exact ⟨rfl, rfl⟩
  · rw [show isT t = false from decide_eq_false (by omega)]
    go_enter Tryd.func16, Tryd.ntmps16
    go_wp2
    go_ret
    exact ⟨rfl, rfl⟩
end Go.Proofs.YtgeklbpkmfeheaaDoor
