/- Small tables of layer 7; the walk of SmearChecks. -/
import Derived.Test.YtgeklbpkmfeheaaDoorSmeG
import Derived.Deep.RegionHeld3
namespace Go.Proofs.YtgeklbpkmfeheaaDoor
open Go.RowKit Fx Cv Lp Sm

/-- The boxes of a table and of a policy, the entries, and the lengths of the months. -/
structure Sm.Bm (w v : World) (G H : Nat) (B E : Int) (a : Option Addr) (n c : Nat) (f : Nat → Int × Int) (K W : Int) : Prop where
  bs : Bs w v G H B E a n c f K W
  mt : MT v
theorem Sm.Bm.below {w v v' : World} {G H : Nat} {B E : Int} {a : Option Addr} {n c : Nat} {f : Nat → Int × Int} {K W : Int} (h : Bm w v G H B E a n c f K W) (hb : Below v.heap.size v v') : Bm w v' G H B E a n c f K W :=
  ⟨h.bs.below hb, h.mt.below hb⟩
theorem Sm.Bm.drew {w v : World} {G H : Nat} {B E : Int} {a : Option Addr} {n c : Nat} {f : Nat → Int × Int} {K W : Int} (h : Bm w v G H B E a n c f K W) : Bm w v.drew G H B E a n c f K W :=
  ⟨⟨h.bs.box, h.bs.pol, h.bs.lrd, h.bs.bel.drew⟩, h.mt⟩
theorem Sm.bm_new (w : World) (B E : Int) (a : Option Addr) (n c : Nat) (f : Nat → Int × Int) (K W : Int) (ht : MT w) (hr : LRd w w.heap.size a n f) :
    Bm w ((w.alloc (.cells #[.int .i64 B, .int .i64 E, .slice a n c] 24)).alloc (.cells #[.int .i64 K, .int .i64 W] 26)) w.heap.size (w.heap.size + 1) B E a n c f K W :=
  ⟨bs_new w B E a n c f K W hr, ht.below (bs_new w B E a n c f K W hr).bel⟩

end Go.Proofs.YtgeklbpkmfeheaaDoor
