/- Contracts of the specification of layer 6: Check, of any table. -/
import Derived.Test.YtghaboanakecjaaDoorLeaX
namespace Go.Proofs.YtghaboanakecjaaDoor
open Go.RowKit Fx Cv Lp

theorem rchk_any (B E : Int) (a : Option Addr) (n c : Nat) (f : Nat → Int × Int) (w : World) (hr : LRd w w.heap.size a n f) :
    Calls Tryd.prog 23 #[.agg #[.int .i64 B, .int .i64 E, .slice a n c]] w fun e w' => e = .returned (.int .i64 (chkL B E f n)) ∧ Below w.heap.size w w' := by
  by_cases h : 64 < n
  · refine (rchk_long B E a n c f w h).mono ?_
    exact fun e w' h => h
  · by_cases hb : (-1000 ≤ B ∧ B ≤ 1000) ∧ (-8000000000 ≤ E ∧ E ≤ 8000000000)
    · exact rchk_loop B E a n c f w hr (by omega) hb.1 hb.2
    · refine (rchk_head B E a n c f w (by omega) hb).mono ?_
      exact fun e w' h => h
end Go.Proofs.YtghaboanakecjaaDoor
