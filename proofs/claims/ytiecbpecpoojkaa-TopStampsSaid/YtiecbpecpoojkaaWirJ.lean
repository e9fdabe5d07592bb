/- The chapter's examples of layer 2. -/
import Derived.Test.YtiecbpecpoojkaaWirI
namespace Go.Proofs.Ytiecbpecpoojkaa
open Go.RowKit Wi

theorem bblk_new (w : World) (l : List Int) : BBlk (w.alloc (.cells (l.map (Value.int .u8)).toArray 5)) w.heap.size l := heap_alloc_new w _
theorem reads_new (w : World) (l : List Int) (hb : Bytes l) : BReads (w.alloc (.cells (l.map (Value.int .u8)).toArray 5)) (w.heap.size + 1) (some ⟨w.heap.size, 0, none⟩) l.length l :=
  (bblk_new w l).reads hb (by omega)
theorem bytes_lit {l : List Int} (h : (l.all fun x => decide (0 ≤ x) && decide (x ≤ 255)) = true) : Bytes l := by
  intro x hx
  have := List.all_eq_true.1 h x hx
  simpa using this

theorem blw_drewN {B : Nat} {a w : World} (h : Below B a w) (n : Nat) : Below B a (w.drewN n) := ⟨h.os, h.tape, h.output, h.size, h.block⟩

end Go.Proofs.Ytiecbpecpoojkaa
