/- Contracts of layer 7: the specification's readings and rates. -/
import Derived.Test.YtgeklbpkmfeheaaDoorSmeK
namespace Go.Proofs.YtgeklbpkmfeheaaDoor
open Go.RowKit Fx Cv Lp Sm

theorem Sm.inW_plC {B E : Int} {f : Nat → Int × Int} {n : Nat} {K W t : Int} (hv : Val B E f n) : (plC B f n K W t != 0) = inW f n K W t := by
  cases h : inW f n K W t
  · rw [(rdg_out h).2]; rfl
  · obtain ⟨k, _, _, hc, hs, _⟩ := rdg_mid hv h
    rw [hc]
    rcases hs with hs | hs <;> rw [hs] <;> rfl

end Go.Proofs.YtgeklbpkmfeheaaDoor
