/- The walks of WireGets and WireSigned. -/
import Derived.Test.YtkcllhcinbcgiaaWirJ
import Derived.OpenShut
namespace Go.Proofs.Ytkcllhcinbcgiaa
open Go.RowKit Wi

/-- A slice of bytes that came in. -/
theorem row_reads {w : World} {a : Option Addr} {len cap : Nat} {zs : List Int} (h : (a = none ∧ len = 0 ∧ cap = 0 ∧ zs = []) ∨ ∃ x, a = some x ∧ len ≤ cap ∧ cap ≤ maxLen ∧ zs.length = cap ∧ (∀ i, i < zs.length → w.cell? (x.add i) = some (.int .u8 (zs.getD i 0))) ∧ ∀ n ∈ zs, (Lit.int .u8 n).wf = true) :
    BReads w w.heap.size a len (zs.take len) ∧ (a = none → len = 0 ∧ cap = 0) ∧ len ≤ cap ∧ cap ≤ 9223372036854775807 := by
  rcases h with ⟨rfl, rfl, rfl, rfl⟩ | ⟨x, rfl, h1, h2, h3, h4, h5⟩
  · exact ⟨BReads.nil, fun _ => ⟨rfl, rfl⟩, Nat.le_refl _, by omega⟩
  · unfold maxLen at h2
    refine ⟨⟨by rw [List.length_take]; omega, fun y hy => ?_, fun hp => ?_⟩, (fun e => by cases e), h1, by omega⟩
    · have := bounds_u8 (h5 y (List.mem_of_mem_take hy)); omega
    · obtain ⟨b, off, rfl, hc⟩ := ints_at h4 (by omega)
      refine ⟨b, off, rfl, ?_, fun i hi => ?_⟩
      · have := hc 0 (by omega)
        rcases Nat.lt_or_ge b w.heap.size with hlt | hge
        · exact hlt
        · simp [World.cell?, Array.getElem?_eq_none hge] at this
      · rw [hc i (by omega), List.getD_eq_getElem?_getD, List.getD_eq_getElem?_getD, List.getElem?_take, if_pos hi]

set_option maxRecDepth 100000 in
theorem wireGets_walk (A : Option Addr) (n c : Nat) (l : List Int) (at_ size : Int) (w : World) (hr : BReads w w.heap.size A n l) (hm : n ≤ 9223372036854775807) (a0 : -9223372036854775808 ≤ at_) (a1 : at_ ≤ 9223372036854775807) :
    Calls Try.prog 11 #[.slice A n c, .int .i64 at_, .int .i64 size] w fun e w' => e = .returned (.bool true) ∧ Below w.heap.size w w' := by
  have HR := Lib.hid hr
  clear hr
  go_enter Try.func11, Try.ntmps11
  go_wp2_with fail
  refine (get_any A n c l at_ size _ w.heap.size HR.out hm a0 a1).mono ?_
  rintro e w' ⟨rfl, rfl⟩
  go_wp2_with fail
  refine (rget_any A n c l at_ size _ w.heap.size HR.out hm a0 a1).mono ?_
  rintro e w' ⟨rfl, rfl⟩
  go_wp2_with fail
  refine (awake2_any _).mono ?_
  rintro e wz ⟨rfl, hwz⟩
  go_wp2_with fail
  go_ret
  exact ⟨rfl, hwz⟩

end Go.Proofs.Ytkcllhcinbcgiaa
