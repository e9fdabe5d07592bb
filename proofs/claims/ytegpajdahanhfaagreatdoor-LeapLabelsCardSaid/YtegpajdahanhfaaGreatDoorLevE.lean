/- What comes in as a table, and what the tied variables give. -/
import Derived.Test.YtegpajdahanhfaaGreatDoorLevC
import Derived.Test.YtegpajdahanhfaaGreatDoorRows
import Derived.Deep.SlicePairs
import Derived.Lib.LaidTab
import Derived.LaidMore
import Derived.Stop.LaidErr
import Derived.MakeChecks
import Derived.OpenShut
namespace Go.Proofs.YtegpajdahanhfaaGreatDoor
open Go.RowKit Go.Shelf Fx Cv Lp Pt

/-- Entries that came in. -/
def Lp.ERow (w : World) (a : Option Addr) (len cap : Nat) (f : Nat → Int × Int) : Prop :=
  (a = none ∧ len = 0 ∧ cap = 0) ∨ ∃ x, a = some x ∧ len ≤ cap ∧ cap ≤ maxLen ∧ ∀ i, i < len → w.cell? (x.add (i * 2)) = some (.int .i64 (f i).1) ∧ w.cell? (x.add (i * 2 + 1)) = some (.int .i64 (f i).2)
theorem open_entries {H : Type} {enc : TypeId × Value → H} {W : World} {base : Nat} {spare : Nat → Bool} {held : Bool} {fuel : Nat} {v : Value} {x : DataW H × List MemPlace}
    (h : DataW.trod enc Tryz.prog W base spare held fuel 22 [v] = some x) : ∃ a len cap f, v = .slice a len cap ∧ ERow W a len cap f := by
  rcases Go.Deep.open_slice_pairs Tryz.underlying22 Tryz.underlying44 (by kernel_rfl) rfl rfl (by kernel_rfl) (by kernel_rfl) h with ⟨hcs, _⟩ | ⟨ad, l, c, m, n, V0, V1, D0, D1, P0, P1, hcs, _, hl, hm, hmm, _, hx⟩
  · injection hcs with hcs
    exact ⟨_, _, _, fun _ => (0, 0), hcs, .inl ⟨rfl, rfl, rfl⟩⟩
  · injection hcs with hcs
    have hlm : l ≤ m := by rw [hmm]; split <;> omega
    have each : ∀ i, i < l → ∃ p : Int × Int, W.cell? (ad.add (i * 2)) = some (.int .i64 p.1) ∧ W.cell? (ad.add (i * 2 + 1)) = some (.int .i64 p.2) := by
      intro i hi
      obtain ⟨g0, g1, t0, t1⟩ := hx i (by omega)
      obtain ⟨y0, e0, _, b0⟩ := DataW.trod_int Tryz.underlying3 t0
      obtain ⟨y1, e1, _, b1⟩ := DataW.trod_int Tryz.underlying3 t1
      injection e0 with e0
      injection e1 with e1
      exact ⟨(y0, y1), by rw [g0, e0], by rw [g1, e1]⟩
    refine ⟨some ad, l, c, fun i => if hi : i < l then Classical.choose (each i hi) else (0, 0), hcs, .inr ⟨ad, rfl, hl, hm, fun i hi => ?_⟩⟩
    simp only [dif_pos hi]
    exact Classical.choose_spec (each i hi)
theorem erow_reads {w : World} {a : Option Addr} {len cap : Nat} {f : Nat → Int × Int} (h : ERow w a len cap f) : LRd w w.heap.size a len f := by
  rcases h with ⟨rfl, rfl, rfl⟩ | ⟨x, rfl, h1, h2, h3⟩
  · exact fun h => absurd h (by omega)
  · refine fun hp => ?_
    obtain ⟨b, off, spot⟩ := x
    have hspot : spot = none := by
      have := (h3 0 hp).1
      simpa [Addr.add] using World.cell?_spot this
    subst hspot
    refine ⟨b, off, rfl, ?_, fun i hi => ?_⟩
    · have := (h3 0 hp).1
      rw [Go.WideShapes.add_plain] at this
      rcases Nat.lt_or_ge b w.heap.size with hlt | hge
      · exact hlt
      · simp [World.cell?, Array.getElem?_eq_none hge] at this
    · have := h3 i hi
      rw [Go.WideShapes.add_plain, Go.WideShapes.add_plain] at this
      exact ⟨this.1, by rw [Nat.add_assoc]; exact this.2⟩
theorem erow_len {w : World} {a : Option Addr} {len cap : Nat} {f : Nat → Int × Int} (h : ERow w a len cap f) : len ≤ 9223372036854775807 := by
  rcases h with ⟨rfl, rfl, rfl⟩ | ⟨x, rfl, h1, h2, h3⟩
  · omega
  · unfold maxLen at h2; omega
theorem Lp.err_var {W : World} {n nm : String} {d : DataW Unit} {r : List (String × DataW Unit)} {g : Nat} (h : laidMet Tryz.prog ((n, .iface nm d) :: r) W)
    (hg : Tryz.prog.globalNamed n = some g) (ht : (Tryz.prog.globals[g]?).map (·.type) = some 69) : ∃ t p, W.var? Tryz.prog n = some #[.iface t p] := by
  obtain ⟨ps, ⟨g0, t0, cs0, f0, p0, q0, hg0, ht0, hv0, hd0, _, _⟩, _⟩ := h
  obtain rfl := Option.some.inj (hg.symm.trans hg0)
  obtain rfl := Option.some.inj (ht.symm.trans ht0)
  obtain ⟨l0⟩ := cs0
  obtain ⟨_, u, v, rfl, _, _⟩ := iface_of_trod Tryz.underlying69 hd0
  exact ⟨u, v, hv0⟩
theorem laid_gives6 {W : World} (h : laidMetH Tryz.prog [("math/bits.deBruijn32tab", Rows.laid_math_bits_deBruijn32tab), ("math/bits.deBruijn64tab", Rows.laid_math_bits_deBruijn64tab), ("internal/strconv.uint64pow10", Rows.laid_internal_strconv_uint64pow10), ("unicode/utf8.acceptRanges", Rows.laid_unicode_utf8_acceptRanges), ("strconv.ErrRange", Rows.laid_strconv_ErrRange), ("strconv.ErrSyntax", Rows.laid_strconv_ErrSyntax), ("timesync/civil.monthDays", Rows.laid_timesync_civil_monthDays), ("unicode/utf8.first", Rows.laid_unicode_utf8_first)] W) : MT W ∧ Tab W ∧ Errs W := by
  rw [MakeChecks.laidMetH_plain _ _ _ (by kernel_rfl)] at h
  have h2 := h.tail.tail
  have h4 := h2.tail.tail
  have h5 := h4.tail
  have h6 := h5.tail
  refine ⟨?_, ?_, Lp.err_var h5 (g := 5) (by kernel_rfl) (by kernel_rfl), Lp.err_var h4 (g := 6) (by kernel_rfl) (by kernel_rfl)⟩
  · have e : (Rows.laid_timesync_civil_monthDays : DataW Unit) = Lib.tabData .i64 mtab := by rfl
    rw [e] at h6
    exact Lib.tabIs_of_head (g := 0) (t := 111) (e := 3) (n := 12) (by kernel_rfl) (by kernel_rfl) Tryz.underlying111 Tryz.underlying3 (by kernel_rfl) (by kernel_rfl) h6
  · have e : (Rows.laid_internal_strconv_uint64pow10 : DataW Unit) = Lib.tabData .u64 Lib.pow10Tab := by rfl
    rw [e] at h2
    exact Lib.tabIs_of_head (g := 2) (t := 130) (e := 116) (n := 20) (by kernel_rfl) (by kernel_rfl) Tryz.underlying130 Tryz.underlying116 (by kernel_rfl) (by kernel_rfl) h2
end Go.Proofs.YtegpajdahanhfaaGreatDoor
