/- What the tied variables give the walks of layer 5. -/
import Derived.Test.YtnhaflnlhcabpaaDoorCivS
import Derived.Test.YtnhaflnlhcabpaaDoorRows
import Derived.Lib.LaidTab
import Derived.LaidMore
import Derived.Stop.LaidErr
import Derived.MakeChecks
namespace Go.Proofs.YtnhaflnlhcabpaaDoor
open Go.RowKit Fx Cv Pt

theorem laid_gives5 {W : World} (h : laidMetH Tryd.prog [("math/bits.deBruijn32tab", Rows.laid_math_bits_deBruijn32tab), ("math/bits.deBruijn64tab", Rows.laid_math_bits_deBruijn64tab), ("internal/strconv.uint64pow10", Rows.laid_internal_strconv_uint64pow10), ("strconv.ErrRange", Rows.laid_strconv_ErrRange), ("strconv.ErrSyntax", Rows.laid_strconv_ErrSyntax), ("timesync/civil.monthDays", Rows.laid_timesync_civil_monthDays)] W) : MT W ∧ Tab W := by
  rw [MakeChecks.laidMetH_plain _ _ _ (by kernel_rfl)] at h
  have h3 := h.tail.tail
  have h6 := h3.tail.tail.tail
  refine ⟨?_, ?_⟩
  · have e : (Rows.laid_timesync_civil_monthDays : DataW Unit) = Lib.tabData .i64 mtab := by rfl
    rw [e] at h6
    exact Lib.tabIs_of_head (g := 0) (t := 46) (e := 3) (n := 12) (by kernel_rfl) (by kernel_rfl) Tryd.underlying46 Tryd.underlying3 (by kernel_rfl) (by kernel_rfl) h6
  · have e : (Rows.laid_internal_strconv_uint64pow10 : DataW Unit) = Lib.tabData .u64 Lib.pow10Tab := by rfl
    rw [e] at h3
    exact Lib.tabIs_of_head (g := 3) (t := 106) (e := 75) (n := 20) (by kernel_rfl) (by kernel_rfl) Tryd.underlying106 Tryd.underlying75 (by kernel_rfl) (by kernel_rfl) h3
end Go.Proofs.YtnhaflnlhcabpaaDoor
