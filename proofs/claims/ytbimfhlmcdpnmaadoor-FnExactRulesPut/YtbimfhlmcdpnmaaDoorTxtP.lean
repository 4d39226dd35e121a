/- What is proved: where the listed tables read as listed, the table of powers of ten is the one that the library's contract asks for. -/
import Derived.Test.YtbimfhlmcdpnmaaDoorRows
import Derived.Test.YtbimfhlmcdpnmaaDoorTxtB
import Derived.LaidMore
import Derived.OpenShut
import Derived.Lib.LaidTab
namespace Go.Proofs.YtbimfhlmcdpnmaaDoor
open Go.ChangeShapes Go.WideShapes Go.RowKit
theorem pow_of {W : World} (h : laidMetH Tryd.prog [("math/bits.deBruijn32tab", Rows.laid_math_bits_deBruijn32tab), ("math/bits.deBruijn64tab", Rows.laid_math_bits_deBruijn64tab), ("internal/strconv.uint64pow10", Rows.laid_internal_strconv_uint64pow10)] W) : Pow W := by
  rw [MakeChecks.laidMetH_plain _ _ _ (by kernel_rfl)] at h
  obtain ⟨ps, ⟨_, _, _, _, _, _, _, _, _, _, ⟨_, _, _, _, _, _, _, _, _, _, ⟨g, t, cs, fuel, p, q, hg, ht, hv, hd, _, _⟩, _⟩, _⟩, _⟩ := h
  obtain rfl := Option.some.inj ((show Tryd.prog.globalNamed "internal/strconv.uint64pow10" = some 1 by kernel_rfl).symm.trans hg)
  obtain rfl := Option.some.inj ((show (Tryd.prog.globals[1]?).map (·.type) = some 124 by kernel_rfl).symm.trans ht)
  unfold Pow Lib.TabIs
  have e : (Rows.laid_internal_strconv_uint64pow10 : DataW Unit) = Lib.tabData .u64 Lib.pow10Tab := by kernel_rfl
  rw [e] at hd
  rw [hv]
  have := Lib.cells_of_tab (show Tryd.prog.underlying 124 = some (.array 20 114) by kernel_rfl) (show Tryd.prog.underlying 114 = some (.int .u64) by kernel_rfl) (by kernel_rfl) (by kernel_rfl) hd
  rw [← this]
end Go.Proofs.YtbimfhlmcdpnmaaDoor
