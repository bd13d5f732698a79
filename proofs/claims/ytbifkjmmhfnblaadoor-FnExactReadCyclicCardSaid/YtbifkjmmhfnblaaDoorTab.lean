/- The library's table of powers of ten, as the rows list it. -/
import Derived.Test.YtbifkjmmhfnblaaDoorRows
import Derived.Test.YtbifkjmmhfnblaaDoorInts
import Derived.Lib.LaidTab
import Derived.Lib.AppendIntMem
import Derived.Lib.SmallJoins
import Derived.Lib.ItoaNum
import Derived.Stop.LaidErr
import Derived.Stop.Joined
import Derived.MakeChecks
namespace Go.Proofs.YtbifkjmmhfnblaaDoor.Ints
open Go.RowKit
def TabV (w : World) : Prop := Lib.TabIs Tryd.prog w "internal/strconv.uint64pow10" .u64 Lib.pow10Tab
theorem tab_glob : Tryd.prog.globalNamed "internal/strconv.uint64pow10" = some 5 := by kernel_rfl
theorem tab_eq : (Rows.laid_internal_strconv_uint64pow10 : DataW Unit) = Lib.tabData .u64 Lib.pow10Tab := by kernel_rfl
set_option maxRecDepth 100000 in
theorem tabV_of_laid {W : World} (h : laidMetH Tryd.prog [("math/bits.deBruijn32tab", Rows.laid_math_bits_deBruijn32tab), ("math/bits.deBruijn64tab", Rows.laid_math_bits_deBruijn64tab), ("internal/strconv.uint64pow10", Rows.laid_internal_strconv_uint64pow10)] W) : TabV W := by
  rw [MakeChecks.laidMetH_plain _ _ _ (by kernel_rfl)] at h
  have h2 := h.tail.tail
  rw [tab_eq] at h2
  exact Lib.tabIs_of_head tab_glob (t := 190) (e := 157) (n := 20) (by kernel_rfl) Tryd.underlying190 Tryd.underlying157 (by kernel_rfl) (by kernel_rfl) h2
theorem TabV.below {w w' : World} {B : Nat} (h : TabV w) (hb : Below B w w') (hB : w.heap.size ≤ B) : TabV w' := Joins.tab_stays tab_glob h hb hB
end Go.Proofs.YtbifkjmmhfnblaaDoor.Ints
