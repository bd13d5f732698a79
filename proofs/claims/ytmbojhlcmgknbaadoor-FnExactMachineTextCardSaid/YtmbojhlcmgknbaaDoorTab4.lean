/- The table of powers of ten and the program's noRule, listed together. -/
import Derived.Test.YtmbojhlcmgknbaaDoorTab
import Derived.Test.YtmbojhlcmgknbaaDoorNoR
namespace Go.Proofs.YtmbojhlcmgknbaaDoor.Ints
open Go.RowKit
set_option maxRecDepth 100000 in
theorem met4 {W : World} (h : laidMetH Tryd.prog [("math/bits.deBruijn32tab", Rows.laid_math_bits_deBruijn32tab), ("math/bits.deBruijn64tab", Rows.laid_math_bits_deBruijn64tab), ("internal/strconv.uint64pow10", Rows.laid_internal_strconv_uint64pow10), ("loop.example/g01079/impl.noRule", Rows.laid_loop_example_g01079_impl_noRule)] W) :
    laidMet Tryd.prog [("internal/strconv.uint64pow10", Rows.laid_internal_strconv_uint64pow10), ("loop.example/g01079/impl.noRule", Rows.laid_loop_example_g01079_impl_noRule)] W := by
  rw [MakeChecks.laidMetH_plain _ _ _ (by kernel_rfl)] at h
  exact h.tail.tail
set_option maxRecDepth 100000 in
theorem tabV_of_laid4 {W : World} (h : laidMetH Tryd.prog [("math/bits.deBruijn32tab", Rows.laid_math_bits_deBruijn32tab), ("math/bits.deBruijn64tab", Rows.laid_math_bits_deBruijn64tab), ("internal/strconv.uint64pow10", Rows.laid_internal_strconv_uint64pow10), ("loop.example/g01079/impl.noRule", Rows.laid_loop_example_g01079_impl_noRule)] W) : TabV W := by
  have h2 := met4 h
  rw [tab_eq] at h2
  exact Lib.tabIs_of_head tab_glob (t := 239) (e := 216) (n := 20) (by kernel_rfl) Tryd.underlying239 Tryd.underlying216 (by kernel_rfl) (by kernel_rfl) h2
set_option maxRecDepth 100000 in
theorem noR_of_laid4 {W : World} (h : laidMetH Tryd.prog [("math/bits.deBruijn32tab", Rows.laid_math_bits_deBruijn32tab), ("math/bits.deBruijn64tab", Rows.laid_math_bits_deBruijn64tab), ("internal/strconv.uint64pow10", Rows.laid_internal_strconv_uint64pow10), ("loop.example/g01079/impl.noRule", Rows.laid_loop_example_g01079_impl_noRule)] W) : NoR W := by
  have h2 := (met4 h).tail
  exact noR_of_laid (by rw [MakeChecks.laidMetH_plain _ _ _ (by kernel_rfl)]; exact h2)
end Go.Proofs.YtmbojhlcmgknbaaDoor.Ints
