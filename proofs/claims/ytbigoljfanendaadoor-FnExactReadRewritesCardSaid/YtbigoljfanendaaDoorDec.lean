/- The decimal numeral: the model's two loops over bytes, and the program's call of the library. -/
import Derived.Test.YtbigoljfanendaaDoorTab
import Derived.Test.YtbigoljfanendaaDoorByB
import Derived.Test.YtbigoljfanendaaDoorItoa
import Derived.Test.YtbigoljfanendaaDoorInts
import Derived.Test.YtbigoljfanendaaDoorShf
import Derived.Laws.IdiomStrings
import Derived.Lib.UnsafeStr
import Derived.Lib.AppendIntMem
import Derived.BigRegion
import Derived.BigCall
namespace Go.Proofs.YtbigoljfanendaaDoor.Ints
open Go.RowKit
set_option linter.unusedVariables false

theorem implDec (n : Int) (n0 : -9223372036854775808 ≤ n) (n1 : n ≤ 9223372036854775807) (w : World) (ht : TabV w) :
    Calls Tryd.prog 29 #[.int .i64 n] w fun e w' => e = .returned (.string (bs (Lib.itoa n))) ∧ Below w.heap.size w w' := by
  have HT := Lib.hid ht
  clear ht
  go_enter Tryd.func29, Tryd.ntmps29
  go_wp2_with fail
  refine (Tryd.strconv_FormatInt_10 n n0 n1 _ HT.out).mono ?_
  rintro e w' ⟨rfl, k, os, rfl⟩
  have HB : Hid (Below w.heap.size w (Sort.grow (w.drewN k) os)) := Lib.hid (Lib.below_grow _ _ (Nat.le_refl _) k os)
  go_wp2
  go_ret
  exact ⟨rfl, HB.out⟩
end Go.Proofs.YtbigoljfanendaaDoor.Ints
