/- Giving up: failUnless, giveUpUnless, numberIn. -/
import Derived.Test.YtbifkjmmhfnblaaDoorRdD
import Derived.Recover
import Derived.Defers
namespace Go.Proofs.YtbifkjmmhfnblaaDoor.Ints
open Go.RowKit
set_option linter.unusedVariables false
set_option linter.unusedSimpArgs false
/-- A panic with a code. -/
def gaveUp (c : Int) : PanicEntry := { v := .iface 127 (.int .i64 c), recovered := false }
theorem implFailY (c : Int) (w : World) : Calls Tryd.prog 121 #[.bool true, .int .i64 c] w fun e w' => e = .returned (.tuple #[]) ∧ w = w' := by
  go_enter Tryd.func121, Tryd.ntmps121
  go_wp2
  go_end0
  exact ⟨rfl, rfl⟩
theorem implFailN (c : Int) (w : World) : Calls Tryd.prog 121 #[.bool false, .int .i64 c] w fun e w' => e = .panicked [gaveUp c] ∧ w = w' := by
  go_enter Tryd.func121, Tryd.ntmps121
  go_wp2
  exact ⟨rfl, rfl, rfl⟩
theorem implGiveY (w : World) : Calls Tryd.prog 90 #[.bool true] w fun e w' => e = .returned (.tuple #[]) ∧ w = w' := by
  go_enter Tryd.func90, Tryd.ntmps90
  go_wp2_with fail
  refine (implFailY 8 _).mono ?_
  rintro e w' ⟨rfl, rfl⟩
  go_wp2
  go_end0
  exact ⟨rfl, rfl⟩
theorem implGiveN (w : World) : Calls Tryd.prog 90 #[.bool false] w fun e w' => e = .panicked [gaveUp 8] ∧ w = w' := by
  go_enter Tryd.func90, Tryd.ntmps90
  go_wp2_with fail
  refine (implFailN 8 _).mono ?_
  rintro e w' ⟨rfl, rfl⟩
  go_wp2
  exact ⟨rfl, rfl, rfl⟩
theorem implNumY (s : ByteArray) (w : World) (hs : s.size ≤ 1048576) (ht : TabV w) (he : ErrV w) (h : NumOk s.data.toList) :
    Calls Tryd.prog 51 #[.string s] w fun e w' => e = .returned (.int .i64 (valL s.data.toList)) ∧ Below w.heap.size w w' := by
  have HF := Lib.hid (num_yes h)
  obtain ⟨n, hn⟩ : ∃ n, n = valL s.data.toList := ⟨_, rfl⟩
  have HN := Lib.hid hn
  have HC := Lib.hid (implRdDec s w hs ht he)
  clear h hn ht he
  rw [← HN.out]
  go_enter Tryd.func51, Tryd.ntmps51
  go_wp2_with fail
  refine HC.out.mono ?_
  rintro e w1 ⟨rfl, hb1⟩
  rw [HF.out.1, HF.out.2, ← HN.out]
  have HB := Lib.hid hb1
  clear hb1
  go_wp2_with fail
  refine (implGiveY _).mono ?_
  rintro e w2 ⟨rfl, rfl⟩
  go_wp2
  go_ret
  exact ⟨rfl, HB.out⟩
theorem implNumN (s : ByteArray) (w : World) (hs : s.size ≤ 1048576) (ht : TabV w) (he : ErrV w) (h : ¬ NumOk s.data.toList) :
    Calls Tryd.prog 51 #[.string s] w fun e w' => e = .panicked [gaveUp 8] ∧ Below w.heap.size w w' := by
  have HF := Lib.hid (num_no h)
  have HC := Lib.hid (implRdDec s w hs ht he)
  clear h ht he
  go_enter Tryd.func51, Tryd.ntmps51
  go_wp2_with fail
  refine HC.out.mono ?_
  rintro e w1 ⟨rfl, hb1⟩
  rw [HF.out.1, HF.out.2]
  have HB := Lib.hid hb1
  clear hb1
  go_wp2_with fail
  refine (implGiveN _).mono ?_
  rintro e w2 ⟨rfl, rfl⟩
  go_wp2
  exact ⟨rfl, rfl, HB.out⟩
end Go.Proofs.YtbifkjmmhfnblaaDoor.Ints
