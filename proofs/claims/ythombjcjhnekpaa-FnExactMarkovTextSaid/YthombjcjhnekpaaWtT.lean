/- The text of a word, of the model and of the program. -/
import Derived.Test.YthombjcjhnekpaaLetS
import Derived.Test.YthombjcjhnekpaaLetI
import Derived.Test.YthombjcjhnekpaaWord
namespace Go.Proofs.Ythombjcjhnekpaa.Ints
open Go.RowKit
set_option linter.unusedVariables false
set_option linter.unusedSimpArgs false
noncomputable def wtV (zs : List Int) : List UInt8 := if wordB zs = true then wdT zs else []
theorem implWtText (v : Value) (zs : List Int) (w : World) (h : Rd w v zs) :
    Calls Try.prog 94 #[v] w fun e w' => e = .returned (.string (bs (wtV zs))) ∧ Below w.heap.size w w' := by
  have H := Lib.hid h
  obtain ⟨_, _, a, c, rfl, _, _⟩ := h
  obtain ⟨ok, hok⟩ : ∃ b, b = wordB zs := ⟨_, rfl⟩
  have HOK := Lib.hid hok
  clear hok
  go_enter Try.func94, Try.ntmps94
  go_wp2_with fail
  refine (implWord _ zs _ H.out).mono ?_
  rintro e w1 ⟨rfl, hb1⟩
  rw [← HOK.out]
  have HB1 := Lib.hid hb1
  clear hb1
  rcases eqOr ok with hb | hb
  · subst hb
    go_wp2
    go_ret
    exact ⟨by rw [wtV, ← HOK.out]; rfl, HB1.out⟩
  subst hb
  by_cases h0 : zs = []
  · subst h0
    have hzb : ((0 : Int) == 0) = true := rfl
    go_wp2
    go_ret
    exact ⟨by rw [wtV, ← HOK.out]; rfl, HB1.out⟩
  have hpos : 0 < zs.length := List.length_pos_iff.2 h0
  have hzb : ((zs.length : Int) == 0) = false := by simpa using h0
  have HG : Hid (wdT zs = dgT zs) := Lib.hid (if_neg h0)
  clear h0
  go_wp2_with fail
  refine (implLetText _ zs _ _ (H.out.below HB1.out (Nat.le_refl _)) (wordB_iff HOK.out.symm).2 rfl).mono ?_
  rintro e w2 ⟨rfl, hb2⟩
  have HB2 := Lib.hid (HB1.out.trans (hb2.mono HB1.out.size))
  clear hb2
  go_wp2
  go_ret
  exact ⟨by rw [wtV, ← HOK.out, if_pos rfl, HG.out]; rfl, HB2.out⟩
end Go.Proofs.Ythombjcjhnekpaa.Ints
