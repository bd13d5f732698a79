/- The contract of the program's WeaveNaturals. -/
import Derived.Test.YtoppaipiibaocaaWvS
namespace Go.Proofs.Ytoppaipiibaocaa.Ints
open Go.RowKit
set_option linter.unusedVariables false

theorem Dig.fit10 {Z : List Int} (h : Dig 10 Z) : Fit Z := Dig.fit (fun i hi => by have := h i hi; omega)
theorem Blk.rd {w : World} {g K : Nat} {Z : List Int} (h : Blk w g K Z) (hl : Z.length = K) (hK : K ≤ 16777216) (hf : Fit Z) : Rd w (.slice (some ⟨g, 0, none⟩) K K) Z :=
  ⟨by omega, hf, some ⟨g, 0, none⟩, K, by rw [hl], by omega, fun _ => ⟨g, 0, rfl, h.lt, fun i hi => by rw [Nat.zero_add]; exact h.cell i hi⟩⟩
end Go.Proofs.Ytoppaipiibaocaa.Ints
