/- Contracts of the model's and the program's test of a result's length. -/
import Derived.Test.YtoppaipiibaocaaAddL
import Derived.Test.YtoppaipiibaocaaCmpNat
namespace Go.Proofs.Ytoppaipiibaocaa.Ints
open Go.RowKit
set_option linter.unusedVariables false
def fitL (Z : List Int) : List Int := if Z.length ≤ 40 then Z else []
def fitC (Z : List Int) : Int := if Z.length ≤ 40 then 0 else 5
theorem Ow.nilOf (w : World) : Ow w w.heap.size w.heap.size (.slice none 0 0) [] :=
  ⟨by simp, Fit.nil, World.ownsRow_nil _ _ _ _, fun k hk => by simp [Value.ownBlock] at hk, Nat.le_refl _, Nat.le_refl _⟩
theorem Ow.nilUp {w : World} {B : Nat} (h : B ≤ w.heap.size) : Ow w B w.heap.size (.slice none 0 0) [] :=
  ⟨by simp, Fit.nil, World.ownsRow_nil _ _ _ _, fun k hk => by simp [Value.ownBlock] at hk, Nat.le_refl _, h⟩
theorem Ow.nilIn {w : World} {B T : Nat} {v : Value} {Z : List Int} (h : Ow w B T v Z) : Ow w B T (.slice none 0 0) [] :=
  ⟨by simp, Fit.nil, World.ownsRow_nil _ _ _ _, fun k hk => by simp [Value.ownBlock] at hk, h.size, h.base⟩
theorem Ow.slice {w : World} {B T : Nat} {v : Value} {Z : List Int} (h : Ow w B T v Z) : ∃ a c, v = .slice a Z.length c := by
  rcases h.form with ⟨rfl, rfl⟩ | ⟨g, c, rfl, _⟩
  · exact ⟨_, _, rfl⟩
  · exact ⟨_, _, rfl⟩
end Go.Proofs.Ytoppaipiibaocaa.Ints
