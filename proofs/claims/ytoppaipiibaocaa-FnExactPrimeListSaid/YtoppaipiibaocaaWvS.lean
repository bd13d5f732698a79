/- The contract of the model's WeaveNaturals. -/
import Derived.Test.YtoppaipiibaocaaWv
namespace Go.Proofs.Ytoppaipiibaocaa.Ints
open Go.RowKit
set_option linter.unusedVariables false

theorem twoCells (x y : Int) : ∀ u ∈ [Value.int .i64 x, Value.int .i64 y], u.oneCell' = true := ints_oneCell .i64 [x, y]
theorem Ow.snoc2 {wr w1 : World} {B T : Nat} {ov v' : Value} {xs : List Int} {x y : Int} (h : Ow wr B T ov xs) (h0 : -9223372036854775808 ≤ x ∧ x ≤ 9223372036854775807) (h1 : -9223372036854775808 ≤ y ∧ y ≤ 9223372036854775807) (hl : xs.length + 1 < 16777216)
    (hown1 : w1.ownsRow B 2 1 v' (xs.length + 2) (xs.map (Value.int .i64) ++ [.int .i64 x, .int .i64 y])) (hgrow : (wr.alloc (Obj.cells #[Value.int IntKind.i64 x, Value.int IntKind.i64 y] 2)).grownBy w1 ov.ownBlock) :
    Ow w1 B w1.heap.size v' (xs ++ [x, y]) ∧ Below B wr w1 := by
  have hb : B ≤ wr.heap.size := Nat.le_trans h.base h.size
  have hB : Below B wr w1 := ((Below.refl B wr).alloc hb _).grown hgrow (by simp; omega) (fun q hq => (h.row.lt q hq).1)
  refine ⟨⟨by simp; omega, fun z hz => ?_, by simpa using hown1, fun k hk => (hown1.lt k hk).2, Nat.le_refl _, Nat.le_trans hb hB.size⟩, hB⟩
  rcases List.mem_append.1 hz with hz | hz
  · exact h.fit z hz
  · simp at hz; rcases hz with rfl | rfl
    · exact h0
    · exact h1
theorem getD_out {Z : List Int} {k : Nat} (h : ¬ k < Z.length) : Z.getD k 0 = 0 := by
  rw [List.getD_eq_getElem?_getD, List.getElem?_eq_none (by omega)]; rfl

end Go.Proofs.Ytoppaipiibaocaa.Ints
