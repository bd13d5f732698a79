/- The program's variable that stands for no rule, as start-up lays it. -/
import Derived.Test.YtmbojhlcmgknbaaDoorRu
import Derived.LaidMore
import Derived.Lay
import Derived.LaidOnce
namespace Go.Proofs.YtmbojhlcmgknbaaDoor.Ints
open Go.RowKit Go.ChangeShapes Go.WideShapes Go.Deep
set_option linter.unusedVariables false
def noR : Ru := ⟨0, 0, -1⟩
/-- The variable's three cells. -/
def NoR (w : World) : Prop := w.cell? ⟨0, 0, none⟩ = some (.int .i64 0) ∧ w.cell? ⟨0, 1, none⟩ = some (.int .i64 0) ∧ w.cell? ⟨0, 2, none⟩ = some (.int .i64 (-1))
theorem NoR.below {w w' : World} (h : NoR w) {B : Nat} (hb : Below B w w') (hB : w.heap.size ≤ B) : NoR w' := by
  have hl := World.block_lt_of_cell? w _ h.1
  have hl2 : 0 < B := Nat.lt_of_lt_of_le hl hB
  exact ⟨(hb.cell (p := ⟨_, 0, none⟩) hl2).trans h.1, (hb.cell (p := ⟨_, 1, none⟩) hl2).trans h.2.1, (hb.cell (p := ⟨_, 2, none⟩) hl2).trans h.2.2⟩
set_option maxRecDepth 100000 in
theorem noR_of_laid {W : World} (h : laidMetH Tryd.prog [("loop.example/g01079/impl.noRule", Rows.laid_loop_example_g01079_impl_noRule)] W) : NoR W := by
  rw [MakeChecks.laidMetH_plain _ _ _ (by kernel_rfl)] at h
  obtain ⟨ps, ⟨g, t, cs, fuel, p, q, hg, ht, hv, hd, _, _⟩, _, _⟩ := h
  have hG : Tryd.prog.globalNamed "loop.example/g01079/impl.noRule" = some 0 := by kernel_rfl
  obtain rfl := Option.some.inj (hG.symm.trans hg)
  obtain rfl := Option.some.inj ((show (Tryd.prog.globals[0]?).map (·.type) = some 86 by kernel_rfl).symm.trans ht)
  have c1 : Tryd.prog.cellsOf 2 = 1 := by kernel_rfl
  have c3 : Tryd.prog.cellsOf 86 = 3 := by kernel_rfl
  obtain ⟨y0, y1, y2, n, ex, hlen, t0, t1, t2⟩ := trod_struct3 Tryd.underlying86 hd
  rw [c3] at hlen
  obtain ⟨l⟩ := cs
  match l, hlen with
  | [a, b, c], _ =>
    simp only [c1, List.drop_zero, List.drop_succ_cons, List.take_succ_cons, List.take_zero] at t0 t1 t2
    obtain ⟨n0, e0, f0, _⟩ := DataW.trod_int Tryd.underlying2 t0
    obtain ⟨n1, e1, f1, _⟩ := DataW.trod_int Tryd.underlying2 t1
    obtain ⟨n2, e2, f2, _⟩ := DataW.trod_int Tryd.underlying2 t2
    simp only [List.cons.injEq, and_true] at e0 e1 e2
    subst e0; subst e1; subst e2; subst f0; subst f1; subst f2
    have ex' := (Prod.mk.inj ex).1
    simp only [Rows.laid_loop_example_g01079_impl_noRule, DataW.agg.injEq, List.cons.injEq, DataW.lit.injEq, Lit.int.injEq, true_and, and_true] at ex'
    obtain ⟨g0, g1, g2⟩ := ex'
    have hc := fun j => World.var?_cell hG hv j
    refine ⟨?_, ?_, ?_⟩
    · have := hc 0; simpa [← g0] using this
    · have := hc 1; simpa [← g1] using this
    · have := hc 2; simpa [← g2] using this
end Go.Proofs.YtmbojhlcmgknbaaDoor.Ints
