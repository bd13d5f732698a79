/- Rows that a step leaves alone. (gen_chd.py) -/
import Derived.Test.YtbifkjmmhfnblaaDoorRun
namespace Go.Proofs.YtbifkjmmhfnblaaDoor.Ints
open Go.RowKit
set_option linter.unusedVariables false
set_option linter.unusedSimpArgs false
theorem Ow.keptQ {w w' : World} {B T : Nat} {v : Value} {zs : List Int} (h : Ow w B T v zs) (hs : w.heap.size ≤ w'.heap.size) (hb : ∀ k, B ≤ k → k < T → w'.heap[k]? = w.heap[k]?) : Ow w' B T v zs := by
  refine ⟨h.len, h.fit, ⟨h.row.1, ?_⟩, h.top, Nat.le_trans h.size hs, h.base⟩
  rcases h.row.2 with hn | ⟨g', cap, cur, hv, hbb, hgg, rest⟩
  · exact .inl hn
  · refine .inr ⟨g', cap, cur, hv, hbb, ?_, rest⟩
    subst hv
    rw [hb g' hbb (h.top g' rfl)]; exact hgg
theorem Ow.onlyQ {w w' : World} {B T : Nat} {v : Value} {zs : List Int} {S : Nat → Prop} (h : Ow w B T v zs) (k : Only S w w') (hS : ∀ b, B ≤ b → b < T → ¬ S b) : Ow w' B T v zs :=
  h.keptQ k.size (fun b h1 h2 => k.block b (Nat.lt_of_lt_of_le h2 h.size) (hS b h1 h2))
end Go.Proofs.YtbifkjmmhfnblaaDoor.Ints
