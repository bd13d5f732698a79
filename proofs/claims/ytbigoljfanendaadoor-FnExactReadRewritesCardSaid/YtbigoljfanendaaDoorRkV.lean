/- Counters read from texts, of the model. -/
import Derived.Test.YtbigoljfanendaaDoorSpl
import Derived.Test.YtbigoljfanendaaDoorRdD
import Derived.Test.YtbigoljfanendaaDoorCtT
namespace Go.Proofs.YtbigoljfanendaaDoor.Ints
open Go.RowKit
set_option linter.unusedVariables false
set_option linter.unusedSimpArgs false
theorem join_pcs (c : UInt8) (l : List UInt8) : Lib.join (pcs c l) [c] = l := by
  refine snocRec (P := fun l => Lib.join (pcs c l) [c] = l) ?_ ?_ l
  · simp [pcs, pcRun, Lib.join_one]
  · intro l x ih
    unfold pcs at ih ⊢
    rw [pcRun_snoc, pcStep]
    split
    · rename_i hx
      subst hx
      dsimp only
      rw [join_snoc _ _ _ (by simp), ih]; simp
    · dsimp only
      by_cases h0 : (pcRun c l).1 = []
      · rw [h0] at ih ⊢
        simp only [List.nil_append, Lib.join_one] at ih ⊢
        rw [ih]
      · rw [join_snoc _ _ _ h0] at ih ⊢
        rw [← List.append_assoc, ih]
/-- Three numbers between colons, within the bounds. -/
def rkOk (ts : List (List UInt8)) : Prop := ts.length = 3 ∧ (∀ j, j < 3 → NumOk (ts.getD j [])) ∧ valB (valL (ts.getD 0 [])) (valL (ts.getD 1 [])) (valL (ts.getD 2 [])) = true
open Classical in
noncomputable def rkB (l : List UInt8) : Bool := decide (rkOk (pcs 58 l))
open Classical in
noncomputable def rkX (l : List UInt8) (j : Nat) : Int := if rkOk (pcs 58 l) then valL ((pcs 58 l).getD j []) else 0
theorem rk_bad {l : List UInt8} (h : ¬ rkOk (pcs 58 l)) : rkB l = false ∧ ∀ j, rkX l j = 0 := by simp [rkB, rkX, h]
theorem rk_good {l : List UInt8} (h : rkOk (pcs 58 l)) : rkB l = true ∧ ∀ j, rkX l j = valL ((pcs 58 l).getD j []) := by simp [rkB, rkX, h]
theorem rk_text {l a b c : List UInt8} (h : pcs 58 l = [a, b, c]) (ha : NumOk a) (hb : NumOk b) (hc : NumOk c) : ctT (valL a) (valL b) (valL c) = l := by
  rw [← ctJoin, itoa_valL ha, itoa_valL hb, itoa_valL hc, ← h, join_pcs]
theorem rk_empty {l a b c : List UInt8} (h : pcs 58 l = [a, b, c]) : l ≠ [] := fun e => by subst e; simp [pcs, pcRun] at h
end Go.Proofs.YtbigoljfanendaaDoor.Ints
