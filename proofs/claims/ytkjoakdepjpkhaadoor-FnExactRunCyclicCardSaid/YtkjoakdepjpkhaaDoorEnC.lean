/- The end of a run of counters: endOf. -/
import Derived.Test.YtkjoakdepjpkhaaDoorStp
import Derived.Stop.RegionWithIn
import Derived.RegionIn
import Derived.Deep.RegionHeld3
import Derived.Deep.RegionWith
import Derived.Deep.DeepCutAuto
namespace Go.Proofs.YtkjoakdepjpkhaaDoor.Ints
open Go.RowKit Go.Shelf
set_option linter.unusedVariables false
set_option linter.unusedSimpArgs false
attribute [local go_sem] Oper.semAt_some
attribute [local go_sem, local simp] wide_fn'
theorem implBudget (n : Int) (b : Bool) (w : World) (h : b = true ↔ (1 ≤ n ∧ n ≤ 20000)) : Calls Tryd.prog 104 #[.int .i64 n] w fun e w' => e = .returned (.bool b) ∧ w = w' := by
  cases b with
  | true =>
    obtain ⟨h0, h1⟩ := h.1 rfl
    clear h
    go_enter Tryd.func104, Tryd.ntmps104
    go_wp2
    go_ret
    exact ⟨rfl, rfl⟩
  | false =>
    have hn : ¬ (1 ≤ n ∧ n ≤ 20000) := fun h' => by cases h.2 h'
    clear h
    by_cases h0 : 1 ≤ n
    · have h1 : decide (n ≤ 20000) = false := decide_eq_false (fun h1 => hn ⟨h0, h1⟩)
      clear hn
      go_enter Tryd.func104, Tryd.ntmps104
      go_wp2
      go_ret
      exact ⟨rfl, rfl⟩
    · clear hn
      go_enter Tryd.func104, Tryd.ntmps104
      go_wp2
      go_ret
      exact ⟨rfl, rfl⟩
theorem stepsMkC (v : Value) (n : Int) (w : World) (hv : ∃ t u, v = .iface t (.pointer u)) :
    Calls Tryd.prog 140 #[v, .int .i64 n] w fun e w' => e = .returned (.func (.func 155) #[] #[.pointer (some ⟨w.heap.size + 1, 0, none⟩), .pointer (some ⟨w.heap.size, 0, none⟩)]) ∧ w' = (w.alloc (.cells #[v] 182)).alloc (.cells #[.int .i64 n] 2) := by
  obtain ⟨t, u, rfl⟩ := hv
  go_enter Tryd.func140, Tryd.ntmps140
  go_wp2
  go_ret
  exact ⟨rfl, rfl⟩
/-- Six stores into four results: a struct of three cells and three cells apart. -/
theorem put6 {w : World} {g : Nat} {t t1 t2 t3 : TypeId} {a0 a1 a2 c d e : Value} (h : Cels w g t [a0, a1, a2]) (h1 : Cels w (g + 1) t1 [c]) (h2 : Cels w (g + 1 + 1) t2 [d]) (h3 : Cels w (g + 1 + 1 + 1) t3 [e]) (b0 b1 b2 c' d' e' : Value) :
    (w.cell? ⟨g, 0, none⟩ = some a0 ∧ w.frozen? ⟨g, 0, none⟩ = false ∧ (w.setCell ⟨g, 0, none⟩ b0).cell? ⟨g, 1, none⟩ = some a1 ∧ (w.setCell ⟨g, 0, none⟩ b0).frozen? ⟨g, 1, none⟩ = false ∧
    ((w.setCell ⟨g, 0, none⟩ b0).setCell ⟨g, 1, none⟩ b1).cell? ⟨g, 2, none⟩ = some a2 ∧ ((w.setCell ⟨g, 0, none⟩ b0).setCell ⟨g, 1, none⟩ b1).frozen? ⟨g, 2, none⟩ = false ∧
    (((w.setCell ⟨g, 0, none⟩ b0).setCell ⟨g, 1, none⟩ b1).setCell ⟨g, 2, none⟩ b2).cell? ⟨g + 1, 0, none⟩ = some c ∧ (((w.setCell ⟨g, 0, none⟩ b0).setCell ⟨g, 1, none⟩ b1).setCell ⟨g, 2, none⟩ b2).frozen? ⟨g + 1, 0, none⟩ = false ∧
    ((((w.setCell ⟨g, 0, none⟩ b0).setCell ⟨g, 1, none⟩ b1).setCell ⟨g, 2, none⟩ b2).setCell ⟨g + 1, 0, none⟩ c').cell? ⟨g + 1 + 1, 0, none⟩ = some d ∧ ((((w.setCell ⟨g, 0, none⟩ b0).setCell ⟨g, 1, none⟩ b1).setCell ⟨g, 2, none⟩ b2).setCell ⟨g + 1, 0, none⟩ c').frozen? ⟨g + 1 + 1, 0, none⟩ = false ∧
    (((((w.setCell ⟨g, 0, none⟩ b0).setCell ⟨g, 1, none⟩ b1).setCell ⟨g, 2, none⟩ b2).setCell ⟨g + 1, 0, none⟩ c').setCell ⟨g + 1 + 1, 0, none⟩ d').cell? ⟨g + 1 + 1 + 1, 0, none⟩ = some e ∧ (((((w.setCell ⟨g, 0, none⟩ b0).setCell ⟨g, 1, none⟩ b1).setCell ⟨g, 2, none⟩ b2).setCell ⟨g + 1, 0, none⟩ c').setCell ⟨g + 1 + 1, 0, none⟩ d').frozen? ⟨g + 1 + 1 + 1, 0, none⟩ = false) ∧
    ∀ W, W = (((((w.setCell ⟨g, 0, none⟩ b0).setCell ⟨g, 1, none⟩ b1).setCell ⟨g, 2, none⟩ b2).setCell ⟨g + 1, 0, none⟩ c').setCell ⟨g + 1 + 1, 0, none⟩ d').setCell ⟨g + 1 + 1 + 1, 0, none⟩ e' →
      (Cels W g t [b0, b1, b2] ∧ Cels W (g + 1) t1 [c'] ∧ Cels W (g + 1 + 1) t2 [d'] ∧ Cels W (g + 1 + 1 + 1) t3 [e']) ∧ (∀ B, B ≤ g → Below B w W) ∧ KeepsOthers w W ∧ Kept (fun k => k < g ∨ g + 1 + 1 + 1 < k) w W := by
  have r1 := h.set 0 b0
  have r2 := r1.set 1 b1
  have r3 := r2.set 2 b2
  have o1 := ((h1.other (p := ⟨g, 0, none⟩) (by show g + 1 ≠ g; omega) b0).other (p := ⟨g, 1, none⟩) (by show g + 1 ≠ g; omega) b1).other (p := ⟨g, 2, none⟩) (by show g + 1 ≠ g; omega) b2
  have o2 := (((h2.other (p := ⟨g, 0, none⟩) (by show g + 1 + 1 ≠ g; omega) b0).other (p := ⟨g, 1, none⟩) (by show g + 1 + 1 ≠ g; omega) b1).other (p := ⟨g, 2, none⟩) (by show g + 1 + 1 ≠ g; omega) b2).other (p := ⟨g + 1, 0, none⟩) (by show g + 1 + 1 ≠ g + 1; omega) c'
  have o3 := ((((h3.other (p := ⟨g, 0, none⟩) (by show g + 1 + 1 + 1 ≠ g; omega) b0).other (p := ⟨g, 1, none⟩) (by show g + 1 + 1 + 1 ≠ g; omega) b1).other (p := ⟨g, 2, none⟩) (by show g + 1 + 1 + 1 ≠ g; omega) b2).other (p := ⟨g + 1, 0, none⟩) (by show g + 1 + 1 + 1 ≠ g + 1; omega) c').other (p := ⟨g + 1 + 1, 0, none⟩) (by show g + 1 + 1 + 1 ≠ g + 1 + 1; omega) d'
  refine ⟨⟨h.cell 0 rfl, h.frozen 0, r1.cell 1 rfl, r1.frozen 1, r2.cell 2 rfl, r2.frozen 2, o1.cell 0 rfl, o1.frozen 0, o2.cell 0 rfl, o2.frozen 0, o3.cell 0 rfl, o3.frozen 0⟩, ?_⟩
  rintro W rfl
  refine ⟨⟨?_, ?_, ?_, ?_⟩, fun B hB => ?_, ?_, ?_⟩
  · exact ((r3.other (p := ⟨g + 1, 0, none⟩) (by show g ≠ g + 1; omega) c').other (p := ⟨g + 1 + 1, 0, none⟩) (by show g ≠ g + 1 + 1; omega) d').other (p := ⟨g + 1 + 1 + 1, 0, none⟩) (by show g ≠ g + 1 + 1 + 1; omega) e'
  · exact ((o1.set 0 c').other (p := ⟨g + 1 + 1, 0, none⟩) (by show g + 1 ≠ g + 1 + 1; omega) d').other (p := ⟨g + 1 + 1 + 1, 0, none⟩) (by show g + 1 ≠ g + 1 + 1 + 1; omega) e'
  · exact (o2.set 0 d').other (p := ⟨g + 1 + 1 + 1, 0, none⟩) (by show g + 1 + 1 ≠ g + 1 + 1 + 1; omega) e'
  · exact o3.set 0 e'
  · exact below_set (below_set (below_set (below_set (below_set (below_set (Below.refl _ _) (by omega) _ _) (by omega) _ _) (by omega) _ _) (by omega) _ _) (by omega) _ _) (by omega) _ _
  · exact (((((KeepsOthers.setCell _ _ _).trans (KeepsOthers.setCell _ _ _)).trans (KeepsOthers.setCell _ _ _)).trans (KeepsOthers.setCell _ _ _)).trans (KeepsOthers.setCell _ _ _)).trans (KeepsOthers.setCell _ _ _)
  · have nT : ∀ j, g ≤ j → j ≤ g + 1 + 1 + 1 → ¬ (j < g ∨ g + 1 + 1 + 1 < j) := fun j a b h => by rcases h with h | h <;> omega
    exact ((((((Kept.refl _ _).set (p := ⟨g, 0, none⟩) (nT g (by omega) (by omega)) _).set (p := ⟨g, 1, none⟩) (nT g (by omega) (by omega)) _).set (p := ⟨g, 2, none⟩) (nT g (by omega) (by omega)) _).set (p := ⟨g + 1, 0, none⟩) (nT (g + 1) (by omega) (by omega)) _).set (p := ⟨g + 1 + 1, 0, none⟩) (nT (g + 1 + 1) (by omega) (by omega)) _).set (p := ⟨g + 1 + 1 + 1, 0, none⟩) (nT (g + 1 + 1 + 1) (by omega) (by omega)) _
theorem cels_own {β : Type} (B g : Nat) (t : TypeId) (cs : β → List Value) : OwnFrom B (fun (x : β) W => Cels W g t (cs x)) := fun s W W' row hs hg hr => hs.grown hg (fun e => by
  obtain ⟨_, o, ho, hc⟩ := hr g e
  rw [show W.heap[g]? = some (.cells (cs s).toArray t (0, 0)) from hs] at ho
  cases ho; cases hc)
theorem below_keeps {w w' : World} (h : Below w.heap.size w w') : KeepsOthers w w' := ⟨h.size, fun k o hk _ => (h.block k (Array.getElem?_eq_some_iff.1 hk).1).trans hk⟩
end Go.Proofs.YtkjoakdepjpkhaaDoor.Ints
