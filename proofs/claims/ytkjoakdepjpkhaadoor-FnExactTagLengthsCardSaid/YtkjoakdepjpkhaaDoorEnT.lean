/- The end of a run of a tag system: endOf at []int64. (gen_rt.py) -/
import Derived.Test.YtkjoakdepjpkhaaDoorEnC
import Derived.Test.YtkjoakdepjpkhaaDoorStT
namespace Go.Proofs.YtkjoakdepjpkhaaDoor.Ints
open Go.RowKit Go.Shelf
set_option linter.unusedVariables false
set_option linter.unusedSimpArgs false
attribute [local go_sem] Oper.semAt_some
attribute [local go_sem, local simp] wide_fnT
theorem stepsMkT (v : Value) (n : Int) (w : World) (hv : ∃ t u, v = .iface t (.pointer u)) :
    Calls Tryd.prog 73 #[v, .int .i64 n] w fun e w' => e = .returned (.func (.func 105) #[] #[.pointer (some ⟨w.heap.size + 1, 0, none⟩), .pointer (some ⟨w.heap.size, 0, none⟩)]) ∧ w' = (w.alloc (.cells #[v] 158)).alloc (.cells #[.int .i64 n] 2) := by
  obtain ⟨t, u, rfl⟩ := hv
  go_enter Tryd.func73, Tryd.ntmps73
  go_wp2
  go_ret
  exact ⟨rfl, rfl⟩
theorem Ow.putDT {Wf : World} {B T D : Nat} {o : Obj} {u : Value} {cs : List Int} (h : Ow Wf B T u cs) (hD : D < B) : Ow (Wf.putObj D o) B T u cs :=
  h.grown (row := some D) (w' := Wf.putObj D o) ⟨rfl, rfl, rfl, by simp [World.putObj], fun k _ hk => World.putObj_heap_other (fun e => hk (by simp [e]))⟩ (by
    rcases h.form with ⟨rfl, _⟩ | ⟨q, c, rfl, hq, _⟩
    · exact .inl rfl
    · exact .inr (by simp [Value.ownBlock]; omega))
/-- Four stores into four results. -/
theorem put4T {w : World} {g : Nat} {t t1 t2 t3 : TypeId} {a0 c d e : Value} (h : Cels w g t [a0]) (h1 : Cels w (g + 1) t1 [c]) (h2 : Cels w (g + 1 + 1) t2 [d]) (h3 : Cels w (g + 1 + 1 + 1) t3 [e]) (b0 c' d' e' : Value) :
    (w.cell? ⟨g, 0, none⟩ = some a0 ∧ w.frozen? ⟨g, 0, none⟩ = false ∧
    (w.setCell ⟨g, 0, none⟩ b0).cell? ⟨g + 1, 0, none⟩ = some c ∧ (w.setCell ⟨g, 0, none⟩ b0).frozen? ⟨g + 1, 0, none⟩ = false ∧
    ((w.setCell ⟨g, 0, none⟩ b0).setCell ⟨g + 1, 0, none⟩ c').cell? ⟨g + 1 + 1, 0, none⟩ = some d ∧ ((w.setCell ⟨g, 0, none⟩ b0).setCell ⟨g + 1, 0, none⟩ c').frozen? ⟨g + 1 + 1, 0, none⟩ = false ∧
    (((w.setCell ⟨g, 0, none⟩ b0).setCell ⟨g + 1, 0, none⟩ c').setCell ⟨g + 1 + 1, 0, none⟩ d').cell? ⟨g + 1 + 1 + 1, 0, none⟩ = some e ∧ (((w.setCell ⟨g, 0, none⟩ b0).setCell ⟨g + 1, 0, none⟩ c').setCell ⟨g + 1 + 1, 0, none⟩ d').frozen? ⟨g + 1 + 1 + 1, 0, none⟩ = false) ∧
    ∀ W, W = (((w.setCell ⟨g, 0, none⟩ b0).setCell ⟨g + 1, 0, none⟩ c').setCell ⟨g + 1 + 1, 0, none⟩ d').setCell ⟨g + 1 + 1 + 1, 0, none⟩ e' →
      (Cels W g t [b0] ∧ Cels W (g + 1) t1 [c'] ∧ Cels W (g + 1 + 1) t2 [d'] ∧ Cels W (g + 1 + 1 + 1) t3 [e']) ∧ (∀ B, B ≤ g → Below B w W) ∧ KeepsOthers w W := by
  have r1 := h.set 0 b0
  have o1 := h1.other (p := ⟨g, 0, none⟩) (by show g + 1 ≠ g; omega) b0
  have o2 := (h2.other (p := ⟨g, 0, none⟩) (by show g + 1 + 1 ≠ g; omega) b0).other (p := ⟨g + 1, 0, none⟩) (by show g + 1 + 1 ≠ g + 1; omega) c'
  have o3 := ((h3.other (p := ⟨g, 0, none⟩) (by show g + 1 + 1 + 1 ≠ g; omega) b0).other (p := ⟨g + 1, 0, none⟩) (by show g + 1 + 1 + 1 ≠ g + 1; omega) c').other (p := ⟨g + 1 + 1, 0, none⟩) (by show g + 1 + 1 + 1 ≠ g + 1 + 1; omega) d'
  refine ⟨⟨h.cell 0 rfl, h.frozen 0, o1.cell 0 rfl, o1.frozen 0, o2.cell 0 rfl, o2.frozen 0, o3.cell 0 rfl, o3.frozen 0⟩, ?_⟩
  rintro W rfl
  refine ⟨⟨?_, ?_, ?_, ?_⟩, fun B hB => ?_, ?_⟩
  · exact ((r1.other (p := ⟨g + 1, 0, none⟩) (by show g ≠ g + 1; omega) c').other (p := ⟨g + 1 + 1, 0, none⟩) (by show g ≠ g + 1 + 1; omega) d').other (p := ⟨g + 1 + 1 + 1, 0, none⟩) (by show g ≠ g + 1 + 1 + 1; omega) e'
  · exact ((o1.set 0 c').other (p := ⟨g + 1 + 1, 0, none⟩) (by show g + 1 ≠ g + 1 + 1; omega) d').other (p := ⟨g + 1 + 1 + 1, 0, none⟩) (by show g + 1 ≠ g + 1 + 1 + 1; omega) e'
  · exact (o2.set 0 d').other (p := ⟨g + 1 + 1 + 1, 0, none⟩) (by show g + 1 + 1 ≠ g + 1 + 1 + 1; omega) e'
  · exact o3.set 0 e'
  · exact below_set (below_set (below_set (below_set (Below.refl _ _) (by omega) _ _) (by omega) _ _) (by omega) _ _) (by omega) _ _
  · exact (((KeepsOthers.setCell _ _ _).trans (KeepsOthers.setCell _ _ _)).trans (KeepsOthers.setCell _ _ _)).trans (KeepsOthers.setCell _ _ _)
set_option maxHeartbeats 1000000 in
theorem startT (g : Nat) (bv : Bool) (bu cd : Int) (w : World) (hv : Calls Tryd.prog 185 #[.pointer (some ⟨g, 0, none⟩)] w fun e w' => e = .returned (.bool bv) ∧ w = w') (hc : cd = if bv = true then (if 1 ≤ bu ∧ bu ≤ 20000 then 0 else 2) else 1) :
    Calls Tryd.prog 72 #[.iface 103 (.pointer (some ⟨g, 0, none⟩)), .int .i64 bu] w fun e w' => e = .returned (.int .i64 cd) ∧ w = w' := by
  have HV := Lib.hid hv
  have n1 := nlT g
  have m1 := mtT g
  clear hv
  rcases eqOr bv with hb | hb
  · subst hb
    obtain rfl : cd = 1 := by rw [hc]; rfl
    clear hc
    go_enter Tryd.func72, Tryd.ntmps72
    go_wp2_with fail
    refine HV.out.mono ?_
    rintro e w1 ⟨rfl, rfl⟩
    go_wp2
    go_ret
    exact ⟨rfl, rfl⟩
  subst hb
  rw [if_pos rfl] at hc
  by_cases hq : 1 ≤ bu ∧ bu ≤ 20000
  · obtain rfl : cd = 0 := by rw [hc, if_pos hq]
    have HQ : Hid (1 ≤ bu ∧ bu ≤ 20000) := Lib.hid hq
    clear hc hq
    go_enter Tryd.func72, Tryd.ntmps72
    go_wp2_with fail
    refine HV.out.mono ?_
    rintro e w1 ⟨rfl, rfl⟩
    go_wp2_with fail
    refine (implBudget bu true _ ⟨fun _ => HQ.out, fun _ => rfl⟩).mono ?_
    rintro e w1 ⟨rfl, rfl⟩
    go_wp2
    go_ret
    exact ⟨rfl, rfl⟩
  · obtain rfl : cd = 2 := by rw [hc, if_neg hq]
    have HQ : Hid (¬ (1 ≤ bu ∧ bu ≤ 20000)) := Lib.hid hq
    clear hc hq
    go_enter Tryd.func72, Tryd.ntmps72
    go_wp2_with fail
    refine HV.out.mono ?_
    rintro e w1 ⟨rfl, rfl⟩
    go_wp2_with fail
    refine (implBudget bu false _ ⟨fun h => (by cases h), fun h => (by have := HQ.out; omega)⟩).mono ?_
    rintro e w1 ⟨rfl, rfl⟩
    go_wp2
    go_ret
    exact ⟨rfl, rfl⟩
end Go.Proofs.YtkjoakdepjpkhaaDoor.Ints
