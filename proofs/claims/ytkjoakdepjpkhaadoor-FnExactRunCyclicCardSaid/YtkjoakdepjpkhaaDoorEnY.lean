/- The end of a run of a cyclic tag system: endOf at Turn. (out of XEnP) -/
import Derived.Test.YtkjoakdepjpkhaaDoorEnC
import Derived.Test.YtkjoakdepjpkhaaDoorStY
namespace Go.Proofs.YtkjoakdepjpkhaaDoor.Ints
open Go.RowKit Go.Shelf
set_option linter.unusedVariables false
set_option linter.unusedSimpArgs false
attribute [local go_sem] Oper.semAt_some
attribute [local go_sem, local simp] wide_fnY
theorem stepsMkY (v : Value) (n : Int) (w : World) (hv : ∃ t u, v = .iface t (.pointer u)) :
    Calls Tryd.prog 111 #[v, .int .i64 n] w fun e w' => e = .returned (.func (.func 135) #[] #[.pointer (some ⟨w.heap.size + 1, 0, none⟩), .pointer (some ⟨w.heap.size, 0, none⟩)]) ∧ w' = (w.alloc (.cells #[v] 168)).alloc (.cells #[.int .i64 n] 2) := by
  obtain ⟨t, u, rfl⟩ := hv
  go_enter Tryd.func111, Tryd.ntmps111
  go_wp2
  go_ret
  exact ⟨rfl, rfl⟩
theorem Ow.putDY {Wf : World} {B T D : Nat} {o : Obj} {u : Value} {cs : List Int} (h : Ow Wf B T u cs) (hD : D < B) : Ow (Wf.putObj D o) B T u cs :=
  h.grown (row := some D) (w' := Wf.putObj D o) ⟨rfl, rfl, rfl, by simp [World.putObj], fun k _ hk => World.putObj_heap_other (fun e => hk (by simp [e]))⟩ (by
    rcases h.form with ⟨rfl, _⟩ | ⟨q, c, rfl, hq, _⟩
    · exact .inl rfl
    · exact .inr (by simp [Value.ownBlock]; omega))
/-- Five stores into four results: a struct of two cells and three cells apart. -/
theorem put5Y {w : World} {g : Nat} {t t1 t2 t3 : TypeId} {a0 a1 c d e : Value} (h : Cels w g t [a0, a1]) (h1 : Cels w (g + 1) t1 [c]) (h2 : Cels w (g + 1 + 1) t2 [d]) (h3 : Cels w (g + 1 + 1 + 1) t3 [e]) (b0 b1 c' d' e' : Value) :
    (w.cell? ⟨g, 0, none⟩ = some a0 ∧ w.frozen? ⟨g, 0, none⟩ = false ∧ (w.setCell ⟨g, 0, none⟩ b0).cell? ⟨g, 1, none⟩ = some a1 ∧ (w.setCell ⟨g, 0, none⟩ b0).frozen? ⟨g, 1, none⟩ = false ∧
    ((w.setCell ⟨g, 0, none⟩ b0).setCell ⟨g, 1, none⟩ b1).cell? ⟨g + 1, 0, none⟩ = some c ∧ ((w.setCell ⟨g, 0, none⟩ b0).setCell ⟨g, 1, none⟩ b1).frozen? ⟨g + 1, 0, none⟩ = false ∧
    (((w.setCell ⟨g, 0, none⟩ b0).setCell ⟨g, 1, none⟩ b1).setCell ⟨g + 1, 0, none⟩ c').cell? ⟨g + 1 + 1, 0, none⟩ = some d ∧ (((w.setCell ⟨g, 0, none⟩ b0).setCell ⟨g, 1, none⟩ b1).setCell ⟨g + 1, 0, none⟩ c').frozen? ⟨g + 1 + 1, 0, none⟩ = false ∧
    ((((w.setCell ⟨g, 0, none⟩ b0).setCell ⟨g, 1, none⟩ b1).setCell ⟨g + 1, 0, none⟩ c').setCell ⟨g + 1 + 1, 0, none⟩ d').cell? ⟨g + 1 + 1 + 1, 0, none⟩ = some e ∧ ((((w.setCell ⟨g, 0, none⟩ b0).setCell ⟨g, 1, none⟩ b1).setCell ⟨g + 1, 0, none⟩ c').setCell ⟨g + 1 + 1, 0, none⟩ d').frozen? ⟨g + 1 + 1 + 1, 0, none⟩ = false) ∧
    ∀ W, W = ((((w.setCell ⟨g, 0, none⟩ b0).setCell ⟨g, 1, none⟩ b1).setCell ⟨g + 1, 0, none⟩ c').setCell ⟨g + 1 + 1, 0, none⟩ d').setCell ⟨g + 1 + 1 + 1, 0, none⟩ e' →
      (Cels W g t [b0, b1] ∧ Cels W (g + 1) t1 [c'] ∧ Cels W (g + 1 + 1) t2 [d'] ∧ Cels W (g + 1 + 1 + 1) t3 [e']) ∧ (∀ B, B ≤ g → Below B w W) ∧ KeepsOthers w W ∧ Kept (fun k => k < g ∨ g + 1 + 1 + 1 < k) w W := by
  have r1 := h.set 0 b0
  have r3 := r1.set 1 b1
  have o1 := (h1.other (p := ⟨g, 0, none⟩) (by show g + 1 ≠ g; omega) b0).other (p := ⟨g, 1, none⟩) (by show g + 1 ≠ g; omega) b1
  have o2 := ((h2.other (p := ⟨g, 0, none⟩) (by show g + 1 + 1 ≠ g; omega) b0).other (p := ⟨g, 1, none⟩) (by show g + 1 + 1 ≠ g; omega) b1).other (p := ⟨g + 1, 0, none⟩) (by show g + 1 + 1 ≠ g + 1; omega) c'
  have o3 := (((h3.other (p := ⟨g, 0, none⟩) (by show g + 1 + 1 + 1 ≠ g; omega) b0).other (p := ⟨g, 1, none⟩) (by show g + 1 + 1 + 1 ≠ g; omega) b1).other (p := ⟨g + 1, 0, none⟩) (by show g + 1 + 1 + 1 ≠ g + 1; omega) c').other (p := ⟨g + 1 + 1, 0, none⟩) (by show g + 1 + 1 + 1 ≠ g + 1 + 1; omega) d'
  refine ⟨⟨h.cell 0 rfl, h.frozen 0, r1.cell 1 rfl, r1.frozen 1, o1.cell 0 rfl, o1.frozen 0, o2.cell 0 rfl, o2.frozen 0, o3.cell 0 rfl, o3.frozen 0⟩, ?_⟩
  rintro W rfl
  refine ⟨⟨?_, ?_, ?_, ?_⟩, fun B hB => ?_, ?_, ?_⟩
  · exact ((r3.other (p := ⟨g + 1, 0, none⟩) (by show g ≠ g + 1; omega) c').other (p := ⟨g + 1 + 1, 0, none⟩) (by show g ≠ g + 1 + 1; omega) d').other (p := ⟨g + 1 + 1 + 1, 0, none⟩) (by show g ≠ g + 1 + 1 + 1; omega) e'
  · exact ((o1.set 0 c').other (p := ⟨g + 1 + 1, 0, none⟩) (by show g + 1 ≠ g + 1 + 1; omega) d').other (p := ⟨g + 1 + 1 + 1, 0, none⟩) (by show g + 1 ≠ g + 1 + 1 + 1; omega) e'
  · exact (o2.set 0 d').other (p := ⟨g + 1 + 1 + 1, 0, none⟩) (by show g + 1 + 1 ≠ g + 1 + 1 + 1; omega) e'
  · exact o3.set 0 e'
  · exact below_set (below_set (below_set (below_set (below_set (Below.refl _ _) (by omega) _ _) (by omega) _ _) (by omega) _ _) (by omega) _ _) (by omega) _ _
  · exact ((((KeepsOthers.setCell _ _ _).trans (KeepsOthers.setCell _ _ _)).trans (KeepsOthers.setCell _ _ _)).trans (KeepsOthers.setCell _ _ _)).trans (KeepsOthers.setCell _ _ _)
  · have nT : ∀ j, g ≤ j → j ≤ g + 1 + 1 + 1 → ¬ (j < g ∨ g + 1 + 1 + 1 < j) := fun j a b h => by rcases h with h | h <;> omega
    exact (((((Kept.refl _ _).set (p := ⟨g, 0, none⟩) (nT g (by omega) (by omega)) _).set (p := ⟨g, 1, none⟩) (nT g (by omega) (by omega)) _).set (p := ⟨g + 1, 0, none⟩) (nT (g + 1) (by omega) (by omega)) _).set (p := ⟨g + 1 + 1, 0, none⟩) (nT (g + 1 + 1) (by omega) (by omega)) _).set (p := ⟨g + 1 + 1 + 1, 0, none⟩) (nT (g + 1 + 1 + 1) (by omega) (by omega)) _
set_option maxHeartbeats 1000000 in
theorem startY (g : Nat) (bv : Bool) (bu cd : Int) (w : World) (hv : Calls Tryd.prog 195 #[.pointer (some ⟨g, 0, none⟩)] w fun e w' => e = .returned (.bool bv) ∧ w = w') (hc : cd = if bv = true then (if 1 ≤ bu ∧ bu ≤ 20000 then 0 else 2) else 1) :
    Calls Tryd.prog 110 #[.iface 122 (.pointer (some ⟨g, 0, none⟩)), .int .i64 bu] w fun e w' => e = .returned (.int .i64 cd) ∧ w = w' := by
  have HV := Lib.hid hv
  have n1 := nlY g
  have m1 := mtY g
  clear hv
  rcases eqOr bv with hb | hb
  · subst hb
    obtain rfl : cd = 1 := by rw [hc]; rfl
    clear hc
    go_enter Tryd.func110, Tryd.ntmps110
    go_wp2_with fail
    refine HV.out.mono ?_
    rintro e w1 ⟨rfl, rfl⟩
    go_wp2
    go_ret
    exact ⟨rfl, rfl⟩
  subst hb
  rw [if_pos rfl] at hc
  by_cases hq : 1 ≤ bu ∧ bu ≤ 20000
  · obtain rfl : cd = 0 := by rw [hc, if_pos hq]
    have HQ : Hid (1 ≤ bu ∧ bu ≤ 20000) := Lib.hid hq
    clear hc hq
    go_enter Tryd.func110, Tryd.ntmps110
    go_wp2_with fail
    refine HV.out.mono ?_
    rintro e w1 ⟨rfl, rfl⟩
    go_wp2_with fail
    refine (implBudget bu true _ ⟨fun _ => HQ.out, fun _ => rfl⟩).mono ?_
    rintro e w1 ⟨rfl, rfl⟩
    go_wp2
    go_ret
    exact ⟨rfl, rfl⟩
  · obtain rfl : cd = 2 := by rw [hc, if_neg hq]
    have HQ : Hid (¬ (1 ≤ bu ∧ bu ≤ 20000)) := Lib.hid hq
    clear hc hq
    go_enter Tryd.func110, Tryd.ntmps110
    go_wp2_with fail
    refine HV.out.mono ?_
    rintro e w1 ⟨rfl, rfl⟩
    go_wp2_with fail
    refine (implBudget bu false _ ⟨fun h => (by cases h), fun h => (by have := HQ.out; omega)⟩).mono ?_
    rintro e w1 ⟨rfl, rfl⟩
    go_wp2
    go_ret
    exact ⟨rfl, rfl⟩
set_option maxRecDepth 100000 in
set_option maxHeartbeats 8000000 in
theorem implEnY_in (w0 w : World) (g q n0 : Nat) (vz : Value) (zss : List (List Int)) (at' : Int) (xs : List Int) (bu : Int) (hst : CyR w0 w g q vz zss (nq xs) 0 n0 (turnB zss at' xs) at') (hn0 : n0 = min xs.length 1000) (he : EtV w0) (hb0 : Below w0.heap.size w0 w) :
    CallsIn Fence.wide 6 Tryd.prog 81 #[.iface 122 (.pointer (some ⟨g, 0, none⟩)), .int .i64 bu] w fun e w' =>
      ∃ u, e = .returned (.tuple #[.agg #[.int .i64 (ryR zss at' xs bu).at', u], .int .i64 (ryR zss at' xs bu).n, .bool (ryR zss at' xs bu).h, .int .i64 (ryR zss at' xs bu).code]) ∧ Ow w' w0.heap.size w'.heap.size u (ryR zss at' xs bu).cs ∧ Below w0.heap.size w0 w' := by
  obtain ⟨R, hR⟩ : ∃ R, R = ryR zss at' xs bu := ⟨_, rfl⟩
  rw [← hR]
  have HR := Lib.hid hR
  have HST0 := Lib.hid hst
  have HN0 := Lib.hid hn0
  have HE := Lib.hid he
  have HB0 := Lib.hid hb0
  obtain ⟨W0, hW0⟩ : ∃ W, W = ((((w.alloc (Obj.cells #[.int .i64 0, .slice none 0 0] 41)).alloc (Obj.cells #[.int .i64 0] 2)).alloc (Obj.cells #[.bool false] 4)).alloc (Obj.cells #[.int .i64 0] 2)).alloc (Obj.cells #[.int .i64 0, .slice none 0 0] 41) := ⟨_, rfl⟩
  have hbw : Below w.heap.size w W0 := by rw [hW0]; exact (((((Below.refl _ _).alloc (Nat.le_refl _) _).alloc (by simp) _).alloc (by simp; omega) _).alloc (by simp; omega) _).alloc (by simp; omega) _
  have hsz : W0.heap.size = w.heap.size + 5 := by rw [hW0]; simp
  have k0 : Cels W0 w.heap.size 41 [.int .i64 0, .slice none 0 0] := by rw [hW0]; exact ((((Cels.new _ _ _).alloc _).alloc _).alloc _).alloc _
  have k1 : Cels W0 (w.heap.size + 1) 2 [.int .i64 0] := by
    rw [hW0]
    have := Cels.new (w.alloc (Obj.cells #[.int .i64 0, .slice none 0 0] 41)) 2 [.int .i64 0]
    rw [World.size_alloc] at this
    exact ((this.alloc _).alloc _).alloc _
  have k2 : Cels W0 (w.heap.size + 1 + 1) 4 [.bool false] := by
    rw [hW0]
    have := Cels.new ((w.alloc (Obj.cells #[.int .i64 0, .slice none 0 0] 41)).alloc (Obj.cells #[.int .i64 0] 2)) 4 [.bool false]
    rw [World.size_alloc, World.size_alloc] at this
    exact (this.alloc _).alloc _
  have k3 : Cels W0 (w.heap.size + 1 + 1 + 1) 2 [.int .i64 0] := by
    rw [hW0]
    have := Cels.new (((w.alloc (Obj.cells #[.int .i64 0, .slice none 0 0] 41)).alloc (Obj.cells #[.int .i64 0] 2)).alloc (Obj.cells #[.bool false] 4)) 2 [.int .i64 0]
    rw [World.size_alloc, World.size_alloc, World.size_alloc] at this
    exact this.alloc _
  have k4 : Cels W0 (w.heap.size + 1 + 1 + 1 + 1) 41 [.int .i64 0, .slice none 0 0] := by
    rw [hW0]
    have := Cels.new ((((w.alloc (Obj.cells #[.int .i64 0, .slice none 0 0] 41)).alloc (Obj.cells #[.int .i64 0] 2)).alloc (Obj.cells #[.bool false] 4)).alloc (Obj.cells #[.int .i64 0] 2)) 41 [.int .i64 0, .slice none 0 0]
    rwa [World.size_alloc, World.size_alloc, World.size_alloc, World.size_alloc] at this
  have HCL := Lib.hid (hst.head.below hbw hst.head.lt)
  have HBW0 := Lib.hid hbw
  have HBW := Lib.hid (hb0.trans (hbw.mono hb0.size))
  have HG0 : Hid (w0.heap.size ≤ w.heap.size ∧ g < w.heap.size) := Lib.hid ⟨hb0.size, hst.head.lt⟩
  have HSZ := Lib.hid hsz
  have HW0 := Lib.hid hW0.symm
  have K0 := Lib.hid k0
  have K1 := Lib.hid k1
  have K2 := Lib.hid k2
  have K3 := Lib.hid k3
  have K4 := Lib.hid k4
  have n1 := nlY g
  have m1 := mtY g
  obtain ⟨bv, hbv⟩ : ∃ x, x = turnB zss at' xs := ⟨_, rfl⟩
  rw [← hbv] at HCL HST0
  have HV := Lib.hid hbv
  have ret : ∀ (R' : RyE) (u : Value) (W : World), (Cels W w.heap.size 41 [.int .i64 R'.at', u] ∧ Cels W (w.heap.size + 1) 2 [.int .i64 R'.n] ∧ Cels W (w.heap.size + 1 + 1) 4 [.bool R'.h] ∧ Cels W (w.heap.size + 1 + 1 + 1) 2 [.int .i64 R'.code]) →
      W.cell? ⟨w.heap.size, 0, none⟩ = some (.int .i64 R'.at') ∧ W.cell? ⟨w.heap.size, 1, none⟩ = some u ∧ W.cell? ⟨w.heap.size + 1, 0, none⟩ = some (.int .i64 R'.n) ∧ W.cell? ⟨w.heap.size + 1 + 1, 0, none⟩ = some (.bool R'.h) ∧ W.cell? ⟨w.heap.size + 1 + 1 + 1, 0, none⟩ = some (.int .i64 R'.code) := fun R' u W q =>
    ⟨q.1.cell 0 rfl, q.1.cell 1 rfl, q.2.1.cell 0 rfl, q.2.2.1.cell 0 rfl, q.2.2.2.cell 0 rfl⟩
  have RET := Lib.hid ret
  clear hR hst hn0 he hb0 hbw hsz hW0 k0 k1 k2 k3 k4 hbv ret
  refine callsIn_of_wp_marks Tryd.func81 rfl trivial ?_ rfl
  simp only [Tryd.ntmps81, List.size_toArray, List.length_cons, List.length_nil, Nat.reduceAdd, Nat.reduceSub, Array.replicate_succ, Array.replicate_zero, List.push_toArray, List.append_toArray, List.nil_append, List.cons_append]
  rcases eqOr bv with hb | hb
  · subst hb
    gi_wp2_with fail
    rw [HW0.out]
    gi_at_call 110
    refine (callsIn_wide.2 (startY g false bu 1 W0 (cyValid HCL.out) (by simp))).mono ?_
    rintro e w1 ⟨rfl, rfl⟩
    have e := Lib.hid (ry_bad (bu := bu) HV.out.symm)
    have z0 := K4.out.cell 0 rfl
    have z1 := K4.out.cell 1 rfl
    obtain ⟨⟨f1, f2, f3, f4, f5, f6, f7, f8, f9, f10⟩, hf⟩ := put5Y K0.out K1.out K2.out K3.out (.int .i64 0) (.slice none 0 0) (.int .i64 0) (.bool false) (.int .i64 1)
    have HF := Lib.hid hf
    clear hf
    gi_wp2_with fail
    obtain ⟨W, hW⟩ : ∃ W, W = ((((W0.setCell ⟨w.heap.size, 0, none⟩ (.int .i64 0)).setCell ⟨w.heap.size, 1, none⟩ (.slice none 0 0)).setCell ⟨w.heap.size + 1, 0, none⟩ (.int .i64 0)).setCell ⟨w.heap.size + 1 + 1, 0, none⟩ (.bool false)).setCell ⟨w.heap.size + 1 + 1 + 1, 0, none⟩ (.int .i64 1) := ⟨_, rfl⟩
    obtain ⟨q1, q2, q3, q4⟩ := HF.out W hW
    rw [← hW]
    obtain ⟨x0, x1, x2, x3, x4⟩ := RET.out ⟨1, 0, [], 0, false⟩ (.slice none 0 0) W q1
    clear f1 f2 f3 f4 f5 f6 f7 f8 f9 f10 hW
    exact ⟨.tuple #[.agg #[.int .i64 0, .slice none 0 0], .int .i64 0, .bool false, .int .i64 1], by simp [results, Tryd.f81, go_sem, x0, x1, x2, x3, x4], .slice none 0 0, by rw [HR.out, e.out], by rw [HR.out, e.out]; exact Ow.emptyUp (HBW.out.trans (q2 _ HG0.out.1)).size, HBW.out.trans (q2 _ HG0.out.1)⟩
  subst hb
  by_cases hq : 1 ≤ bu ∧ bu ≤ 20000
  rotate_left
  · have HQ := Lib.hid hq
    clear hq
    gi_wp2_with fail
    rw [HW0.out]
    gi_at_call 110
    refine (callsIn_wide.2 (startY g true bu 2 W0 (cyValid HCL.out) (by rw [if_pos rfl, if_neg HQ.out]))).mono ?_
    rintro e w1 ⟨rfl, rfl⟩
    have e := Lib.hid (ry_range (bu := bu) HV.out.symm HQ.out)
    have z0 := K4.out.cell 0 rfl
    have z1 := K4.out.cell 1 rfl
    obtain ⟨⟨f1, f2, f3, f4, f5, f6, f7, f8, f9, f10⟩, hf⟩ := put5Y K0.out K1.out K2.out K3.out (.int .i64 0) (.slice none 0 0) (.int .i64 0) (.bool false) (.int .i64 2)
    have HF := Lib.hid hf
    clear hf
    gi_wp2_with fail
    obtain ⟨W, hW⟩ : ∃ W, W = ((((W0.setCell ⟨w.heap.size, 0, none⟩ (.int .i64 0)).setCell ⟨w.heap.size, 1, none⟩ (.slice none 0 0)).setCell ⟨w.heap.size + 1, 0, none⟩ (.int .i64 0)).setCell ⟨w.heap.size + 1 + 1, 0, none⟩ (.bool false)).setCell ⟨w.heap.size + 1 + 1 + 1, 0, none⟩ (.int .i64 2) := ⟨_, rfl⟩
    obtain ⟨q1, q2, q3, q4⟩ := HF.out W hW
    rw [← hW]
    obtain ⟨x0, x1, x2, x3, x4⟩ := RET.out ⟨2, 0, [], 0, false⟩ (.slice none 0 0) W q1
    clear f1 f2 f3 f4 f5 f6 f7 f8 f9 f10 hW
    exact ⟨.tuple #[.agg #[.int .i64 0, .slice none 0 0], .int .i64 0, .bool false, .int .i64 2], by simp [results, Tryd.f81, go_sem, x0, x1, x2, x3, x4], .slice none 0 0, by rw [HR.out, e.out], by rw [HR.out, e.out]; exact Ow.emptyUp (HBW.out.trans (q2 _ HG0.out.1)).size, HBW.out.trans (q2 _ HG0.out.1)⟩
  have HBU : Hid (1 ≤ bu ∧ bu ≤ 20000) := Lib.hid hq
  clear hq
  gi_wp2_with fail
  rw [HW0.out]
  gi_at_call 110
  refine (callsIn_wide.2 (startY g true bu 0 W0 (cyValid HCL.out) (by rw [if_pos rfl, if_pos HBU.out]))).mono ?_
  rintro e w1 ⟨rfl, rfl⟩
  have eg := ry_good (bu := bu) HV.out.symm HBU.out
  rw [← HR.out] at eg
  have EG := Lib.hid eg
  obtain ⟨hp, hat, hok⟩ := turnB_ok HV.out.symm
  obtain ⟨j0, rfl⟩ : ∃ j : Nat, at' = (j : Int) := ⟨at'.toNat, by omega⟩
  have hj0 : j0 < zss.length := by omega
  have hst1 := HST0.out
  have hrx : rg (nq xs) 0 n0 = xs := by rw [HN0.out, Nat.min_eq_left (overB_ok hok).1]; exact nq_rg (overB_ok hok).1
  have HRX := Lib.hid hrx
  have H0 := Lib.hid (hst1.below HBW0.out)
  have HG : Hid (w0.heap.size ≤ w.heap.size ∧ g < w.heap.size ∧ q < w.heap.size ∧ w0.heap.size ≤ g ∧ w0.heap.size ≤ q) := Lib.hid ⟨HG0.out.1, hst1.head.lt, hst1.ring.lt, hst1.bg, hst1.bq⟩
  have HP := Lib.hid hp
  have HOK := Lib.hid (And.intro hj0 hok)
  obtain ⟨B, rfl⟩ : ∃ B : Nat, bu = (B : Int) := ⟨bu.toNat, by have := HBU.out.1; omega⟩
  have hB : B ≤ 20000 := by have := HBU.out.2; omega
  clear eg hp hok hat hj0 hst1 hrx
  gi_wp2_with fail
  obtain ⟨W1, hW1⟩ : ∃ W, W = W0.alloc (.cells #[.int .i64 0] 2) := ⟨_, rfl⟩
  rw [← hW1]
  have hb1 : Below W0.heap.size W0 W1 := by rw [hW1]; exact (Below.refl _ _).alloc (Nat.le_refl _) _
  have km : Cels W1 W0.heap.size 2 [.int .i64 0] := by rw [hW1]; exact Cels.new _ _ _
  have hs1 : W1.heap.size = w.heap.size + 6 := by rw [hW1]; have := HSZ.out; simp; omega
  gi_at_call 111
  refine (callsIn_wide.2 (stepsMkY _ (B : Int) W1 ⟨_, _, rfl⟩)).mono ?_
  rintro e w2 ⟨rfl, hw2⟩
  obtain ⟨W2, hW2⟩ : ∃ W, W = (W1.alloc (.cells #[.iface 122 (.pointer (some ⟨g, 0, none⟩))] 168)).alloc (.cells #[.int .i64 (B : Int)] 2) := ⟨_, rfl⟩
  rw [← hW2] at hw2
  obtain rfl : W2 = w2 := hw2.symm
  clear hw2
  have hb2 : Below W1.heap.size W1 W2 := by rw [hW2]; exact ((Below.refl _ _).alloc (Nat.le_refl _) _).alloc (by simp) _
  have krb : Cels W2 W1.heap.size 168 [.iface 122 (.pointer (some ⟨g, 0, none⟩))] := by rw [hW2]; exact (Cels.new _ _ _).alloc _
  have klb : Cels W2 (W1.heap.size + 1) 2 [.int .i64 (B : Int)] := by
    rw [hW2]
    have := Cels.new (W1.alloc (.cells #[.iface 122 (.pointer (some ⟨g, 0, none⟩))] 168)) 2 [.int .i64 (B : Int)]
    rwa [World.size_alloc] at this
  have hs2 : W2.heap.size = w.heap.size + 8 := by rw [hW2]; simp; omega
  have HB12 : Below W0.heap.size W0 W2 := hb1.trans (hb2.mono hb1.size)
  have M2 := Lib.hid (km.below hb2 km.lt)
  have L0 := Lib.hid (K0.out.below HB12 K0.out.lt)
  have L1 := Lib.hid (K1.out.below HB12 K1.out.lt)
  have L2 := Lib.hid (K2.out.below HB12 K2.out.lt)
  have L3 := Lib.hid (K3.out.below HB12 K3.out.lt)
  have L4 := Lib.hid (K4.out.below HB12 K4.out.lt)
  have HBX := Lib.hid (HBW.out.trans (HB12.mono HBW.out.size))
  have HAT : Hid (AtY w0 g q vz zss R B (W1.heap.size + 1) W1.heap.size 0 j0 xs W2) := Lib.hid
    ⟨Nat.zero_le _, HOK.out, by rw [EG.out]; simp, ⟨nq xs, 0, n0, H0.out.below HB12, HRX.out⟩, klb, krb⟩
  have HS2 := Lib.hid hs2
  have HS1 := Lib.hid hs1
  clear hb1 km hW1 hb2 krb klb hW2 HB12 hs1 hs2
  gi_wp2_with fail
  refine range_run rfl (by omega) (gf := 135) (lb := #[.pointer (some ⟨W1.heap.size + 1, 0, none⟩), .pointer (some ⟨W1.heap.size, 0, none⟩)]) rfl trivial (enters_of Tryd.func135 (by kernel_rfl) rfl)
    (stepsY 5 (by omega) w0 g q vz zss R B (W1.heap.size + 1) W1.heap.size HP.out hB (by have := HG.out; have := HS1.out; refine ⟨?_, ?_, ?_, ?_⟩ <;> omega))
    (by have := HG.out; have := HS2.out; rintro k (rfl | rfl) <;> omega) (by have := HG.out; have := HS2.out; have := HS1.out; rintro k (h | rfl | rfl | rfl | rfl) <;> omega)
    StY.kept DnY.kept (.inl ⟨0, j0, xs, rfl, HAT.out⟩) (fun _ => rfl)
    (fun pre W => (∃ k : Nat, pre = List.replicate k none ∧ Cels W W0.heap.size 2 [.int .i64 (k : Int)]) ∧ Cels W w.heap.size 41 [.int .i64 0, .slice none 0 0] ∧ Cels W (w.heap.size + 1) 2 [.int .i64 0] ∧ Cels W (w.heap.size + 1 + 1) 4 [.bool false] ∧ Cels W (w.heap.size + 1 + 1 + 1) 2 [.int .i64 0] ∧ Cels W (w.heap.size + 1 + 1 + 1 + 1) 41 [.int .i64 0, .slice none 0 0] ∧ Below w0.heap.size w0 W)
    (fun c pre W => (c = .ret ∧ R = ⟨5, 0, [], 0, false⟩) ∧ Cels W w.heap.size 41 [.int .i64 0, .slice none 0 0] ∧ Cels W (w.heap.size + 1) 2 [.int .i64 0] ∧ Cels W (w.heap.size + 1 + 1) 4 [.bool false] ∧ Cels W (w.heap.size + 1 + 1 + 1) 2 [.int .i64 5] ∧ Below w0.heap.size w0 W)
    (OwnFrom.and (fun s X Y row hs hg hr => by
        obtain ⟨k, e1, e2⟩ := hs
        exact ⟨k, e1, cels_own (β := Unit) _ _ _ (fun _ => _) () X Y row e2 hg hr⟩)
      (OwnFrom.and (cels_own _ _ _ _) (OwnFrom.and (cels_own _ _ _ _) (OwnFrom.and (cels_own _ _ _ _) (OwnFrom.and (cels_own _ _ _ _) (OwnFrom.and (cels_own _ _ _ _) (ownFrom_below (Nat.le_refl _) (by have := HG.out; have := HS2.out; omega))))))))
    (fun c => OwnFrom.and (ownFrom_pure _ _) (OwnFrom.and (cels_own _ _ _ _) (OwnFrom.and (cels_own _ _ _ _) (OwnFrom.and (cels_own _ _ _ _) (OwnFrom.and (cels_own _ _ _ _) (ownFrom_below (Nat.le_refl _) (by have := HG.out; have := HS2.out; omega)))))))
    (fun pre X Y hs ho => by
      have hg := HG.out
      have hz := HSZ.out
      obtain ⟨⟨k, e1, e2⟩, c0', c1', c2', c3', c4', hb⟩ := hs
      refine ⟨⟨k, e1, ho.cels e2 ?_⟩, ho.cels c0' ?_, ho.cels c1' ?_, ho.cels c2' ?_, ho.cels c3' ?_, ho.cels c4' ?_, hb.trans (ho.below ?_ hb.size)⟩
      all_goals (first | (rintro (h | h) <;> omega) | (rintro k (rfl | rfl) <;> omega)))
    ⟨⟨0, rfl, M2.out⟩, L0.out, L1.out, L2.out, L3.out, L4.out, HBX.out⟩
    (fun x => { tmps := #[.iface 122 (.pointer (some ⟨g, 0, none⟩)), .int .i64 (B : Int), undef, undef,
          .pointer (some ⟨w.heap.size, 0, none⟩), .pointer (some ⟨w.heap.size + 1, 0, none⟩), .pointer (some ⟨w.heap.size + 1 + 1, 0, none⟩), .pointer (some ⟨w.heap.size + 1 + 1 + 1, 0, none⟩), .pointer (some ⟨w.heap.size + 1 + 1 + 1 + 1, 0, none⟩),
          .int .i64 0, .pointer (some ⟨W0.heap.size, 0, none⟩), errY x,
          .iface 122 (.pointer (some ⟨g, 0, none⟩)), .int .i64 (B : Int), .int .i64 0, .int .i64 0, .bool false, undef, undef,
          .iface 122 (.pointer (some ⟨g, 0, none⟩)), .int .i64 (B : Int), .func (Fn.func 135) #[] #[.pointer (some ⟨W1.heap.size + 1, 0, none⟩), .pointer (some ⟨W1.heap.size, 0, none⟩)], errY x,
          undef, undef, undef, undef, undef, undef, undef, undef, undef, undef, undef, undef], defers := [] }) ?assign ?body ?done ?stop
  case assign =>
    intro l x W K hK
    unfold encY
    gi_wp2
    exact hK
  case body =>
    rintro l pre x W ⟨⟨k, e1, km⟩, c0', c1', c2', c3', c4', hb⟩ hst
    cases x with
    | none =>
      have hkb : (k : Int) + 1 ≤ 20000 := by
        rcases hst with ⟨k', _, _, e, ha⟩ | ⟨k', e, hr⟩
        · have h1 := congrArg List.length e
          rw [e1] at h1
          simp at h1
          have := ha.le
          omega
        · have := List.append_inj_right' e rfl
          simp at this
      have e2 : pre ++ [none] = List.replicate (k + 1) none := by rw [e1]; exact List.replicate_succ'.symm
      have E2 := Lib.hid e2
      have ew : IntKind.i64.wrap ((k : Int) + 1) = (k : Int) + 1 := by rw [IntKind.wrap_i64]; omega
      have y0 := km.cell 0 rfl
      have y1 := km.frozen 0
      have KM := Lib.hid km
      have C0 := Lib.hid c0'
      have C1 := Lib.hid c1'
      have C2 := Lib.hid c2'
      have C3 := Lib.hid c3'
      have C4 := Lib.hid c4'
      have HBr := Lib.hid hb
      simp only [errY]
      clear hkb e1 e2 hst c0' c1' c2' c3' c4' hb km
      gi_wp2_with fail
      have hg := HG.out
      have hz := HSZ.out
      have hz2 := HS1.out
      refine ⟨(KeepsOthers.setCell _ _ _).from _, (Kept.refl _ _).set (p := ⟨W0.heap.size, 0, none⟩) ?_ _, ⟨k + 1, E2.out, ?_⟩, C0.out.other ?_ _, C1.out.other ?_ _, C2.out.other ?_ _, C3.out.other ?_ _, C4.out.other ?_ _, HBr.out.setCell (p := ⟨W0.heap.size, 0, none⟩) ?_ _⟩
      · show ¬ TY w0 g q (W1.heap.size + 1) W1.heap.size W0.heap.size
        rintro (h | h | h | h | h) <;> omega
      · have := KM.out.set 0 (.int .i64 ((k : Int) + 1))
        simpa using this
      · show w.heap.size ≠ W0.heap.size; omega
      · show w.heap.size + 1 ≠ W0.heap.size; omega
      · show w.heap.size + 1 + 1 ≠ W0.heap.size; omega
      · show w.heap.size + 1 + 1 + 1 ≠ W0.heap.size; omega
      · show w.heap.size + 1 + 1 + 1 + 1 ≠ W0.heap.size; omega
      · show w0.heap.size ≤ W0.heap.size; omega
    | some c =>
      obtain ⟨hc5, hR5⟩ : c = 5 ∧ R = ⟨5, 0, [], 0, false⟩ := by
        rcases hst with ⟨k', _, _, e, _⟩ | ⟨k', e, hr⟩
        · have hm : some c ∈ List.replicate k' (none : Option Int) := by rw [← e]; simp
          have := List.eq_of_mem_replicate hm
          cases this
        · have := List.append_inj_right' e rfl
          simp at this
          exact ⟨this, hr⟩
      subst hc5
      simp only [errY]
      have z0 := c4'.cell 0 rfl
      have z1 := c4'.cell 1 rfl
      have HD : Hid (Below W.heap.size W W.drew) := Lib.hid (Below.refl _ _).drew
      have HBr := Lib.hid hb
      have HWK := Lib.hid (KeepsOthers.refl W)
      have C0 := Lib.hid c0'
      have C1 := Lib.hid c1'
      have C2 := Lib.hid c2'
      have C3 := Lib.hid c3'
      have C4 := Lib.hid c4'
      clear c0' c1' c2' c3' c4' km hb
      gi_wp2_with fail
      gi_region_with ((gi_at_call 74; refine (CallsIn.inRound l (callsIn_wide.2 (implCodeOf 5 _ (HE.out.below (HBr.out.trans (HD.out.mono HBr.out.size)) (Nat.le_refl _))))).mono ?_; rintro e3 w3 ⟨rfl, bq⟩; have HD3 := Lib.hid (HD.out.trans (bq.mono HD.out.size)); obtain ⟨⟨f1, f2, f3, f4, f5, f6, f7, f8, f9, f10⟩, hf⟩ := put5Y (C0.out.below HD3.out C0.out.lt) (C1.out.below HD3.out C1.out.lt) (C2.out.below HD3.out C2.out.lt) (C3.out.below HD3.out C3.out.lt) (.int .i64 0) (.slice none 0 0) (.int .i64 0) (.bool false) (.int .i64 5); have HF := Lib.hid hf; have y0 := (C4.out.below HD3.out C4.out.lt).cell 0 rfl; have y1 := (C4.out.below HD3.out C4.out.lt).cell 1 rfl; clear hf bq))
      all_goals
        gi_wp2_with fail
        obtain ⟨Wf, hWf⟩ : ∃ x, x = ((((w3.setCell ⟨w.heap.size, 0, none⟩ (.int .i64 0)).setCell ⟨w.heap.size, 1, none⟩ (.slice none 0 0)).setCell ⟨w.heap.size + 1, 0, none⟩ (.int .i64 0)).setCell ⟨w.heap.size + 1 + 1, 0, none⟩ (.bool false)).setCell ⟨w.heap.size + 1 + 1 + 1, 0, none⟩ (.int .i64 5) := ⟨_, rfl⟩
        obtain ⟨q1, q2, q3, q4⟩ := HF.out Wf hWf
        rw [← hWf]
        exact ⟨((below_keeps HD3.out).trans q3).from _, ⟨rfl, hR5⟩, q1.1, q1.2.1, q1.2.2.1, q1.2.2.2, (HBr.out.trans (HD3.out.mono HBr.out.size)).trans (q2 _ HG.out.1)⟩
  case done =>
    rintro D xs W hD hdn ⟨⟨k, e1, km⟩, c0', c1', c2', c3', c4', hb⟩ hK
    obtain ⟨j2, cs2, hq, hat, hhq, hR2⟩ : ∃ (j2 : Nat) (cs2 : List Int) (b : Bool), AtY w0 g q vz zss R B (W1.heap.size + 1) W1.heap.size k j2 cs2 W ∧ (b = true ↔ cs2.length = 0) ∧ R = ⟨0, (j2 : Int), cs2, (k : Int), b⟩ := by
      rcases hdn with ⟨k', j2, cs2, b, e, ha, hb', hr⟩ | ⟨k', e⟩
      · have h1 := congrArg List.length e
        rw [e1] at h1
        simp at h1
        subst h1
        exact ⟨j2, cs2, b, ha, hb', hr⟩
      · exfalso
        rw [e1] at e
        have hm : some (5 : Int) ∈ List.replicate k (none : Option Int) := by rw [e]; simp
        have := List.eq_of_mem_replicate hm
        cases this
    obtain ⟨zs2, f2, l2, hst2, hrx2⟩ := hat.st
    have HL2 : Hid (hq = true ↔ l2 = 0) := Lib.hid (by rw [hhq, ← hrx2, rg_len])
    have HRX2 := Lib.hid hrx2
    have HR2 := Lib.hid hR2
    have HD : Hid (Below W.heap.size W W.drew) := Lib.hid (Below.refl _ _).drew
    have HBr := Lib.hid hb
    have HST := Lib.hid hst2
    have HKD := Lib.hid hK
    have HDW : Hid (D < W.heap.size) := Lib.hid (Array.getElem?_eq_some_iff.1 hK).1
    have KM := Lib.hid km
    have C0 := Lib.hid c0'
    have C1 := Lib.hid c1'
    have C2 := Lib.hid c2'
    have C3 := Lib.hid c3'
    have n3 := nlYc g
    have m3 := mtYc g
    have n4 := nlYh g
    have m4 := mtYh g
    have y0 := km.cell 0 rfl
    clear hdn e1 hat hR2 hhq hb hK hst2 hrx2 km c0' c1' c2' c3' c4'
    have hz5 := HSZ.out
    have HN0 : Hid (W0.heap.size ≠ w.heap.size) := Lib.hid (by omega)
    have HLW : Hid (w.heap.size < W.heap.size) := Lib.hid C0.out.lt
    clear hz5
    gi_wp2_with fail
    refine wpIn_wide.2 ?_
    go_cut [31] from 30 to 34 (fun s31 wx => ∃ u : Value, (Cels wx w.heap.size 41 [.int .i64 (j2 : Int), u] ∧ Cels wx (w.heap.size + 1) 2 [.int .i64 (k : Int)] ∧ Cels wx (w.heap.size + 1 + 1) 4 [.bool hq] ∧ Cels wx (w.heap.size + 1 + 1 + 1) 2 [.int .i64 0]) ∧ KeepsOthers W wx ∧ Below w0.heap.size w0 wx ∧ Ow wx W.heap.size wx.heap.size u cs2)
    case first =>
      clear HW0 K0 K1 K2 K3 K4 L0 L1 L2 L3 L4 M2 HAT HBX HP HOK EG HV H0 RET n1 m1 HCL HST0 HBW0
      refine wp_region_noPanic ?_
      go_region_with (first
        | (go_at_call 192; with_reducible refine (cyConfig (HST.out.below HD.out)).mono ?_; rintro e3 w3 ⟨u3, rfl, ou3, bq⟩; rw [HRX2.out] at ou3; have HO3 := Lib.hid (ou3.mono (B' := W.heap.size) HD.out.size (Nat.le_refl _) (Nat.le_refl _)); obtain ⟨ga, gc, hu3⟩ := ou3.shape; subst hu3; replace HD := Lib.hid (HD.out.trans (bq.mono HD.out.size)); clear y0; have y0 := (KM.out.below HD.out KM.out.lt).cell 0 rfl; clear ou3 bq)
        | (go_at_call 193; with_reducible refine (cyHalts (HST.out.below HD.out) hq HL2.out).mono ?_; rintro e3 w3 ⟨rfl, rfl⟩; have y5 := (((KM.out.below HD.out KM.out.lt).other (p := ⟨w.heap.size, 0, none⟩) HN0.out (.int .i64 (j2 : Int))).other (p := ⟨w.heap.size, 1, none⟩) HN0.out (.slice ga cs2.length gc)).cell 0 rfl; have HF0 := Lib.hid (put5Y (C0.out.below HD.out C0.out.lt) (C1.out.below HD.out C1.out.lt) (C2.out.below HD.out C2.out.lt) (C3.out.below HD.out C3.out.lt) (.int .i64 (j2 : Int)) (.slice ga cs2.length gc) (.int .i64 (k : Int)) (.bool hq) (.int .i64 0)); obtain ⟨⟨f1, f2, f3, f4, f5, f6, f7, f8, f9, f10⟩, hf⟩ := HF0.out; have HF := Lib.hid hf; clear hf HF0))
      all_goals (refine NoPanic.normal ?_)
      all_goals (go_wp2_with fail; go_meet)
      all_goals
        obtain ⟨Wf, hWf⟩ : ∃ x, x = ((((w3.setCell ⟨w.heap.size, 0, none⟩ (.int .i64 (j2 : Int))).setCell ⟨w.heap.size, 1, none⟩ (.slice ga cs2.length gc)).setCell ⟨w.heap.size + 1, 0, none⟩ (.int .i64 (k : Int))).setCell ⟨w.heap.size + 1 + 1, 0, none⟩ (.bool hq)).setCell ⟨w.heap.size + 1 + 1 + 1, 0, none⟩ (.int .i64 0) := ⟨_, rfl⟩
        obtain ⟨q1, q2, q3, q4⟩ := HF.out Wf hWf
        have hO : Ow Wf W.heap.size Wf.heap.size (.slice ga cs2.length gc) cs2 := by
          have l1 := C1.out.lt
          have l2 := C2.out.lt
          have l3 := C3.out.lt
          have h1 := ((((HO3.out.apartCell HLW.out 0 (.int .i64 (j2 : Int))).apartCell HLW.out 1 (.slice ga cs2.length gc)).apartCell l1 0 (.int .i64 (k : Int))).apartCell l2 0 (.bool hq)).apartCell l3 0 (.int .i64 0)
          rw [← hWf] at h1
          exact h1.mono (Nat.le_refl _) (by rw [hWf]; simp) (Nat.le_refl _)
        rw [← hWf]
        exact ⟨_, q1, (below_keeps HD.out).trans q3, (HBr.out.trans (HD.out.mono HBr.out.size)).trans (q2 _ HG.out.1), hO⟩
    obtain ⟨u, q1, q3, q2, q4⟩ := hcut
    obtain ⟨Wf, hWf⟩ : ∃ x, x = wc := ⟨_, rfl⟩
    subst hWf
    have Q1 := Lib.hid q1
    have HKF := Lib.hid (q3.same D _ HKD.out rfl)
    have Q2 := Lib.hid q2
    have Q4 := Lib.hid q4
    have HSW := Lib.hid HBr.out.size
    clear q1 q2 q3 q4 y0
    gi_wp2_with fail
    have hkf := HKF.out
    have q1 := Q1.out
    have hg := HG.out
    have hz2 := HS2.out
    refine ⟨by simp, .inl ⟨_, _, rfl, run_takeDeferred hkf, ?_⟩⟩
    have nd : ∀ (q : Nat) (t : TypeId) (cs : List Value), q < D → Cels Wf q t cs → Cels (Wf.putObj D (.deferred none)) q t cs := fun q t cs h k => (World.putObj_heap_other (by omega)).trans k
    obtain ⟨x0, x1, x2, x3, x4⟩ := RET.out ⟨0, (j2 : Int), cs2, (k : Int), hq⟩ u (Wf.putObj D (.deferred none)) ⟨nd _ _ _ (by omega) q1.1, nd _ _ _ (by omega) q1.2.1, nd _ _ _ (by omega) q1.2.2.1, nd _ _ _ (by omega) q1.2.2.2⟩
    exact ⟨.tuple #[.agg #[.int .i64 (j2 : Int), u], .int .i64 (k : Int), .bool hq, .int .i64 0], by simp [results, Tryd.f81, go_sem, x0, x1, x2, x3, x4], u, by rw [HR2.out], by rw [HR2.out]; exact (Q4.out.putDY HDW.out).mono HSW.out (by simp [World.putObj]) (Nat.le_refl _), Q2.out.trans (belowK_b (w := w) (by omega) _ D _ _ (by omega) hkf rfl rfl)⟩
  case stop =>
    rintro D c pre W hD ⟨⟨rfl, hR5⟩, c0', c1', c2', c3', hb⟩ hK
    have hg := HG.out
    have hz2 := HS2.out
    have nd : ∀ (q : Nat) (t : TypeId) (cs : List Value), q < D → Cels W q t cs → Cels (W.putObj D (.deferred none)) q t cs := fun q t cs h k => (World.putObj_heap_other (by omega)).trans k
    obtain ⟨x0, x1, x2, x3, x4⟩ := RET.out ⟨5, 0, [], 0, false⟩ (.slice none 0 0) (W.putObj D (.deferred none)) ⟨nd _ _ _ (by omega) c0', nd _ _ _ (by omega) c1', nd _ _ _ (by omega) c2', nd _ _ _ (by omega) c3'⟩
    have HX := Lib.hid (And.intro x0 (And.intro x1 (And.intro x2 (And.intro x3 x4))))
    clear x0 x1 x2 x3 x4 nd
    gi_wp2_with fail
    refine ⟨by simp, .inl ⟨_, _, rfl, run_takeDeferred hK, ?_⟩⟩
    obtain ⟨x0, x1, x2, x3, x4⟩ := HX.out
    exact ⟨.tuple #[.agg #[.int .i64 0, .slice none 0 0], .int .i64 0, .bool false, .int .i64 5], by simp [results, Tryd.f81, go_sem, x0, x1, x2, x3, x4], .slice none 0 0, by first | rfl | rw [hR5], by (try rw [hR5]); exact Ow.emptyUp (hb.trans (belowK_b (w := w) (by omega) _ D _ _ (by omega) hK rfl rfl)).size, hb.trans (belowK_b (w := w) (by omega) _ D _ _ (by omega) hK rfl rfl)⟩
end Go.Proofs.YtkjoakdepjpkhaaDoor.Ints
