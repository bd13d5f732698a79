/- The end of a run of counters: endOf. -/
import Derived.Test.YtgbhbbapkpgmiaaDoorStp
import Derived.Stop.RegionWithIn
import Derived.RegionIn
import Derived.Deep.RegionHeld3
import Derived.Deep.RegionWith
import Derived.Deep.DeepCutAuto
namespace Go.Proofs.YtgbhbbapkpgmiaaDoor.Ints
open Go.RowKit Go.Shelf
set_option linter.unusedVariables false
set_option linter.unusedSimpArgs false
attribute [local go_sem] Oper.semAt_some
attribute [local go_sem, local simp] wide_fn'
theorem implBudget (n : Int) (b : Bool) (w : World) (h : b = true ↔ (1 ≤ n ∧ n ≤ 20000)) : Calls Tryd.prog 128 #[.int .i64 n] w fun e w' => e = .returned (.bool b) ∧ w = w' := by
  cases b with
  | true =>
    obtain ⟨h0, h1⟩ := h.1 rfl
    clear h
    go_enter Tryd.func128, Tryd.ntmps128
    go_wp2
    go_ret
    exact ⟨rfl, rfl⟩
  | false =>
    have hn : ¬ (1 ≤ n ∧ n ≤ 20000) := fun h' => by cases h.2 h'
    clear h
    by_cases h0 : 1 ≤ n
    · have h1 : decide (n ≤ 20000) = false := decide_eq_false (fun h1 => hn ⟨h0, h1⟩)
      clear hn
      go_enter Tryd.func128, Tryd.ntmps128
      go_wp2
      go_ret
      exact ⟨rfl, rfl⟩
    · clear hn
      go_enter Tryd.func128, Tryd.ntmps128
      go_wp2
      go_ret
      exact ⟨rfl, rfl⟩
theorem stepsMkC (v : Value) (n : Int) (w : World) (hv : ∃ t u, v = .iface t (.pointer u)) :
    Calls Tryd.prog 108 #[v, .int .i64 n] w fun e w' => e = .returned (.func (.func 132) #[] #[.pointer (some ⟨w.heap.size + 1, 0, none⟩), .pointer (some ⟨w.heap.size, 0, none⟩)]) ∧ w' = (w.alloc (.cells #[v] 163)).alloc (.cells #[.int .i64 n] 2) := by
  obtain ⟨t, u, rfl⟩ := hv
  go_enter Tryd.func108, Tryd.ntmps108
  go_wp2
  go_ret
  exact ⟨rfl, rfl⟩
/-- Six stores into four results: a struct of three cells and three cells apart. -/
theorem put6 {w : World} {g : Nat} {t t1 t2 t3 : TypeId} {a0 a1 a2 c d e : Value} (h : Cels w g t [a0, a1, a2]) (h1 : Cels w (g + 1) t1 [c]) (h2 : Cels w (g + 1 + 1) t2 [d]) (h3 : Cels w (g + 1 + 1 + 1) t3 [e]) (b0 b1 b2 c' d' e' : Value) :
    (w.cell? ⟨g, 0, none⟩ = some a0 ∧ w.frozen? ⟨g, 0, none⟩ = false ∧ (w.setCell ⟨g, 0, none⟩ b0).cell? ⟨g, 1, none⟩ = some a1 ∧ (w.setCell ⟨g, 0, none⟩ b0).frozen? ⟨g, 1, none⟩ = false ∧
    ((w.setCell ⟨g, 0, none⟩ b0).setCell ⟨g, 1, none⟩ b1).cell? ⟨g, 2, none⟩ = some a2 ∧ ((w.setCell ⟨g, 0, none⟩ b0).setCell ⟨g, 1, none⟩ b1).frozen? ⟨g, 2, none⟩ = false ∧
    (((w.setCell ⟨g, 0, none⟩ b0).setCell ⟨g, 1, none⟩ b1).setCell ⟨g, 2, none⟩ b2).cell? ⟨g + 1, 0, none⟩ = some c ∧ (((w.setCell ⟨g, 0, none⟩ b0).setCell ⟨g, 1, none⟩ b1).setCell ⟨g, 2, none⟩ b2).frozen? ⟨g + 1, 0, none⟩ = false ∧
    ((((w.setCell ⟨g, 0, none⟩ b0).setCell ⟨g, 1, none⟩ b1).setCell ⟨g, 2, none⟩ b2).setCell ⟨g + 1, 0, none⟩ c').cell? ⟨g + 1 + 1, 0, none⟩ = some d ∧ ((((w.setCell ⟨g, 0, none⟩ b0).setCell ⟨g, 1, none⟩ b1).setCell ⟨g, 2, none⟩ b2).setCell ⟨g + 1, 0, none⟩ c').frozen? ⟨g + 1 + 1, 0, none⟩ = false ∧
    (((((w.setCell ⟨g, 0, none⟩ b0).setCell ⟨g, 1, none⟩ b1).setCell ⟨g, 2, none⟩ b2).setCell ⟨g + 1, 0, none⟩ c').setCell ⟨g + 1 + 1, 0, none⟩ d').cell? ⟨g + 1 + 1 + 1, 0, none⟩ = some e ∧ (((((w.setCell ⟨g, 0, none⟩ b0).setCell ⟨g, 1, none⟩ b1).setCell ⟨g, 2, none⟩ b2).setCell ⟨g + 1, 0, none⟩ c').setCell ⟨g + 1 + 1, 0, none⟩ d').frozen? ⟨g + 1 + 1 + 1, 0, none⟩ = false) ∧
    ∀ W, W = (((((w.setCell ⟨g, 0, none⟩ b0).setCell ⟨g, 1, none⟩ b1).setCell ⟨g, 2, none⟩ b2).setCell ⟨g + 1, 0, none⟩ c').setCell ⟨g + 1 + 1, 0, none⟩ d').setCell ⟨g + 1 + 1 + 1, 0, none⟩ e' →
      (Cels W g t [b0, b1, b2] ∧ Cels W (g + 1) t1 [c'] ∧ Cels W (g + 1 + 1) t2 [d'] ∧ Cels W (g + 1 + 1 + 1) t3 [e']) ∧ (∀ B, B ≤ g → Below B w W) ∧ KeepsOthers w W ∧ Kept (fun k => k < g ∨ g + 1 + 1 + 1 < k) w W := by
  have r1 := h.set 0 b0
  have r2 := r1.set 1 b1
  have r3 := r2.set 2 b2
  have o1 := ((h1.other (p := ⟨g, 0, none⟩) (by show g + 1 ≠ g; omega) b0).other (p := ⟨g, 1, none⟩) (by show g + 1 ≠ g; omega) b1).other (p := ⟨g, 2, none⟩) (by show g + 1 ≠ g; omega) b2
  have o2 := (((h2.other (p := ⟨g, 0, none⟩) (by show g + 1 + 1 ≠ g; omega) b0).other (p := ⟨g, 1, none⟩) (by show g + 1 + 1 ≠ g; omega) b1).other (p := ⟨g, 2, none⟩) (by show g + 1 + 1 ≠ g; omega) b2).other (p := ⟨g + 1, 0, none⟩) (by show g + 1 + 1 ≠ g + 1; omega) c'
  have o3 := ((((h3.other (p := ⟨g, 0, none⟩) (by show g + 1 + 1 + 1 ≠ g; omega) b0).other (p := ⟨g, 1, none⟩) (by show g + 1 + 1 + 1 ≠ g; omega) b1).other (p := ⟨g, 2, none⟩) (by show g + 1 + 1 + 1 ≠ g; omega) b2).other (p := ⟨g + 1, 0, none⟩) (by show g + 1 + 1 + 1 ≠ g + 1; omega) c').other (p := ⟨g + 1 + 1, 0, none⟩) (by show g + 1 + 1 + 1 ≠ g + 1 + 1; omega) d'
  refine ⟨⟨h.cell 0 rfl, h.frozen 0, r1.cell 1 rfl, r1.frozen 1, r2.cell 2 rfl, r2.frozen 2, o1.cell 0 rfl, o1.frozen 0, o2.cell 0 rfl, o2.frozen 0, o3.cell 0 rfl, o3.frozen 0⟩, ?_⟩
  rintro W rfl
  refine ⟨⟨?_, ?_, ?_, ?_⟩, fun B hB => ?_, ?_, ?_⟩
  · exact ((r3.other (p := ⟨g + 1, 0, none⟩) (by show g ≠ g + 1; omega) c').other (p := ⟨g + 1 + 1, 0, none⟩) (by show g ≠ g + 1 + 1; omega) d').other (p := ⟨g + 1 + 1 + 1, 0, none⟩) (by show g ≠ g + 1 + 1 + 1; omega) e'
  · exact ((o1.set 0 c').other (p := ⟨g + 1 + 1, 0, none⟩) (by show g + 1 ≠ g + 1 + 1; omega) d').other (p := ⟨g + 1 + 1 + 1, 0, none⟩) (by show g + 1 ≠ g + 1 + 1 + 1; omega) e'
  · exact (o2.set 0 d').other (p := ⟨g + 1 + 1 + 1, 0, none⟩) (by show g + 1 + 1 ≠ g + 1 + 1 + 1; omega) e'
  · exact o3.set 0 e'
  · exact below_set (below_set (below_set (below_set (below_set (below_set (Below.refl _ _) (by omega) _ _) (by omega) _ _) (by omega) _ _) (by omega) _ _) (by omega) _ _) (by omega) _ _
  · exact (((((KeepsOthers.setCell _ _ _).trans (KeepsOthers.setCell _ _ _)).trans (KeepsOthers.setCell _ _ _)).trans (KeepsOthers.setCell _ _ _)).trans (KeepsOthers.setCell _ _ _)).trans (KeepsOthers.setCell _ _ _)
  · have nT : ∀ j, g ≤ j → j ≤ g + 1 + 1 + 1 → ¬ (j < g ∨ g + 1 + 1 + 1 < j) := fun j a b h => by rcases h with h | h <;> omega
    exact ((((((Kept.refl _ _).set (p := ⟨g, 0, none⟩) (nT g (by omega) (by omega)) _).set (p := ⟨g, 1, none⟩) (nT g (by omega) (by omega)) _).set (p := ⟨g, 2, none⟩) (nT g (by omega) (by omega)) _).set (p := ⟨g + 1, 0, none⟩) (nT (g + 1) (by omega) (by omega)) _).set (p := ⟨g + 1 + 1, 0, none⟩) (nT (g + 1 + 1) (by omega) (by omega)) _).set (p := ⟨g + 1 + 1 + 1, 0, none⟩) (nT (g + 1 + 1 + 1) (by omega) (by omega)) _
theorem cels_own {β : Type} (B g : Nat) (t : TypeId) (cs : β → List Value) : OwnFrom B (fun (x : β) W => Cels W g t (cs x)) := fun s W W' row hs hg hr => hs.grown hg (fun e => by
  obtain ⟨_, o, ho, hc⟩ := hr g e
  rw [show W.heap[g]? = some (.cells (cs s).toArray t (0, 0)) from hs] at ho
  cases ho; cases hc)
theorem below_keeps {w w' : World} (h : Below w.heap.size w w') : KeepsOthers w w' := ⟨h.size, fun k o hk _ => (h.block k (Array.getElem?_eq_some_iff.1 hk).1).trans hk⟩
set_option maxHeartbeats 1000000 in
theorem startC (g : Nat) (bv : Bool) (bu cd : Int) (w : World) (hv : Calls Tryd.prog 192 #[.pointer (some ⟨g, 0, none⟩)] w fun e w' => e = .returned (.bool bv) ∧ w = w') (hc : cd = if bv = true then (if 1 ≤ bu ∧ bu ≤ 20000 then 0 else 2) else 1) :
    Calls Tryd.prog 107 #[.iface 107 (.pointer (some ⟨g, 0, none⟩)), .int .i64 bu] w fun e w' => e = .returned (.int .i64 cd) ∧ w = w' := by
  have HV := Lib.hid hv
  have n1 := nlC "" g
  have m1 := mtCv g
  clear hv
  rcases eqOr bv with hb | hb
  · subst hb
    obtain rfl : cd = 1 := by rw [hc]; rfl
    clear hc
    go_enter Tryd.func107, Tryd.ntmps107
    go_wp2_with fail
    refine HV.out.mono ?_
    rintro e w1 ⟨rfl, rfl⟩
    go_wp2
    go_ret
    exact ⟨rfl, rfl⟩
  subst hb
  rw [if_pos rfl] at hc
  by_cases hq : 1 ≤ bu ∧ bu ≤ 20000
  · obtain rfl : cd = 0 := by rw [hc, if_pos hq]
    have HQ : Hid (1 ≤ bu ∧ bu ≤ 20000) := Lib.hid hq
    clear hc hq
    go_enter Tryd.func107, Tryd.ntmps107
    go_wp2_with fail
    refine HV.out.mono ?_
    rintro e w1 ⟨rfl, rfl⟩
    go_wp2_with fail
    refine (implBudget bu true _ ⟨fun _ => HQ.out, fun _ => rfl⟩).mono ?_
    rintro e w1 ⟨rfl, rfl⟩
    go_wp2
    go_ret
    exact ⟨rfl, rfl⟩
  · obtain rfl : cd = 2 := by rw [hc, if_neg hq]
    have HQ : Hid (¬ (1 ≤ bu ∧ bu ≤ 20000)) := Lib.hid hq
    clear hc hq
    go_enter Tryd.func107, Tryd.ntmps107
    go_wp2_with fail
    refine HV.out.mono ?_
    rintro e w1 ⟨rfl, rfl⟩
    go_wp2_with fail
    refine (implBudget bu false _ ⟨fun h => (by cases h), fun h => (by have := HQ.out; omega)⟩).mono ?_
    rintro e w1 ⟨rfl, rfl⟩
    go_wp2
    go_ret
    exact ⟨rfl, rfl⟩
set_option maxRecDepth 100000 in
set_option maxHeartbeats 8000000 in
theorem implEnC_in (w0 w : World) (g gb c0 : Nat) (pa : Option Addr) (pc : Nat) (rs : List Ins) (at' a b bu : Int) (h : StR w0 w g 171 gb c0 pa pc rs at' [a, b] (vcB rs at' a b) 1000000000000) (he : EtV w0) (hb0 : Below w0.heap.size w0 w) :
    CallsIn Fence.wide 6 Tryd.prog 69 #[.iface 107 (.pointer (some ⟨g, 0, none⟩)), .int .i64 bu] w fun e w' =>
      e = .returned (.tuple #[.agg #[.int .i64 (rcR rs at' a b bu).at', .int .i64 (rcR rs at' a b bu).a, .int .i64 (rcR rs at' a b bu).b], .int .i64 (rcR rs at' a b bu).n, .bool (rcR rs at' a b bu).h, .int .i64 (rcR rs at' a b bu).code]) ∧ Below w0.heap.size w0 w' := by
  obtain ⟨R, hR⟩ : ∃ R, R = rcR rs at' a b bu := ⟨_, rfl⟩
  rw [← hR]
  have HR := Lib.hid hR
  have H := Lib.hid h
  have HE := Lib.hid he
  have HB0 := Lib.hid hb0
  obtain ⟨W0, hW0⟩ : ∃ W, W = ((((w.alloc (Obj.cells #[.int .i64 0, .int .i64 0, .int .i64 0] 26)).alloc (Obj.cells #[.int .i64 0] 2)).alloc (Obj.cells #[.bool false] 4)).alloc (Obj.cells #[.int .i64 0] 2)).alloc (Obj.cells #[.int .i64 0, .int .i64 0, .int .i64 0] 26) := ⟨_, rfl⟩
  have hbw : Below w.heap.size w W0 := by rw [hW0]; exact (((((Below.refl _ _).alloc (Nat.le_refl _) _).alloc (by simp) _).alloc (by simp; omega) _).alloc (by simp; omega) _).alloc (by simp; omega) _
  have hsz : W0.heap.size = w.heap.size + 5 := by rw [hW0]; simp
  have k0 : Cels W0 w.heap.size 26 [.int .i64 0, .int .i64 0, .int .i64 0] := by rw [hW0]; exact ((((Cels.new _ _ _).alloc _).alloc _).alloc _).alloc _
  have k1 : Cels W0 (w.heap.size + 1) 2 [.int .i64 0] := by
    rw [hW0]
    have := Cels.new (w.alloc (Obj.cells #[.int .i64 0, .int .i64 0, .int .i64 0] 26)) 2 [.int .i64 0]
    rw [World.size_alloc] at this
    exact ((this.alloc _).alloc _).alloc _
  have k2 : Cels W0 (w.heap.size + 1 + 1) 4 [.bool false] := by
    rw [hW0]
    have := Cels.new ((w.alloc (Obj.cells #[.int .i64 0, .int .i64 0, .int .i64 0] 26)).alloc (Obj.cells #[.int .i64 0] 2)) 4 [.bool false]
    rw [World.size_alloc, World.size_alloc] at this
    exact (this.alloc _).alloc _
  have k3 : Cels W0 (w.heap.size + 1 + 1 + 1) 2 [.int .i64 0] := by
    rw [hW0]
    have := Cels.new (((w.alloc (Obj.cells #[.int .i64 0, .int .i64 0, .int .i64 0] 26)).alloc (Obj.cells #[.int .i64 0] 2)).alloc (Obj.cells #[.bool false] 4)) 2 [.int .i64 0]
    rw [World.size_alloc, World.size_alloc, World.size_alloc] at this
    exact this.alloc _
  have k4 : Cels W0 (w.heap.size + 1 + 1 + 1 + 1) 26 [.int .i64 0, .int .i64 0, .int .i64 0] := by
    rw [hW0]
    have := Cels.new ((((w.alloc (Obj.cells #[.int .i64 0, .int .i64 0, .int .i64 0] 26)).alloc (Obj.cells #[.int .i64 0] 2)).alloc (Obj.cells #[.bool false] 4)).alloc (Obj.cells #[.int .i64 0] 2)) 26 [.int .i64 0, .int .i64 0, .int .i64 0]
    rwa [World.size_alloc, World.size_alloc, World.size_alloc, World.size_alloc] at this
  have H0 := Lib.hid (h.below hbw)
  have HBW := Lib.hid (hb0.trans (hbw.mono hb0.size))
  have HG : Hid (w0.heap.size ≤ w.heap.size ∧ g < w.heap.size ∧ gb < w.heap.size ∧ w0.heap.size ≤ g ∧ w0.heap.size ≤ gb) := Lib.hid ⟨hb0.size, h.head.lt, h.gb.2, h.base, h.gb.1⟩
  have HSZ := Lib.hid hsz
  have HW0 := Lib.hid hW0.symm
  have K0 := Lib.hid k0
  have K1 := Lib.hid k1
  have K2 := Lib.hid k2
  have K3 := Lib.hid k3
  have K4 := Lib.hid k4
  have n1 := nlC "" g
  have m1 := mtCv g
  obtain ⟨bv, hbv⟩ : ∃ x, x = vcB rs at' a b := ⟨_, rfl⟩
  rw [← hbv] at H0
  have HV := Lib.hid hbv
  have ret : ∀ (R' : Rce) (W : World), (Cels W w.heap.size 26 [.int .i64 R'.at', .int .i64 R'.a, .int .i64 R'.b] ∧ Cels W (w.heap.size + 1) 2 [.int .i64 R'.n] ∧ Cels W (w.heap.size + 1 + 1) 4 [.bool R'.h] ∧ Cels W (w.heap.size + 1 + 1 + 1) 2 [.int .i64 R'.code]) →
      W.cell? ⟨w.heap.size, 0, none⟩ = some (.int .i64 R'.at') ∧ W.cell? ⟨w.heap.size, 1, none⟩ = some (.int .i64 R'.a) ∧ W.cell? ⟨w.heap.size, 2, none⟩ = some (.int .i64 R'.b) ∧ W.cell? ⟨w.heap.size + 1, 0, none⟩ = some (.int .i64 R'.n) ∧ W.cell? ⟨w.heap.size + 1 + 1, 0, none⟩ = some (.bool R'.h) ∧ W.cell? ⟨w.heap.size + 1 + 1 + 1, 0, none⟩ = some (.int .i64 R'.code) := fun R' W q =>
    ⟨q.1.cell 0 rfl, q.1.cell 1 rfl, q.1.cell 2 rfl, q.2.1.cell 0 rfl, q.2.2.1.cell 0 rfl, q.2.2.2.cell 0 rfl⟩
  have RET := Lib.hid ret
  clear hR h he hb0 hbw hsz hW0 k0 k1 k2 k3 k4 hbv ret
  refine callsIn_of_wp_marks Tryd.func69 rfl trivial ?_ rfl
  simp only [Tryd.ntmps69, List.size_toArray, List.length_cons, List.length_nil, Nat.reduceAdd, Nat.reduceSub, Array.replicate_succ, Array.replicate_zero, List.push_toArray, List.append_toArray, List.nil_append, List.cons_append]
  rcases eqOr bv with hb | hb
  · subst hb
    gi_wp2_with fail
    rw [HW0.out]
    gi_at_call 107
    refine (callsIn_wide.2 (startC g false bu 1 W0 (strValid H0.out) (by simp))).mono ?_
    rintro e w1 ⟨rfl, rfl⟩
    have e := Lib.hid (rc_bad (bu := bu) HV.out.symm)
    have z0 := K4.out.cell 0 rfl
    have z1 := K4.out.cell 1 rfl
    have z2 := K4.out.cell 2 rfl
    obtain ⟨⟨f1, f2, f3, f4, f5, f6, f7, f8, f9, f10, f11, f12⟩, hf⟩ := put6 K0.out K1.out K2.out K3.out (.int .i64 0) (.int .i64 0) (.int .i64 0) (.int .i64 0) (.bool false) (.int .i64 1)
    have HF := Lib.hid hf
    clear hf
    gi_wp2_with fail
    obtain ⟨W, hW⟩ : ∃ W, W = (((((W0.setCell ⟨w.heap.size, 0, none⟩ (.int .i64 0)).setCell ⟨w.heap.size, 1, none⟩ (.int .i64 0)).setCell ⟨w.heap.size, 2, none⟩ (.int .i64 0)).setCell ⟨w.heap.size + 1, 0, none⟩ (.int .i64 0)).setCell ⟨w.heap.size + 1 + 1, 0, none⟩ (.bool false)).setCell ⟨w.heap.size + 1 + 1 + 1, 0, none⟩ (.int .i64 1) := ⟨_, rfl⟩
    obtain ⟨q1, q2, q3, q4⟩ := HF.out W hW
    rw [← hW]
    obtain ⟨x0, x1, x2, x3, x4, x5⟩ := RET.out ⟨1, 0, 0, 0, 0, false⟩ W q1
    clear f1 f2 f3 f4 f5 f6 f7 f8 f9 f10 f11 f12 hW
    exact ⟨.tuple #[.agg #[.int .i64 0, .int .i64 0, .int .i64 0], .int .i64 0, .bool false, .int .i64 1], by simp [results, Tryd.f69, go_sem, x0, x1, x2, x3, x4, x5], by rw [HR.out, e.out], HBW.out.trans (q2 _ HG.out.1)⟩
  subst hb
  by_cases hq : 1 ≤ bu ∧ bu ≤ 20000
  rotate_left
  · have HQ := Lib.hid hq
    clear hq
    gi_wp2_with fail
    rw [HW0.out]
    gi_at_call 107
    refine (callsIn_wide.2 (startC g true bu 2 W0 (strValid H0.out) (by rw [if_pos rfl, if_neg HQ.out]))).mono ?_
    rintro e w1 ⟨rfl, rfl⟩
    have e := Lib.hid (rc_range (bu := bu) HV.out.symm HQ.out)
    have z0 := K4.out.cell 0 rfl
    have z1 := K4.out.cell 1 rfl
    have z2 := K4.out.cell 2 rfl
    obtain ⟨⟨f1, f2, f3, f4, f5, f6, f7, f8, f9, f10, f11, f12⟩, hf⟩ := put6 K0.out K1.out K2.out K3.out (.int .i64 0) (.int .i64 0) (.int .i64 0) (.int .i64 0) (.bool false) (.int .i64 2)
    have HF := Lib.hid hf
    clear hf
    gi_wp2_with fail
    obtain ⟨W, hW⟩ : ∃ W, W = (((((W0.setCell ⟨w.heap.size, 0, none⟩ (.int .i64 0)).setCell ⟨w.heap.size, 1, none⟩ (.int .i64 0)).setCell ⟨w.heap.size, 2, none⟩ (.int .i64 0)).setCell ⟨w.heap.size + 1, 0, none⟩ (.int .i64 0)).setCell ⟨w.heap.size + 1 + 1, 0, none⟩ (.bool false)).setCell ⟨w.heap.size + 1 + 1 + 1, 0, none⟩ (.int .i64 2) := ⟨_, rfl⟩
    obtain ⟨q1, q2, q3, q4⟩ := HF.out W hW
    rw [← hW]
    obtain ⟨x0, x1, x2, x3, x4, x5⟩ := RET.out ⟨2, 0, 0, 0, 0, false⟩ W q1
    clear f1 f2 f3 f4 f5 f6 f7 f8 f9 f10 f11 f12 hW
    exact ⟨.tuple #[.agg #[.int .i64 0, .int .i64 0, .int .i64 0], .int .i64 0, .bool false, .int .i64 2], by simp [results, Tryd.f69, go_sem, x0, x1, x2, x3, x4, x5], by rw [HR.out, e.out], HBW.out.trans (q2 _ HG.out.1)⟩
  have HBU : Hid (1 ≤ bu ∧ bu ≤ 20000) := Lib.hid hq
  clear hq
  gi_wp2_with fail
  rw [HW0.out]
  gi_at_call 107
  refine (callsIn_wide.2 (startC g true bu 0 W0 (strValid H0.out) (by rw [if_pos rfl, if_pos HBU.out]))).mono ?_
  rintro e w1 ⟨rfl, rfl⟩
  have eg := rc_good (bu := bu) HV.out.symm HBU.out
  rw [← HR.out] at eg
  have EG := Lib.hid eg
  obtain ⟨hp, hl, hok⟩ := vcB_ok HV.out.symm
  have HP := Lib.hid hp
  have HL := Lib.hid hl
  have HOK := Lib.hid hok
  obtain ⟨B, rfl⟩ : ∃ B : Nat, bu = (B : Int) := ⟨bu.toNat, by have := HBU.out.1; omega⟩
  have hB : B ≤ 20000 := by have := HBU.out.2; omega
  clear eg hp hl hok
  gi_wp2_with fail
  obtain ⟨W1, hW1⟩ : ∃ W, W = W0.alloc (.cells #[.int .i64 0] 2) := ⟨_, rfl⟩
  rw [← hW1]
  have hb1 : Below W0.heap.size W0 W1 := by rw [hW1]; exact (Below.refl _ _).alloc (Nat.le_refl _) _
  have km : Cels W1 W0.heap.size 2 [.int .i64 0] := by rw [hW1]; exact Cels.new _ _ _
  have hs1 : W1.heap.size = w.heap.size + 6 := by rw [hW1]; have := HSZ.out; simp; omega
  gi_at_call 108
  refine (callsIn_wide.2 (stepsMkC _ (B : Int) W1 ⟨_, _, rfl⟩)).mono ?_
  rintro e w2 ⟨rfl, hw2⟩
  obtain ⟨W2, hW2⟩ : ∃ W, W = (W1.alloc (.cells #[.iface 107 (.pointer (some ⟨g, 0, none⟩))] 163)).alloc (.cells #[.int .i64 (B : Int)] 2) := ⟨_, rfl⟩
  rw [← hW2] at hw2
  obtain rfl : W2 = w2 := hw2.symm
  clear hw2
  have hb2 : Below W1.heap.size W1 W2 := by rw [hW2]; exact ((Below.refl _ _).alloc (Nat.le_refl _) _).alloc (by simp) _
  have krb : Cels W2 W1.heap.size 163 [.iface 107 (.pointer (some ⟨g, 0, none⟩))] := by rw [hW2]; exact (Cels.new _ _ _).alloc _
  have klb : Cels W2 (W1.heap.size + 1) 2 [.int .i64 (B : Int)] := by
    rw [hW2]
    have := Cels.new (W1.alloc (.cells #[.iface 107 (.pointer (some ⟨g, 0, none⟩))] 163)) 2 [.int .i64 (B : Int)]
    rwa [World.size_alloc] at this
  have hs2 : W2.heap.size = w.heap.size + 8 := by rw [hW2]; simp; omega
  have HB12 : Below W0.heap.size W0 W2 := hb1.trans (hb2.mono hb1.size)
  have M2 := Lib.hid (km.below hb2 km.lt)
  have L0 := Lib.hid (K0.out.below HB12 K0.out.lt)
  have L1 := Lib.hid (K1.out.below HB12 K1.out.lt)
  have L2 := Lib.hid (K2.out.below HB12 K2.out.lt)
  have L3 := Lib.hid (K3.out.below HB12 K3.out.lt)
  have L4 := Lib.hid (K4.out.below HB12 K4.out.lt)
  have HBX := Lib.hid (HBW.out.trans (HB12.mono HBW.out.size))
  have HAT : Hid (AtC w0 g gb c0 pa pc rs R B (W1.heap.size + 1) W1.heap.size 0 at' a b W2) := Lib.hid
    ⟨Nat.zero_le _, HOK.out, by rw [EG.out]; simp, H0.out.below HB12, klb, krb⟩
  have HS2 := Lib.hid hs2
  have HS1 := Lib.hid hs1
  clear hb1 km hW1 hb2 krb klb hW2 HB12 hs1 hs2
  gi_wp2_with fail
  refine range_run rfl (by omega) (gf := 132) (lb := #[.pointer (some ⟨W1.heap.size + 1, 0, none⟩), .pointer (some ⟨W1.heap.size, 0, none⟩)]) rfl trivial (enters_of Tryd.func132 (by kernel_rfl) rfl)
    (stepsC 5 (by omega) w0 g gb c0 pa pc rs R B (W1.heap.size + 1) W1.heap.size HP.out HL.out hB (by have := HG.out; have := HS1.out; refine ⟨?_, ?_, ?_, ?_⟩ <;> omega))
    (by have := HG.out; have := HS2.out; rintro k (rfl | rfl) <;> omega) (by have := HG.out; have := HS2.out; have := HS1.out; rintro k (h | rfl | rfl | rfl | rfl) <;> omega)
    StC.kept DnC.kept (.inl ⟨0, at', a, b, rfl, HAT.out⟩) (fun _ => rfl)
    (fun pre W => (∃ k : Nat, pre = List.replicate k none ∧ Cels W W0.heap.size 2 [.int .i64 (k : Int)]) ∧ Cels W w.heap.size 26 [.int .i64 0, .int .i64 0, .int .i64 0] ∧ Cels W (w.heap.size + 1) 2 [.int .i64 0] ∧ Cels W (w.heap.size + 1 + 1) 4 [.bool false] ∧ Cels W (w.heap.size + 1 + 1 + 1) 2 [.int .i64 0] ∧ Cels W (w.heap.size + 1 + 1 + 1 + 1) 26 [.int .i64 0, .int .i64 0, .int .i64 0] ∧ Below w0.heap.size w0 W)
    (fun c pre W => (c = .ret ∧ R = ⟨5, 0, 0, 0, 0, false⟩) ∧ Cels W w.heap.size 26 [.int .i64 0, .int .i64 0, .int .i64 0] ∧ Cels W (w.heap.size + 1) 2 [.int .i64 0] ∧ Cels W (w.heap.size + 1 + 1) 4 [.bool false] ∧ Cels W (w.heap.size + 1 + 1 + 1) 2 [.int .i64 5] ∧ Below w0.heap.size w0 W)
    (OwnFrom.and (fun s X Y row hs hg hr => by
        obtain ⟨k, e1, e2⟩ := hs
        exact ⟨k, e1, cels_own (β := Unit) _ _ _ (fun _ => _) () X Y row e2 hg hr⟩)
      (OwnFrom.and (cels_own _ _ _ _) (OwnFrom.and (cels_own _ _ _ _) (OwnFrom.and (cels_own _ _ _ _) (OwnFrom.and (cels_own _ _ _ _) (OwnFrom.and (cels_own _ _ _ _) (ownFrom_below (Nat.le_refl _) (by have := HG.out; have := HS2.out; omega))))))))
    (fun c => OwnFrom.and (ownFrom_pure _ _) (OwnFrom.and (cels_own _ _ _ _) (OwnFrom.and (cels_own _ _ _ _) (OwnFrom.and (cels_own _ _ _ _) (OwnFrom.and (cels_own _ _ _ _) (ownFrom_below (Nat.le_refl _) (by have := HG.out; have := HS2.out; omega)))))))
    (fun pre X Y hs ho => by
      have hg := HG.out
      have hz := HSZ.out
      obtain ⟨⟨k, e1, e2⟩, c0', c1', c2', c3', c4', hb⟩ := hs
      refine ⟨⟨k, e1, ho.cels e2 ?_⟩, ho.cels c0' ?_, ho.cels c1' ?_, ho.cels c2' ?_, ho.cels c3' ?_, ho.cels c4' ?_, hb.trans (ho.below ?_ hb.size)⟩
      all_goals (first | (rintro (h | h) <;> omega) | (rintro k (rfl | rfl) <;> omega)))
    ⟨⟨0, rfl, M2.out⟩, L0.out, L1.out, L2.out, L3.out, L4.out, HBX.out⟩
    (fun x => { tmps := #[.iface 107 (.pointer (some ⟨g, 0, none⟩)), .int .i64 (B : Int), undef, undef,
          .pointer (some ⟨w.heap.size, 0, none⟩), .pointer (some ⟨w.heap.size + 1, 0, none⟩), .pointer (some ⟨w.heap.size + 1 + 1, 0, none⟩), .pointer (some ⟨w.heap.size + 1 + 1 + 1, 0, none⟩), .pointer (some ⟨w.heap.size + 1 + 1 + 1 + 1, 0, none⟩),
          .int .i64 0, .pointer (some ⟨W0.heap.size, 0, none⟩), errV x,
          .iface 107 (.pointer (some ⟨g, 0, none⟩)), .int .i64 (B : Int), .int .i64 0, .int .i64 0, .bool false, undef, undef,
          .iface 107 (.pointer (some ⟨g, 0, none⟩)), .int .i64 (B : Int), .func (Fn.func 132) #[] #[.pointer (some ⟨W1.heap.size + 1, 0, none⟩), .pointer (some ⟨W1.heap.size, 0, none⟩)], errV x,
          undef, undef, undef, undef, undef, undef, undef, undef, undef, undef, undef, undef], defers := [] }) ?assign ?body ?done ?stop
  case assign =>
    intro l x W K hK
    unfold encC
    gi_wp2
    exact hK
  case body =>
    rintro l pre x W ⟨⟨k, e1, km⟩, c0', c1', c2', c3', c4', hb⟩ hst
    cases x with
    | none =>
      have hkb : (k : Int) + 1 ≤ 20000 := by
        rcases hst with ⟨k', _, _, _, e, ha⟩ | ⟨k', e, hr⟩
        · have h1 := congrArg List.length e
          rw [e1] at h1
          simp at h1
          have := ha.le
          omega
        · have := List.append_inj_right' e rfl
          simp at this
      have e2 : pre ++ [none] = List.replicate (k + 1) none := by rw [e1]; exact List.replicate_succ'.symm
      have E2 := Lib.hid e2
      have ew : IntKind.i64.wrap ((k : Int) + 1) = (k : Int) + 1 := by rw [IntKind.wrap_i64]; omega
      have y0 := km.cell 0 rfl
      have y1 := km.frozen 0
      have KM := Lib.hid km
      have C0 := Lib.hid c0'
      have C1 := Lib.hid c1'
      have C2 := Lib.hid c2'
      have C3 := Lib.hid c3'
      have C4 := Lib.hid c4'
      have HBr := Lib.hid hb
      simp only [errV]
      clear hkb e1 e2 hst c0' c1' c2' c3' c4' hb km
      gi_wp2_with fail
      have hg := HG.out
      have hz := HSZ.out
      have hz2 := HS1.out
      refine ⟨(KeepsOthers.setCell _ _ _).from _, (Kept.refl _ _).set (p := ⟨W0.heap.size, 0, none⟩) ?_ _, ⟨k + 1, E2.out, ?_⟩, C0.out.other ?_ _, C1.out.other ?_ _, C2.out.other ?_ _, C3.out.other ?_ _, C4.out.other ?_ _, HBr.out.setCell (p := ⟨W0.heap.size, 0, none⟩) ?_ _⟩
      · show ¬ TC w0 g gb (W1.heap.size + 1) W1.heap.size W0.heap.size
        rintro (h | h | h | h | h) <;> omega
      · have := KM.out.set 0 (.int .i64 ((k : Int) + 1))
        simpa using this
      · show w.heap.size ≠ W0.heap.size; omega
      · show w.heap.size + 1 ≠ W0.heap.size; omega
      · show w.heap.size + 1 + 1 ≠ W0.heap.size; omega
      · show w.heap.size + 1 + 1 + 1 ≠ W0.heap.size; omega
      · show w.heap.size + 1 + 1 + 1 + 1 ≠ W0.heap.size; omega
      · show w0.heap.size ≤ W0.heap.size; omega
    | some c =>
      obtain ⟨hc5, hR5⟩ : c = 5 ∧ R = ⟨5, 0, 0, 0, 0, false⟩ := by
        rcases hst with ⟨k', _, _, _, e, _⟩ | ⟨k', e, hr⟩
        · have hm : some c ∈ List.replicate k' (none : Option Int) := by rw [← e]; simp
          have := List.eq_of_mem_replicate hm
          cases this
        · have := List.append_inj_right' e rfl
          simp at this
          exact ⟨this, hr⟩
      subst hc5
      simp only [errV]
      have z0 := c4'.cell 0 rfl
      have z1 := c4'.cell 1 rfl
      have z2 := c4'.cell 2 rfl
      have HD : Hid (Below W.heap.size W W.drew) := Lib.hid (Below.refl _ _).drew
      have HBr := Lib.hid hb
      have HWK := Lib.hid (KeepsOthers.refl W)
      have C0 := Lib.hid c0'
      have C1 := Lib.hid c1'
      have C2 := Lib.hid c2'
      have C3 := Lib.hid c3'
      have C4 := Lib.hid c4'
      clear c0' c1' c2' c3' c4' km hb
      gi_wp2_with fail
      gi_region_with ((gi_at_call 105; refine (CallsIn.inRound l (callsIn_wide.2 (implCodeOf 5 _ (HE.out.below (HBr.out.trans (HD.out.mono HBr.out.size)) (Nat.le_refl _))))).mono ?_; rintro e3 w3 ⟨rfl, bq⟩; have HD3 := Lib.hid (HD.out.trans (bq.mono HD.out.size)); obtain ⟨⟨f1, f2, f3, f4, f5, f6, f7, f8, f9, f10, f11, f12⟩, hf⟩ := put6 (C0.out.below HD3.out C0.out.lt) (C1.out.below HD3.out C1.out.lt) (C2.out.below HD3.out C2.out.lt) (C3.out.below HD3.out C3.out.lt) (.int .i64 0) (.int .i64 0) (.int .i64 0) (.int .i64 0) (.bool false) (.int .i64 5); have HF := Lib.hid hf; have y0 := (C4.out.below HD3.out C4.out.lt).cell 0 rfl; have y1 := (C4.out.below HD3.out C4.out.lt).cell 1 rfl; have y2 := (C4.out.below HD3.out C4.out.lt).cell 2 rfl; clear hf bq))
      all_goals
        gi_wp2_with fail
        obtain ⟨Wf, hWf⟩ : ∃ x, x = (((((w3.setCell ⟨w.heap.size, 0, none⟩ (.int .i64 0)).setCell ⟨w.heap.size, 1, none⟩ (.int .i64 0)).setCell ⟨w.heap.size, 2, none⟩ (.int .i64 0)).setCell ⟨w.heap.size + 1, 0, none⟩ (.int .i64 0)).setCell ⟨w.heap.size + 1 + 1, 0, none⟩ (.bool false)).setCell ⟨w.heap.size + 1 + 1 + 1, 0, none⟩ (.int .i64 5) := ⟨_, rfl⟩
        obtain ⟨q1, q2, q3, q4⟩ := HF.out Wf hWf
        rw [← hWf]
        exact ⟨((below_keeps HD3.out).trans q3).from _, ⟨rfl, hR5⟩, q1.1, q1.2.1, q1.2.2.1, q1.2.2.2, (HBr.out.trans (HD3.out.mono HBr.out.size)).trans (q2 _ HG.out.1)⟩
  case done =>
    rintro D xs W hD hdn ⟨⟨k, e1, km⟩, c0', c1', c2', c3', c4', hb⟩ hK
    obtain ⟨at2, a2, b2, hat, hR2⟩ : ∃ (at2 a2 b2 : Int), AtC w0 g gb c0 pa pc rs R B (W1.heap.size + 1) W1.heap.size k at2 a2 b2 W ∧ R = ⟨0, at2, a2, b2, (k : Int), at2 == (rs.length : Int)⟩ := by
      rcases hdn with ⟨k', at2, a2, b2, e, ha, hr⟩ | ⟨k', e⟩
      · have h1 := congrArg List.length e
        rw [e1] at h1
        simp at h1
        subst h1
        exact ⟨at2, a2, b2, ha, hr⟩
      · exfalso
        rw [e1] at e
        have hm : some (5 : Int) ∈ List.replicate k (none : Option Int) := by rw [e]; simp
        have := List.eq_of_mem_replicate hm
        cases this
    obtain ⟨hq, hhq⟩ : ∃ q, q = (at2 == (rs.length : Int)) := ⟨_, rfl⟩
    rw [← hhq] at hR2
    have HHQ := Lib.hid hhq
    have HR2 := Lib.hid hR2
    have HD : Hid (Below W.heap.size W W.drew) := Lib.hid (Below.refl _ _).drew
    have HBr := Lib.hid hb
    have HST := Lib.hid hat.st
    have HKD := Lib.hid hK
    have KM := Lib.hid km
    have C0 := Lib.hid c0'
    have C1 := Lib.hid c1'
    have C2 := Lib.hid c2'
    have C3 := Lib.hid c3'
    have n3 := nlCc g
    have m3 := mtCc g
    have n4 := nlCh g
    have m4 := mtCh g
    have y0 := km.cell 0 rfl
    clear hdn e1 hat hR2 hhq hb hK km c0' c1' c2' c3' c4'
    have HSM : Hid (∀ X, Cels X W0.heap.size 2 [.int .i64 (k : Int)] → X.cell? ⟨W0.heap.size, 0, none⟩ = some (.int .i64 (k : Int))) := Lib.hid (fun X q => q.cell 0 rfl)
    have hz5 := HSZ.out
    have HN0 : Hid (W0.heap.size ≠ w.heap.size) := Lib.hid (by omega)
    have HN1 : Hid (W0.heap.size ≠ w.heap.size + 1) := Lib.hid (by omega)
    have HN2 : Hid (W0.heap.size ≠ w.heap.size + 1 + 1) := Lib.hid (by omega)
    have HN3 : Hid (W0.heap.size ≠ w.heap.size + 1 + 1 + 1) := Lib.hid (by omega)
    clear hz5
    gi_wp2_with fail
    refine wpIn_wide.2 ?_
    go_cut [31] from 30 to 34 (fun s31 wx => (Cels wx w.heap.size 26 [.int .i64 at2, .int .i64 a2, .int .i64 b2] ∧ Cels wx (w.heap.size + 1) 2 [.int .i64 (k : Int)] ∧ Cels wx (w.heap.size + 1 + 1) 4 [.bool hq] ∧ Cels wx (w.heap.size + 1 + 1 + 1) 2 [.int .i64 0]) ∧ KeepsOthers W wx ∧ Below w0.heap.size w0 wx)
    case first =>
      clear HW0 K0 K1 K2 K3 K4 L0 L1 L2 L3 L4 M2 HAT HBX HP HL HOK EG HV H0 H RET HSM HN1 HN2 HN3 n1 m1
      refine wp_region_noPanic ?_
      go_region_with (first
        | (go_at_call 189; with_reducible refine (crnConfig (HST.out.below HD.out)).mono ?_; rintro e3 w3 ⟨rfl, bq⟩; replace HD := Lib.hid (HD.out.trans (bq.mono HD.out.size)); clear y0; have y0 := (KM.out.below HD.out KM.out.lt).cell 0 rfl; clear bq)
        | (go_at_call 190; with_reducible refine (strHalts (HST.out.below HD.out) hq HHQ.out.symm).mono ?_; rintro e3 w3 ⟨rfl, bq⟩; replace HD := Lib.hid (HD.out.trans (bq.mono HD.out.size)); clear y0; have y0 := (KM.out.below HD.out KM.out.lt).cell 0 rfl; have y5 := ((((KM.out.below HD.out KM.out.lt).other (p := ⟨w.heap.size, 0, none⟩) HN0.out (.int .i64 at2)).other (p := ⟨w.heap.size, 1, none⟩) HN0.out (.int .i64 a2)).other (p := ⟨w.heap.size, 2, none⟩) HN0.out (.int .i64 b2)).cell 0 rfl; have HF0 := Lib.hid (put6 (C0.out.below HD.out C0.out.lt) (C1.out.below HD.out C1.out.lt) (C2.out.below HD.out C2.out.lt) (C3.out.below HD.out C3.out.lt) (.int .i64 at2) (.int .i64 a2) (.int .i64 b2) (.int .i64 (k : Int)) (.bool hq) (.int .i64 0)); obtain ⟨⟨f1, f2, f3, f4, f5, f6, f7, f8, f9, f10, f11, f12⟩, hf⟩ := HF0.out; have HF := Lib.hid hf; clear hf bq HF0))
      all_goals (refine NoPanic.normal ?_)
      all_goals (go_wp2_with fail; go_meet)
      all_goals
        obtain ⟨Wf, hWf⟩ : ∃ x, x = (((((w3.setCell ⟨w.heap.size, 0, none⟩ (.int .i64 at2)).setCell ⟨w.heap.size, 1, none⟩ (.int .i64 a2)).setCell ⟨w.heap.size, 2, none⟩ (.int .i64 b2)).setCell ⟨w.heap.size + 1, 0, none⟩ (.int .i64 (k : Int))).setCell ⟨w.heap.size + 1 + 1, 0, none⟩ (.bool hq)).setCell ⟨w.heap.size + 1 + 1 + 1, 0, none⟩ (.int .i64 0) := ⟨_, rfl⟩
        obtain ⟨q1, q2, q3, q4⟩ := HF.out Wf hWf
        rw [← hWf]
        exact ⟨q1, (below_keeps HD.out).trans q3, (HBr.out.trans (HD.out.mono HBr.out.size)).trans (q2 _ HG.out.1)⟩
    obtain ⟨q1, q3, q2⟩ := hcut
    obtain ⟨Wf, hWf⟩ : ∃ x, x = wc := ⟨_, rfl⟩
    subst hWf
    have Q1 := Lib.hid q1
    have HKF := Lib.hid (q3.same D _ HKD.out rfl)
    have Q2 := Lib.hid q2
    clear q1 q2 q3 y0
    gi_wp2_with fail
    have hkf := HKF.out
    have q1 := Q1.out
    have hg := HG.out
    have hz2 := HS2.out
    refine ⟨by simp, .inl ⟨_, _, rfl, run_takeDeferred hkf, ?_⟩⟩
    have nd : ∀ (q : Nat) (t : TypeId) (cs : List Value), q < D → Cels Wf q t cs → Cels (Wf.putObj D (.deferred none)) q t cs := fun q t cs h k => (World.putObj_heap_other (by omega)).trans k
    obtain ⟨x0, x1, x2, x3, x4, x5⟩ := RET.out ⟨0, at2, a2, b2, (k : Int), hq⟩ (Wf.putObj D (.deferred none)) ⟨nd _ _ _ (by omega) q1.1, nd _ _ _ (by omega) q1.2.1, nd _ _ _ (by omega) q1.2.2.1, nd _ _ _ (by omega) q1.2.2.2⟩
    exact ⟨.tuple #[.agg #[.int .i64 at2, .int .i64 a2, .int .i64 b2], .int .i64 (k : Int), .bool hq, .int .i64 0], by simp [results, Tryd.f69, go_sem, x0, x1, x2, x3, x4, x5], by rw [HR2.out], Q2.out.trans (belowK_b (w := w) (by omega) _ D _ _ (by omega) hkf rfl rfl)⟩
  case stop =>
    rintro D c pre W hD ⟨⟨rfl, hR5⟩, c0', c1', c2', c3', hb⟩ hK
    have hg := HG.out
    have hz2 := HS2.out
    have nd : ∀ (q : Nat) (t : TypeId) (cs : List Value), q < D → Cels W q t cs → Cels (W.putObj D (.deferred none)) q t cs := fun q t cs h k => (World.putObj_heap_other (by omega)).trans k
    obtain ⟨x0, x1, x2, x3, x4, x5⟩ := RET.out ⟨5, 0, 0, 0, 0, false⟩ (W.putObj D (.deferred none)) ⟨nd _ _ _ (by omega) c0', nd _ _ _ (by omega) c1', nd _ _ _ (by omega) c2', nd _ _ _ (by omega) c3'⟩
    have HX := Lib.hid (And.intro x0 (And.intro x1 (And.intro x2 (And.intro x3 (And.intro x4 x5)))))
    clear x0 x1 x2 x3 x4 x5 nd
    gi_wp2_with fail
    refine ⟨by simp, .inl ⟨_, _, rfl, run_takeDeferred hK, ?_⟩⟩
    obtain ⟨x0, x1, x2, x3, x4, x5⟩ := HX.out
    exact ⟨.tuple #[.agg #[.int .i64 0, .int .i64 0, .int .i64 0], .int .i64 0, .bool false, .int .i64 5], by simp [results, Tryd.f69, go_sem, x0, x1, x2, x3, x4, x5], by first | rfl | rw [hR5], hb.trans (belowK_b (w := w) (by omega) _ D _ _ (by omega) hK rfl rfl)⟩
theorem implEnC (w0 w : World) (g gb c0 : Nat) (pa : Option Addr) (pc : Nat) (rs : List Ins) (at' a b bu : Int) (h : StR w0 w g 171 gb c0 pa pc rs at' [a, b] (vcB rs at' a b) 1000000000000) (he : EtV w0) (hb0 : Below w0.heap.size w0 w) :
    Calls Tryd.prog 69 #[.iface 107 (.pointer (some ⟨g, 0, none⟩)), .int .i64 bu] w fun e w' =>
      e = .returned (.tuple #[.agg #[.int .i64 (rcR rs at' a b bu).at', .int .i64 (rcR rs at' a b bu).a, .int .i64 (rcR rs at' a b bu).b], .int .i64 (rcR rs at' a b bu).n, .bool (rcR rs at' a b bu).h, .int .i64 (rcR rs at' a b bu).code]) ∧ Below w0.heap.size w0 w' :=
  callsIn_wide.1 (implEnC_in w0 w g gb c0 pa pc rs at' a b bu h he hb0)
end Go.Proofs.YtgbhbbapkpgmiaaDoor.Ints
