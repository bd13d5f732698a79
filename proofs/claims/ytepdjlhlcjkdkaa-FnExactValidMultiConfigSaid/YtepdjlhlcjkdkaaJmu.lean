/- Machines with several tapes: copies and comparisons. -/
import Derived.Test.YtepdjlhlcjkdkaaJrs3
namespace Go.Proofs.Ytepdjlhlcjkdkaa.Ints
open Go.RowKit
set_option linter.unusedVariables false
set_option linter.unusedSimpArgs false
set_option maxHeartbeats 2000000 in
theorem toMul (tp sy st : Int) (v : Value) (ms : List Mr) (w : World) (hv : RdM w v ms) :
    Calls Try.prog 18 #[.agg #[.int .i64 tp, .int .i64 sy, .int .i64 st, v]] w fun e w' => ∃ u, e = .returned (.agg #[.int .i64 tp, .int .i64 sy, .int .i64 st, u]) ∧ RdM w' u ms ∧ Below w.heap.size w w' := by
  have HV := Lib.hid hv
  obtain ⟨_, a, c, rfl, _, _⟩ := hv
  have HC := Lib.hid (cels3 w (Obj.cells #[.int .i64 tp, .int .i64 sy, .int .i64 st, .slice a ms.length c] 24) 33 33 [.int .i64 0, .int .i64 0, .int .i64 0, .slice none 0 0] [.int .i64 tp, .int .i64 sy, .int .i64 st, .slice none 0 0])
  go_enter Try.func18, Try.ntmps18
  go_wp2_with fail
  obtain ⟨k1, k2, hb0, hs0⟩ := HC.out
  simp only [List.toArray] at k1 k2 hb0 hs0
  refine (toMrs _ ms _ (HV.out.below hb0 (Nat.le_refl _))).mono ?_
  rintro e w1 ⟨u, rfl, hu, hb⟩
  have hu2 := hu.rdm.val
  obtain ⟨ga, gc, hU, _, _⟩ := hu2
  subst hU
  replace k1 := k1.below hb (by rw [hs0]; omega)
  replace k2 := k2.below hb (by rw [hs0]; omega)
  have HB1 := Lib.hid (hb0.trans (hb.mono hb0.size))
  have hsz : w.heap.size + 1 + 1 < w1.heap.size := by have := hb.size; omega
  have HU := Lib.hid hu
  have HS0 := Lib.hid hs0
  obtain ⟨V, hV⟩ : ∃ V, V = Value.slice ga ms.length gc := ⟨_, rfl⟩
  have A1 := k2.set 3 (.slice ga ms.length gc)
  have B1 := k1.other (p := ⟨w.heap.size + 1 + 1, 3, none⟩) (by show w.heap.size + 1 ≠ w.heap.size + 1 + 1; omega) (.slice ga ms.length gc)
  have e1 := k2.cell 3 rfl
  have e2 := k2.frozen 3
  have e60 := A1.cell 0 rfl
  have e61 := A1.cell 1 rfl
  have e62 := A1.cell 2 rfl
  have e63 := A1.cell 3 rfl
  have D0 := B1.set 0 (.int .i64 tp)
  have D1 := D0.set 1 (.int .i64 sy)
  have D2 := D1.set 2 (.int .i64 st)
  have D3 := D2.set 3 (.slice ga ms.length gc)
  have t0 := B1.cell 0 rfl
  have u0 := B1.frozen 0
  have t1 := D0.cell 1 rfl
  have u1 := D0.frozen 1
  have t2 := D1.cell 2 rfl
  have u2 := D1.frozen 2
  have t3 := D2.cell 3 rfl
  have u3 := D2.frozen 3
  have HD3 := Lib.hid D3
  clear hu hb k1 k2 hb0 hs0 A1 B1 D0 D1 D2 D3 HC hV
  go_wp2
  obtain ⟨W, hW⟩ : ∃ W, W = ((((w1.setCell ⟨w.heap.size + 1 + 1, 3, none⟩ (.slice ga ms.length gc)).setCell ⟨w.heap.size + 1, 0, none⟩ (.int .i64 tp)).setCell ⟨w.heap.size + 1, 1, none⟩ (.int .i64 sy)).setCell ⟨w.heap.size + 1, 2, none⟩ (.int .i64 st)).setCell ⟨w.heap.size + 1, 3, none⟩ (.slice ga ms.length gc) := ⟨_, rfl⟩
  have hB : Below w.heap.size w W := by
    rw [hW]
    exact below_set (below_set (below_set (below_set (below_set HB1.out (by omega) _ _) (by omega) _ _) (by omega) _ _) (by omega) _ _) (by omega) _ _
  have hR : RdM W (.slice ga ms.length gc) ms := by
    rw [hW]
    have hs := HS0.out
    exact ((((((HU.out).apart (by omega) _ _).apart (by omega) _ _).apart (by omega) _ _).apart (by omega) _ _).apart (by omega) _ _).rdm
  have f9 := HD3.out
  rw [← hW] at f9 ⊢
  have z0 := f9.cell 0 rfl
  have z1 := f9.cell 1 rfl
  have z2 := f9.cell 2 rfl
  have z3 := f9.cell 3 rfl
  clear e1 e2 e60 e61 e62 e63 t0 u0 t1 u1 t2 u2 t3 u3 hW
  refine bodyPost_ret (v := .agg #[.int .i64 tp, .int .i64 sy, .int .i64 st, .slice ga ms.length gc]) (by simp [results, Try.f18, go_sem, z0, z1, z2, z3]) rfl ⟨_, rfl, hR, hB⟩
theorem eqMul (tp sy st : Int) (u v : Value) (ms : List Mr) (w : World) (hu : RdM w u ms) (hv : RdM w v ms) :
    Calls Try.prog 21 #[.agg #[.int .i64 tp, .int .i64 sy, .int .i64 st, u], .agg #[.int .i64 tp, .int .i64 sy, .int .i64 st, v]] w fun e w' => e = .returned (.bool true) ∧ Below w.heap.size w w' := by
  have H1 := Lib.hid hu
  have H2 := Lib.hid hv
  obtain ⟨_, a, c, rfl, _, _⟩ := hu
  obtain ⟨_, a2, c2, rfl, _, _⟩ := hv
  obtain ⟨W0, hW0⟩ : ∃ W, W = (w.alloc (Obj.cells #[.int .i64 tp, .int .i64 sy, .int .i64 st, .slice a ms.length c] 33)).alloc (Obj.cells #[.int .i64 tp, .int .i64 sy, .int .i64 st, .slice a2 ms.length c2] 33) := ⟨_, rfl⟩
  have HB : Hid (Below w.heap.size w W0) := Lib.hid (by rw [hW0]; exact ((Below.refl w.heap.size w).alloc (Nat.le_refl _) _).alloc (by simp) _)
  have HW0 := Lib.hid hW0.symm
  clear hW0
  go_enter Try.func21, Try.ntmps21
  go_wp2_with fail
  rw [HW0.out]
  refine (eqMrs _ _ ms _ (H1.out.below HB.out (Nat.le_refl _)) (H2.out.below HB.out (Nat.le_refl _))).mono ?_
  rintro e w1 ⟨rfl, hb1⟩
  have HB1 := Lib.hid (HB.out.trans (hb1.mono HB.out.size))
  clear hb1
  go_wp2
  go_ret
  exact ⟨rfl, HB1.out⟩
end Go.Proofs.Ytepdjlhlcjkdkaa.Ints
