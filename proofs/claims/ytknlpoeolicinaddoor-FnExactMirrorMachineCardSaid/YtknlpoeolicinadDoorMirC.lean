/- MirrorMachine: the contracts of the model and of the program. -/
import Derived.Test.YtknlpoeolicinadDoorMirB
import Derived.Test.YtknlpoeolicinadDoorFree
namespace Go.Proofs.YtknlpoeolicinadDoor.Ints
open Go.RowKit
set_option linter.unusedVariables false
set_option linter.unusedSimpArgs false
noncomputable def mmR (sy st : Int) (rs : List Ru) : List Ru := if machB sy st rs = true then mirR rs else []
noncomputable def mmC (sy st : Int) (rs : List Ru) : Int := if machB sy st rs = true then 0 else 1
noncomputable def mmI (sy st : Int) (rs : List Ru) (x : Int) : Int := if machB sy st rs = true then x else 0
theorem OwR.noneAt {w : World} {B : Nat} (h : B ≤ w.heap.size) : OwR w B w.heap.size (.slice none 0 0) [] := OwR.emptyUp h
set_option maxHeartbeats 4000000 in
theorem specMirrorMachine (sy st : Int) (v : Value) (rs : List Ru) (w : World) (hv : RdR w v rs) :
    Calls Tryd.prog 41 #[.agg #[.int .i64 sy, .int .i64 st, v]] w fun e w' => ∃ u, e = .returned (.tuple #[.agg #[.int .i64 (mmI sy st rs sy), .int .i64 (mmI sy st rs st), u], .int .i64 (mmC sy st rs)]) ∧ OwR w' w.heap.size w'.heap.size u (mmR sy st rs) ∧ Below w.heap.size w w' := by
  have HV := Lib.hid hv
  obtain ⟨_, _, a, c, rfl, _, _⟩ := hv
  obtain ⟨W0, hW0⟩ : ∃ W, W = (w.alloc (Obj.cells #[.int .i64 sy, .int .i64 st, .slice a rs.length c] 29)).alloc (Obj.cells #[.int .i64 0, .int .i64 0, .slice none 0 0] 29) := ⟨_, rfl⟩
  have HB : Hid (Below w.heap.size w W0) := Lib.hid (by rw [hW0]; exact ((Below.refl w.heap.size w).alloc (Nat.le_refl _) _).alloc (by simp) _)
  have K1 : Hid (Cels W0 w.heap.size 29 [.int .i64 sy, .int .i64 st, .slice a rs.length c]) := Lib.hid (by rw [hW0]; exact (Cels.new _ _ _).alloc _)
  have K2 : Hid (Cels W0 (w.heap.size + 1) 29 [.int .i64 0, .int .i64 0, .slice none 0 0]) := Lib.hid (by rw [hW0]; have h := Cels.new (w.alloc (Obj.cells #[.int .i64 sy, .int .i64 st, .slice a rs.length c] 29)) 29 [.int .i64 0, .int .i64 0, .slice none 0 0]; rw [World.size_alloc] at h; exact h)
  have HSZ : Hid (w.heap.size + 2 = W0.heap.size) := Lib.hid (by rw [hW0]; simp)
  have HW0 := Lib.hid hW0.symm
  obtain ⟨bm, hbm⟩ : ∃ b, b = machB sy st rs := ⟨_, rfl⟩
  have HM := Lib.hid hbm
  clear hbm hW0
  go_enter Tryd.func41, Tryd.ntmps41
  go_wp2_with fail
  rw [HW0.out]
  refine (specIs w.heap.size sy st _ rs _ (HV.out.below HB.out (Nat.le_refl _)) (K1.out.cell 0 rfl) (K1.out.cell 1 rfl) (K1.out.cell 2 rfl)).mono ?_
  rintro e w1 ⟨rfl, hb1⟩
  rw [← HM.out]
  have HK := Lib.hid (K1.out.below hb1 K1.out.lt)
  have HK2 := Lib.hid (K2.out.below hb1 K2.out.lt)
  have HB1 := Lib.hid (HB.out.trans (hb1.mono HB.out.size))
  have HSZ1 : Hid (w.heap.size + 2 ≤ w1.heap.size) := Lib.hid (by have := hb1.size; have := HSZ.out; omega)
  clear hb1
  rcases eqOr bm with hb | hb
  · subst hb
    have e := Lib.hid (show mmR sy st rs = [] ∧ mmC sy st rs = 1 ∧ mmI sy st rs sy = 0 ∧ mmI sy st rs st = 0 by simp [mmR, mmC, mmI, ← HM.out])
    have HF3 := Lib.hid (put3 HK2.out (.int .i64 0) (.int .i64 0) (.slice none 0 0))
    obtain ⟨f1, f2, f3, f4, f5, f6, f7⟩ := HF3.out
    go_wp2
    obtain ⟨W, hW⟩ : ∃ W, W = ((w1.setCell ⟨w.heap.size + 1, 0, none⟩ (.int .i64 0)).setCell ⟨w.heap.size + 1, 1, none⟩ (.int .i64 0)).setCell ⟨w.heap.size + 1, 2, none⟩ (.slice none 0 0) := ⟨_, rfl⟩
    have hB : Below w.heap.size w W := by
      rw [hW]
      exact below_set (below_set (below_set HB1.out (by omega) _ _) (by omega) _ _) (by omega) _ _
    rw [← hW] at f7 ⊢
    have z0 := f7.cell 0 rfl
    have z1 := f7.cell 1 rfl
    have z2 := f7.cell 2 rfl
    clear f1 f2 f3 f4 f5 f6 hW
    rw [e.out.1, e.out.2.1, e.out.2.2.1, e.out.2.2.2]
    refine bodyPost_ret (v := .tuple #[.agg #[.int .i64 0, .int .i64 0, .slice none 0 0], .int .i64 1]) (by simp [results, Tryd.f41, go_sem, z0, z1, z2]) rfl ⟨_, rfl, OwR.emptyUp hB.size, hB⟩
  · subst hb
    have e := Lib.hid (show mmR sy st rs = mirR rs ∧ mmC sy st rs = 0 ∧ mmI sy st rs sy = sy ∧ mmI sy st rs st = st by simp [mmR, mmC, mmI, ← HM.out])
    go_wp2_with fail
    refine (specMirrorM w.heap.size sy st _ rs _ (HV.out.below HB1.out (Nat.le_refl _)) (HK.out.cell 0 rfl) (HK.out.cell 1 rfl) (HK.out.cell 2 rfl)).mono ?_
    rintro e2 w2 ⟨u, rfl, ho, hb2⟩
    obtain ⟨ga, gc, rfl⟩ := ho.shape
    have HO := Lib.hid (ho.mono HSZ1.out (Nat.le_refl _) (Nat.le_refl _))
    have HB2 := Lib.hid (HB1.out.trans (hb2.mono HB1.out.size))
    have HF3 := Lib.hid (put3 (HK2.out.below hb2 HK2.out.lt) (.int .i64 sy) (.int .i64 st) (.slice ga (mirR rs).length gc))
    obtain ⟨f1, f2, f3, f4, f5, f6, f7⟩ := HF3.out
    clear ho hb2
    go_wp2
    obtain ⟨W, hW⟩ : ∃ W, W = ((w2.setCell ⟨w.heap.size + 1, 0, none⟩ (.int .i64 sy)).setCell ⟨w.heap.size + 1, 1, none⟩ (.int .i64 st)).setCell ⟨w.heap.size + 1, 2, none⟩ (.slice ga (mirR rs).length gc) := ⟨_, rfl⟩
    have hB : Below w.heap.size w W ∧ OwR W (w.heap.size + 2) W.heap.size (.slice ga (mirR rs).length gc) (mirR rs) := by
      rw [hW]
      exact ⟨below_set (below_set (below_set HB2.out (by omega) _ _) (by omega) _ _) (by omega) _ _,
        (((HO.out.apartCell (by omega) _ _).apartCell (by omega) _ _).apartCell (by omega) _ _).up⟩
    rw [← hW] at f7 ⊢
    have z0 := f7.cell 0 rfl
    have z1 := f7.cell 1 rfl
    have z2 := f7.cell 2 rfl
    clear f1 f2 f3 f4 f5 f6 hW
    rw [e.out.1, e.out.2.1, e.out.2.2.1, e.out.2.2.2]
    refine bodyPost_ret (v := .tuple #[.agg #[.int .i64 sy, .int .i64 st, .slice ga (mirR rs).length gc], .int .i64 0]) (by simp [results, Tryd.f41, go_sem, z0, z1, z2]) rfl ⟨_, rfl, hB.2.mono (by omega) (Nat.le_refl _) (Nat.le_refl _), hB.1⟩
end Go.Proofs.YtknlpoeolicinadDoor.Ints
