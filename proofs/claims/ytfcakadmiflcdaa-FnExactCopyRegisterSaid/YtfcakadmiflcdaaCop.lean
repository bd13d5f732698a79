/- CopyRegister: the model's and the program's. -/
import Derived.Test.YtfcakadmiflcdaaMovR
namespace Go.Proofs.Ytfcakadmiflcdaa.Ints
open Go.RowKit
set_option linter.unusedVariables false
set_option linter.unusedSimpArgs false
theorem dig_two {b x y : Int} (hx : 0 ≤ x ∧ x < b) (hy : 0 ≤ y ∧ y < b) : Dig b [x, y] := fun i hi => by
  match i, hi with
  | 0, _ => exact hx
  | 1, _ => exact hy
theorem dig_one {b x : Int} (hx : 0 ≤ x ∧ x < b) : Dig b [x] := fun i hi => by
  match i, hi with
  | 0, _ => exact hx
noncomputable def copC (f t s : Int) : Int := regC [f, t, s]
def copL (f t s : Int) : List Ins := joinL (moveL f [t, s]) (moveL s [f])
noncomputable def copR (f t s : Int) : List Ins := if regC [f, t, s] = 0 then copL f t s else []
theorem cop_bad {f t s : Int} (h : regC [f, t, s] ≠ 0) : copR f t s = [] ∧ copC f t s = regC [f, t, s] := by simp [copR, copC, h]
theorem cop_good {f t s : Int} (h : regC [f, t, s] = 0) : copR f t s = copL f t s ∧ copC f t s = 0 := by simp [copR, copC, h]
structure CopOk (f t s : Int) : Prop where
  bf : 0 ≤ f ∧ f ≤ 23
  bs : 0 ≤ s ∧ s ≤ 23
  d1 : Dig 24 [t, s]
  d2 : Dig 24 [f]
  p1 : Pok (moveL f [t, s])
  p2 : Pok (moveL s [f])
  l : (copL f t s).length ≤ 400
theorem cop_ok {f t s : Int} (h : regC [f, t, s] = 0) : CopOk f t s := by
  obtain ⟨hf, h1⟩ := dig_cons (regC_ok h).1
  obtain ⟨ht, h2⟩ := dig_cons h1
  obtain ⟨hs, _⟩ := dig_cons h2
  exact ⟨⟨hf.1, by omega⟩, ⟨hs.1, by omega⟩, dig_two ht hs, dig_one hf, moveL_ok ⟨hf.1, by omega⟩ (dig_two ht hs) (by simp), moveL_ok ⟨hs.1, by omega⟩ (dig_one hf) (by simp), by simp [copL, joinL, moveL]⟩
theorem copFit {f t s : Int} (ff : fit64 f) (ft : fit64 t) (fs : fit64 s) : Fit [f, t, s] ∧ Fit [t, s] ∧ Fit [f] := by
  refine ⟨fun z hz => ?_, fun z hz => ?_, fun z hz => ?_⟩ <;> simp only [List.mem_cons, List.not_mem_nil, or_false] at hz
  · rcases hz with rfl | rfl | rfl <;> assumption
  · rcases hz with rfl | rfl <;> assumption
  · subst hz; exact ff
set_option maxHeartbeats 4000000 in
theorem specCopL (f t s : Int) (w2 : World) (HF : Hid (Fit [f, t, s] ∧ Fit [t, s] ∧ Fit [f])) (HK : Hid (CopOk f t s)) :
    Calls Try.prog 98 #[.int .i64 f, .int .i64 t, .int .i64 s] w2 fun e w' => ∃ u, e = .returned u ∧ OwIns w' w2.heap.size w'.heap.size u (copL f t s) ∧ Below w2.heap.size w2 w' := by
  have HB2 : Hid (Below w2.heap.size w2 w2) := Lib.hid (Below.refl _ _)
  go_enter Try.func98, Try.ntmps98
  have HO2 := Lib.hid (ow_block (B := w2.heap.size) (zs := [t, s]) (Cels.new w2 2 [.int .i64 t, .int .i64 s]) (Nat.le_refl _) (by simp) HF.out.2.1)
  have HW2 := Lib.hid ((Below.refl w2.heap.size w2).alloc (Nat.le_refl _) (.cells #[.int .i64 t, .int .i64 s] 2))
  go_wp2_with fail
  refine (specMoveL f _ [t, s] _ HO2.out.rd HK.out.bf HK.out.d1 (by simp)).mono ?_
  rintro e1 w3 ⟨u1, rfl, ho, hb⟩
  have HB3 := Lib.hid (HB2.out.trans ((HW2.out.trans (hb.mono HW2.out.size)).mono HB2.out.size))
  have HO3 := Lib.hid ho
  obtain ⟨g1, c1, hu1⟩ := ho.shape
  subst hu1
  clear ho hb
  have HO4 := Lib.hid (ow_block (B := w3.heap.size) (zs := [f]) (Cels.new w3 2 [.int .i64 f]) (Nat.le_refl _) (by simp) HF.out.2.2)
  have HW4 := Lib.hid ((Below.refl w3.heap.size w3).alloc (Nat.le_refl _) (.cells #[.int .i64 f] 2))
  go_wp2_with fail
  refine (specMoveL s _ [f] _ HO4.out.rd HK.out.bs HK.out.d2 (by simp)).mono ?_
  rintro e1 w5 ⟨u2, rfl, ho, hb⟩
  have HX := Lib.hid (HW4.out.trans (hb.mono HW4.out.size))
  have HB5 := Lib.hid (HB3.out.trans (HX.out.mono HB3.out.size))
  have HR1 := Lib.hid (HO3.out.below HX.out HO3.out.size).rd
  have HR2 := Lib.hid ho.rd
  obtain ⟨g2, c2, hu2⟩ := ho.shape
  subst hu2
  clear ho hb
  go_wp2_with fail
  refine (specJoinL _ _ _ _ _ HR1.out HR2.out HK.out.p1 HK.out.p2).mono ?_
  rintro e1 w6 ⟨u3, rfl, ho, hb⟩
  have HO6 := Lib.hid (ho.mono HB5.out.size (Nat.le_refl _) (Nat.le_refl _))
  have HB6 := Lib.hid (HB5.out.trans (hb.mono HB5.out.size))
  clear ho hb
  go_wp2
  go_ret
  exact ⟨_, rfl, HO6.out, HB6.out⟩
set_option maxHeartbeats 4000000 in
theorem specCopyRegister (f t s : Int) (w : World) (ff : fit64 f) (ft : fit64 t) (fs : fit64 s) :
    Calls Try.prog 51 #[.int .i64 f, .int .i64 t, .int .i64 s] w fun e w' => ∃ u, e = .returned (.tuple #[u, .int .i64 (copC f t s)]) ∧ OwIns w' w.heap.size w'.heap.size u (copR f t s) ∧ Below w.heap.size w w' := by
  have HF := Lib.hid (copFit ff ft fs)
  have HO := Lib.hid (ow_block (B := w.heap.size) (zs := [f, t, s]) (Cels.new w 2 [.int .i64 f, .int .i64 t, .int .i64 s]) (Nat.le_refl _) (by simp) HF.out.1)
  have HW := Lib.hid ((Below.refl w.heap.size w).alloc (Nat.le_refl _) (.cells #[.int .i64 f, .int .i64 t, .int .i64 s] 2))
  obtain ⟨C, hC⟩ : ∃ C, C = regC [f, t, s] := ⟨_, rfl⟩
  have HC := Lib.hid hC
  clear hC ff ft fs
  go_enter Try.func51, Try.ntmps51
  go_wp2_with fail
  refine (specApart _ [f, t, s] _ HO.out.rd).mono ?_
  rintro e w2 ⟨rfl, hb⟩
  have HB2 := Lib.hid (HW.out.trans (hb.mono HW.out.size))
  rw [← HC.out]
  clear hb
  by_cases hc : C = 0
  rotate_left
  · have hq : (C != 0) = true := by simp [hc]
    have e := Lib.hid (cop_bad (f := f) (t := t) (s := s) (fun h => hc (HC.out.trans h)))
    clear hc
    go_wp2
    go_ret2
    exact ⟨_, by rw [e.out.2, ← HC.out] <;> rfl, by rw [e.out.1]; exact OwIns.emptyUp HB2.out.size, HB2.out⟩
  have hq : (C != 0) = false := by simp [hc]
  have e := Lib.hid (cop_good (HC.out.symm.trans hc))
  have HK := Lib.hid (cop_ok (HC.out.symm.trans hc))
  clear hc
  go_wp2_with fail
  refine (specCopL f t s _ HF HK).mono ?_
  rintro e1 w6 ⟨u3, rfl, ho, hb⟩
  have HO6 := Lib.hid (ho.mono HB2.out.size (Nat.le_refl _) (Nat.le_refl _))
  have HB6 := Lib.hid (HB2.out.trans (hb.mono HB2.out.size))
  clear ho hb
  go_wp2_with fail
  go_ret2
  exact ⟨_, by rw [e.out.2] <;> rfl, by rw [e.out.1]; exact HO6.out, HB6.out⟩
set_option maxHeartbeats 4000000 in
theorem implCopyRegister (f t s : Int) (w : World) (ff : fit64 f) (ft : fit64 t) (fs : fit64 s) :
    Calls Try.prog 52 #[.int .i64 f, .int .i64 t, .int .i64 s] w fun e w' => ∃ u, e = .returned (.tuple #[u, .int .i64 (copC f t s)]) ∧ OwIns w' w.heap.size w'.heap.size u (copR f t s) ∧ Below w.heap.size w w' := by
  have HF := Lib.hid (copFit ff ft fs)
  have HO := Lib.hid (ow_block (B := w.heap.size) (zs := [f, t, s]) (Cels.new w 2 [.int .i64 f, .int .i64 t, .int .i64 s]) (Nat.le_refl _) (by simp) HF.out.1)
  have HW := Lib.hid ((Below.refl w.heap.size w).alloc (Nat.le_refl _) (.cells #[.int .i64 f, .int .i64 t, .int .i64 s] 2))
  obtain ⟨C, hC⟩ : ∃ C, C = regC [f, t, s] := ⟨_, rfl⟩
  have HC := Lib.hid hC
  clear hC ff ft fs
  go_enter Try.func52, Try.ntmps52
  go_wp2_with fail
  refine (implCode _ [f, t, s] _ HO.out.rd).mono ?_
  rintro e w2 ⟨rfl, hb⟩
  have HB2 := Lib.hid (HW.out.trans (hb.mono HW.out.size))
  rw [← HC.out]
  clear hb
  by_cases hc : C = 0
  rotate_left
  · have hq : (C != 0) = true := by simp [hc]
    have e := Lib.hid (cop_bad (f := f) (t := t) (s := s) (fun h => hc (HC.out.trans h)))
    clear hc
    go_wp2
    go_ret2
    exact ⟨_, by rw [e.out.2, ← HC.out] <;> rfl, by rw [e.out.1]; exact OwIns.emptyUp HB2.out.size, HB2.out⟩
  have hq : (C != 0) = false := by simp [hc]
  have e := Lib.hid (cop_good (HC.out.symm.trans hc))
  have HK := Lib.hid (cop_ok (HC.out.symm.trans hc))
  clear hc
  have HO2 := Lib.hid (ow_block (B := w2.heap.size) (zs := [t, s]) (Cels.new w2 2 [.int .i64 t, .int .i64 s]) (Nat.le_refl _) (by simp) HF.out.2.1)
  have HW2 := Lib.hid ((Below.refl w2.heap.size w2).alloc (Nat.le_refl _) (.cells #[.int .i64 t, .int .i64 s] 2))
  go_wp2_with fail
  refine (implMove f _ [t, s] _ HO2.out.rd HK.out.bf HK.out.d1 (by simp)).mono ?_
  rintro e1 w3 ⟨u1, rfl, ho, hb⟩
  have HB3 := Lib.hid (HB2.out.trans ((HW2.out.trans (hb.mono HW2.out.size)).mono HB2.out.size))
  have HO3 := Lib.hid ho
  obtain ⟨g1, c1, hu1⟩ := ho.shape
  subst hu1
  clear ho hb
  have HO4 := Lib.hid (ow_block (B := w3.heap.size) (zs := [f]) (Cels.new w3 2 [.int .i64 f]) (Nat.le_refl _) (by simp) HF.out.2.2)
  have HW4 := Lib.hid ((Below.refl w3.heap.size w3).alloc (Nat.le_refl _) (.cells #[.int .i64 f] 2))
  go_wp2_with fail
  refine (implMove s _ [f] _ HO4.out.rd HK.out.bs HK.out.d2 (by simp)).mono ?_
  rintro e1 w5 ⟨u2, rfl, ho, hb⟩
  have HX := Lib.hid (HW4.out.trans (hb.mono HW4.out.size))
  have HB5 := Lib.hid (HB3.out.trans (HX.out.mono HB3.out.size))
  have HR1 := Lib.hid (HO3.out.below HX.out HO3.out.size).rd
  have HR2 := Lib.hid ho.rd
  obtain ⟨g2, c2, hu2⟩ := ho.shape
  subst hu2
  clear ho hb
  have HE : Hid (joinR (moveL f [t, s]) (moveL s [f]) = copL f t s ∧ joinC (moveL f [t, s]) (moveL s [f]) = 0) := Lib.hid (by
    have h := join_good (progB_true HK.out.p1) (progB_true HK.out.p2)
    have k := fit_yes (l := joinL (moveL f [t, s]) (moveL s [f])) HK.out.l
    exact ⟨h.1.trans k.1, h.2.trans k.2⟩)
  go_wp2_with fail
  refine (implJoin _ _ _ _ _ HR1.out HR2.out).mono ?_
  rintro e1 w6 ⟨u3, rfl, ho, hb⟩
  rw [HE.out.1] at ho
  rw [HE.out.2]
  have HO6 := Lib.hid (ho.mono HB5.out.size (Nat.le_refl _) (Nat.le_refl _))
  have HB6 := Lib.hid (HB5.out.trans (hb.mono HB5.out.size))
  clear ho hb
  go_wp2_with fail
  go_ret2
  exact ⟨_, by rw [e.out.2] <;> rfl, by rw [e.out.1]; exact HO6.out, HB6.out⟩
end Go.Proofs.Ytfcakadmiflcdaa.Ints
