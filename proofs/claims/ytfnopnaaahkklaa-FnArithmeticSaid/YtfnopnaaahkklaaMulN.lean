/- Contracts of MultiplyNaturals, of the model and of the program. -/
import Derived.Test.YtfnopnaaahkklaaMul2
import Derived.Test.YtfnopnaaahkklaaFit
namespace Go.Proofs.Ytfnopnaaahkklaa.Ints
open Go.RowKit
set_option linter.unusedVariables false

noncomputable def mulL (ps qs : List Int) : List Int := if natB ps = true ∧ natB qs = true then fitL (canOf (val ps * val qs)) else []
noncomputable def mulC (ps qs : List Int) : Int := if natB ps = true ∧ natB qs = true then fitC (canOf (val ps * val qs)) else 1
theorem mul_good {ps qs : List Int} (h : natB ps = true) (k : natB qs = true) : mulL ps qs = fitL (canOf (val ps * val qs)) ∧ mulC ps qs = fitC (canOf (val ps * val qs)) := by
  simp only [mulL, mulC, h, k, and_self, if_true]
theorem mul_bad {ps qs : List Int} (h : ¬ (natB ps = true ∧ natB qs = true)) : mulL ps qs = [] ∧ mulC ps qs = 1 := by
  simp only [mulL, mulC, if_neg h]; exact ⟨trivial, trivial⟩

theorem implMultiplyNaturals (u : Value) (ps : List Int) (v : Value) (qs : List Int) (w : World) (hu : Rd w u ps) (hv : Rd w v qs) :
    Calls Try.prog 34 #[u, v] w fun e w' => ∃ r, e = .returned (.tuple #[r, .int .i64 (mulC ps qs)]) ∧ Ow w' w.heap.size w'.heap.size r (mulL ps qs) ∧ Below w.heap.size w w' := by
  have hb0 : Below w.heap.size w (w.alloc (Obj.cells #[u, v] 22)) := (Below.refl _ _).alloc (Nat.le_refl _) _
  have HU := Lib.hid (hu.below hb0 (Nat.le_refl _))
  have HV := Lib.hid (hv.below hb0 (Nat.le_refl _))
  have H0 : Hid ((w.alloc (Obj.cells #[u, v] 22)).cell? ⟨w.heap.size, 0, none⟩ = some u) := Lib.hid (by simp [World.cell?_alloc_at])
  have H1 : Hid ((w.alloc (Obj.cells #[u, v] 22)).cell? ⟨w.heap.size, 1, none⟩ = some v) := Lib.hid (by simp [World.cell?_alloc_at])
  have HS : Hid (w.heap.size < (w.alloc (Obj.cells #[u, v] 22)).heap.size) := Lib.hid (by simp)
  have HB0 := Lib.hid hb0
  obtain ⟨_, _, a, c, rfl, _, _⟩ := hu
  obtain ⟨_, _, a', c', rfl, _, _⟩ := hv
  clear hb0
  rcases eq_or (natB ps && natB qs) with hx | hx
  · have HX := Lib.hid hx
    have HR := Lib.hid (mul_bad (ps := ps) (qs := qs) (fun h => by rw [h.1, h.2] at hx; cases hx))
    clear hx
    go_enter Try.func34, Try.ntmps34
    go_wp2_with (go_at_call 38; refine (areTwo _ _ _ ps qs _ HU.out HV.out H0.out H1.out HS.out).mono ?_; rintro e w1 ⟨rfl, hb⟩; rw [HX.out]; have HB := Lib.hid (HB0.out.trans (hb.mono (by simp))); clear hb)
    go_ret2
    exact ⟨_, by rw [HR.out.2] <;> rfl, by rw [HR.out.1]; exact Ow.nilUp HB.out.size, HB.out⟩
  · have HX := Lib.hid hx
    have hxy : natB ps = true ∧ natB qs = true := by simpa using hx
    have HR := Lib.hid (mul_good hxy.1 hxy.2)
    have HP := Lib.hid (natB_can hxy.1)
    have HQ := Lib.hid (natB_can hxy.2)
    clear hx hxy
    go_enter Try.func34, Try.ntmps34
    go_wp2_with fail
    refine (areTwo _ _ _ ps qs _ HU.out HV.out H0.out H1.out HS.out).mono ?_
    rintro e w1 ⟨rfl, hb⟩
    rw [HX.out]
    have HU3 := Lib.hid (HU.out.below hb (Nat.le_refl _))
    have HV3 := Lib.hid (HV.out.below hb (Nat.le_refl _))
    have HB := Lib.hid (HB0.out.trans (hb.mono (by simp)))
    clear hb
    go_wp2_with fail
    refine (implMul _ _ ps qs _ HU3.out HV3.out HP.out.1 HQ.out.1 (by have := HP.out.2; omega) (by have := HQ.out.2; omega)).mono ?_
    rintro e w2 ⟨r, rfl, ho, hb⟩
    have HO := Lib.hid (ho.mono HB.out.size (Nat.le_refl _) (Nat.le_refl _))
    have HB2 := Lib.hid (HB.out.trans (hb.mono HB.out.size))
    clear ho hb
    go_wp2_with fail
    refine (implFit _ _ _ _ _ HO.out).mono ?_
    rintro e w3 ⟨r2, rfl, ho, rfl⟩
    have HO2 := Lib.hid ho
    clear ho
    go_wp2
    go_ret2
    exact ⟨_, by rw [HR.out.2] <;> rfl, by rw [HR.out.1]; exact HO2.out, HB2.out⟩
end Go.Proofs.Ytfnopnaaahkklaa.Ints
