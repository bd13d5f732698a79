/- Contracts of SubtractNaturals, of the model and of the program. -/
import Derived.Test.YtfnopnaaahkklaaSub
import Derived.Test.YtfnopnaaahkklaaCmpNat2
namespace Go.Proofs.Ytfnopnaaahkklaa.Ints
open Go.RowKit
set_option linter.unusedVariables false

noncomputable def sbL (ps qs : List Int) : List Int := if natB ps = true ∧ natB qs = true ∧ val qs ≤ val ps then canOf (val ps - val qs) else []
noncomputable def sbC (ps qs : List Int) : Int := if natB ps = true ∧ natB qs = true then (if val qs ≤ val ps then 0 else 2) else 1
theorem sb_bad {ps qs : List Int} (h : ¬ (natB ps = true ∧ natB qs = true)) : sbL ps qs = [] ∧ sbC ps qs = 1 := by
  refine ⟨?_, by rw [sbC, if_neg h]⟩
  rw [sbL, if_neg (fun g => h ⟨g.1, g.2.1⟩)]
theorem sb_less {ps qs : List Int} (h : natB ps = true) (k : natB qs = true) (hc : cmpN ps qs < 0) : sbL ps qs = [] ∧ sbC ps qs = 2 := by
  rw [cmpN_val (natB_can h).1 (natB_can k).1, sgn_neg] at hc
  exact ⟨by rw [sbL, if_neg (fun g => by omega)], by rw [sbC, if_pos ⟨h, k⟩, if_neg (by omega)]⟩
theorem sb_good {ps qs : List Int} (h : natB ps = true) (k : natB qs = true) (hc : ¬ cmpN ps qs < 0) : sbL ps qs = canOf (val ps - val qs) ∧ sbC ps qs = 0 ∧ val qs ≤ val ps := by
  rw [cmpN_val (natB_can h).1 (natB_can k).1, sgn_neg] at hc
  exact ⟨by rw [sbL, if_pos ⟨h, k, by omega⟩], by rw [sbC, if_pos ⟨h, k⟩, if_pos (by omega)], by omega⟩
theorem implSubtractNaturals (u : Value) (ps : List Int) (v : Value) (qs : List Int) (w : World) (hu : Rd w u ps) (hv : Rd w v qs) :
    Calls Try.prog 32 #[u, v] w fun e w' => ∃ r, e = .returned (.tuple #[r, .int .i64 (sbC ps qs)]) ∧ Ow w' w.heap.size w'.heap.size r (sbL ps qs) ∧ Below w.heap.size w w' := by
  have hb0 : Below w.heap.size w (w.alloc (Obj.cells #[u, v] 22)) := (Below.refl _ _).alloc (Nat.le_refl _) _
  have HL := Lib.hid (rdl_two hu hv)
  have HU := Lib.hid hu
  have HV := Lib.hid hv
  have HB0 := Lib.hid hb0
  obtain ⟨_, _, a, c, rfl, _, _⟩ := hu
  obtain ⟨_, _, a', c', rfl, _, _⟩ := hv
  clear hb0
  rcases eq_or (natB ps && natB qs) with hx | hx
  · have HX : Hid (allN [ps, qs] = false) := Lib.hid (by rw [allN_two]; exact hx)
    have HR := Lib.hid (sb_bad (ps := ps) (qs := qs) (fun h => by rw [h.1, h.2] at hx; cases hx))
    clear hx
    go_enter Try.func32, Try.ntmps32
    go_wp2_with (go_at_call 38; refine (areNats_any _ [ps, qs] _ HL.out).mono ?_; rintro e w1 ⟨rfl, hb⟩; rw [HX.out]; have HB := Lib.hid (HB0.out.trans (hb.mono (by simp))); clear hb)
    go_ret2
    exact ⟨_, by rw [HR.out.2] <;> rfl, by rw [HR.out.1]; exact Ow.nilUp HB.out.size, HB.out⟩
  have HX : Hid (allN [ps, qs] = true) := Lib.hid (by rw [allN_two]; exact hx)
  have hxy : natB ps = true ∧ natB qs = true := by simpa using hx
  have HP := Lib.hid (natB_can hxy.1)
  have HQ := Lib.hid (natB_can hxy.2)
  obtain ⟨q, hq⟩ : ∃ q, q = cmpN ps qs := ⟨_, rfl⟩
  have HQQ := Lib.hid hq
  by_cases hc : q < 0
  · have HR := Lib.hid (sb_less hxy.1 hxy.2 (by rw [← hq]; exact hc))
    clear hx hxy hq
    go_enter Try.func32, Try.ntmps32
    go_wp2_with fail
    refine (areNats_any _ [ps, qs] _ HL.out).mono ?_
    rintro e w1 ⟨rfl, hb⟩
    rw [HX.out]
    have HB := Lib.hid (HB0.out.trans (hb.mono (by simp)))
    clear hb
    go_wp2_with fail
    refine (implCmpLimbs _ _ ps qs _ (HU.out.below HB.out (Nat.le_refl _)) (HV.out.below HB.out (Nat.le_refl _))).mono ?_
    rintro e w2 ⟨rfl, hb⟩
    rw [← HQQ.out]
    have HB2 := Lib.hid (HB.out.trans (hb.mono HB.out.size))
    clear hb
    go_wp2
    go_ret2
    exact ⟨_, by rw [HR.out.2] <;> rfl, by rw [HR.out.1]; exact Ow.nilUp HB2.out.size, HB2.out⟩
  · have HR := Lib.hid (sb_good hxy.1 hxy.2 (by rw [← hq]; exact hc))
    clear hx hxy hq
    go_enter Try.func32, Try.ntmps32
    go_wp2_with fail
    refine (areNats_any _ [ps, qs] _ HL.out).mono ?_
    rintro e w1 ⟨rfl, hb⟩
    rw [HX.out]
    have HB := Lib.hid (HB0.out.trans (hb.mono (by simp)))
    clear hb
    go_wp2_with fail
    refine (implCmpLimbs _ _ ps qs _ (HU.out.below HB.out (Nat.le_refl _)) (HV.out.below HB.out (Nat.le_refl _))).mono ?_
    rintro e w2 ⟨rfl, hb⟩
    rw [← HQQ.out]
    have HB2 := Lib.hid (HB.out.trans (hb.mono HB.out.size))
    clear hb
    go_wp2_with fail
    refine (implSub _ _ ps qs _ (HU.out.below HB2.out (Nat.le_refl _)) (HV.out.below HB2.out (Nat.le_refl _)) HP.out.1 HQ.out.1 (by have := HP.out.2; omega) HR.out.2.2).mono ?_
    rintro e w3 ⟨r, rfl, ho, hb⟩
    have HO := Lib.hid (ho.mono HB2.out.size (Nat.le_refl _) (Nat.le_refl _))
    have HB3 := Lib.hid (HB2.out.trans (hb.mono HB2.out.size))
    clear ho hb
    go_wp2
    go_ret2
    exact ⟨_, by rw [HR.out.2.1] <;> rfl, by rw [HR.out.1]; exact HO.out, HB3.out⟩
end Go.Proofs.Ytfnopnaaahkklaa.Ints
