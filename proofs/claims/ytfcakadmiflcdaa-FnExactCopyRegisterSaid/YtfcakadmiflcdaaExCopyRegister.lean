/-   FnExactCopyRegister: for every three numbers the program's CopyRegister answers as its model, and its answer owns its memory. No condition. -/
import Derived.Test.YtfcakadmiflcdaaRows
import Derived.WalkKit
import Derived.ProofKit
import Derived.OpenShut
import Derived.ShutString
import Derived.ChangeOld
import Derived.Below
import Derived.Lib.SmallJoins
import Derived.Deep.Strs
import Derived.OpenVars
import Derived.Handy
import Derived.Lib.Hide
import Derived.Deep.RegionHeld3
import Derived.Test.YtfcakadmiflcdaaCop
namespace Go.Proofs.Ytfcakadmiflcdaa.fnExactCopyRegister
open Go.ChangeShapes Go.WideShapes Go.ChangeAt Go.RowKit
set_option linter.unusedVariables false
set_option linter.unusedSimpArgs false

theorem own : ownKnob Try.prog.godebug = none := by kernel_rfl
theorem laidOut : laidOutB Try.prog = true := by kernel_rfl
open Ints

set_option maxHeartbeats 8000000 in
theorem walk (a0 : Int) (a1 : Int) (a2 : Int) (w : World) (w0 : (Lit.int .i64 a0).wf = true) (w1 : (Lit.int .i64 a1).wf = true) (w2 : (Lit.int .i64 a2).wf = true) :
    Calls Try.prog 14 #[.int .i64 a0, .int .i64 a1, .int .i64 a2] w fun e w' => e = .returned (.bool true) ∧ Below w.heap.size w w' := by
  have HF0 := Lib.hid (And.intro (bounds_i64 w0) (And.intro (bounds_i64 w1) (bounds_i64 w2)))
  have HB0 : Hid (Below w.heap.size w w) := Lib.hid (Below.refl _ _)
  have HT : Hid (Below w.heap.size w w) := Lib.hid (Below.refl _ _)
  go_enter Try.func14, Try.ntmps14
  go_wp2_with fail
  have HT : Hid (Below w.heap.size w w) := Lib.hid (Below.refl _ _)
  refine (specCopyRegister a0 a1 a2 _  HF0.out.1 HF0.out.2.1 HF0.out.2.2).mono ?_
  rintro e v1 ⟨uw0_0, rfl, ow0_0, b1⟩
  have Lw0_0 := Lib.hid HT.out.size
  replace HT := Lib.hid (HT.out.trans (b1.mono HT.out.size))
  have Xw0_0 := Lib.hid ow0_0
  obtain ⟨gaw0_0, gcw0_0, huw0_0⟩ := ow0_0.shape
  subst huw0_0
  clear ow0_0
  clear b1
  go_wp2_with fail
  refine (implCopyRegister a0 a1 a2 _  HF0.out.1 HF0.out.2.1 HF0.out.2.2).mono ?_
  rintro e v2 ⟨ug0_0, rfl, og0_0, b2⟩
  have Sw0_0_g0_0 := Lib.hid (sep_of Xw0_0.out.top og0_0.row.lt Xw0_0.out.size)
  have Lg0_0 := Lib.hid HT.out.size
  replace Xw0_0 := Lib.hid (Xw0_0.out.below b2 Xw0_0.out.size)
  replace HT := Lib.hid (HT.out.trans (b2.mono HT.out.size))
  have Xg0_0 := Lib.hid og0_0
  obtain ⟨gag0_0, gcg0_0, hug0_0⟩ := og0_0.shape
  subst hug0_0
  clear og0_0
  clear b2
  go_wp2_with fail
  refine (eqIns  _ _ _ _ Xg0_0.out.rd Xw0_0.out.rd).mono ?_
  rintro e v3 ⟨rfl, b3⟩
  replace Xw0_0 := Lib.hid (Xw0_0.out.below b3 Xw0_0.out.size)
  replace Xg0_0 := Lib.hid (Xg0_0.out.below b3 Xg0_0.out.size)
  replace HT := Lib.hid (HT.out.trans (b3.mono HT.out.size))
  clear b3
  have N0_0 := Xg0_0.out.len
  go_wp2_with fail
  refine (markIns  _ _ 1 _ _ _ Xg0_0.out (by omega) (by omega)).mono ?_
  rintro e v4 ⟨rfl, o4, g4⟩
  replace Xw0_0 := Lib.hid (Xw0_0.out.grown g4 Sw0_0_g0_0.out.1)
  replace HT := Lib.hid (HT.out.trans ((Xg0_0.out.gb g4).mono Lg0_0.out))
  replace Xg0_0 := Lib.hid o4
  clear o4 g4
  go_wp2_with fail
  refine (heldIns  _ _ 1 _ Xg0_0.out.rd (by omega) (by omega)).mono ?_
  rintro e v5 ⟨rfl, b5⟩
  replace Xw0_0 := Lib.hid (Xw0_0.out.below b5 Xw0_0.out.size)
  replace Xg0_0 := Lib.hid (Xg0_0.out.below b5 Xg0_0.out.size)
  replace HT := Lib.hid (HT.out.trans (b5.mono HT.out.size))
  clear b5
  go_wp2_with fail
  refine (implCopyRegister a0 a1 a2 _  HF0.out.1 HF0.out.2.1 HF0.out.2.2).mono ?_
  rintro e v6 ⟨uh0_0, rfl, oh0_0, b6⟩
  have Sw0_0_h0_0 := Lib.hid (sep_of Xw0_0.out.top oh0_0.row.lt Xw0_0.out.size)
  have Sg0_0_h0_0 := Lib.hid (sep_of Xg0_0.out.top oh0_0.row.lt Xg0_0.out.size)
  have Lh0_0 := Lib.hid HT.out.size
  replace Xw0_0 := Lib.hid (Xw0_0.out.below b6 Xw0_0.out.size)
  replace Xg0_0 := Lib.hid (Xg0_0.out.below b6 Xg0_0.out.size)
  replace HT := Lib.hid (HT.out.trans (b6.mono HT.out.size))
  have Xh0_0 := Lib.hid oh0_0
  obtain ⟨gah0_0, gch0_0, huh0_0⟩ := oh0_0.shape
  subst huh0_0
  clear oh0_0
  clear b6
  go_wp2_with fail
  refine (eqIns  _ _ _ _ Xh0_0.out.rd Xw0_0.out.rd).mono ?_
  rintro e v7 ⟨rfl, b7⟩
  replace Xw0_0 := Lib.hid (Xw0_0.out.below b7 Xw0_0.out.size)
  replace Xg0_0 := Lib.hid (Xg0_0.out.below b7 Xg0_0.out.size)
  replace Xh0_0 := Lib.hid (Xh0_0.out.below b7 Xh0_0.out.size)
  replace HT := Lib.hid (HT.out.trans (b7.mono HT.out.size))
  clear b7
  go_wp2_with fail
  refine (heldIns  _ _ 1 _ Xg0_0.out.rd (by omega) (by omega)).mono ?_
  rintro e v8 ⟨rfl, b8⟩
  replace Xw0_0 := Lib.hid (Xw0_0.out.below b8 Xw0_0.out.size)
  replace Xg0_0 := Lib.hid (Xg0_0.out.below b8 Xg0_0.out.size)
  replace Xh0_0 := Lib.hid (Xh0_0.out.below b8 Xh0_0.out.size)
  replace HT := Lib.hid (HT.out.trans (b8.mono HT.out.size))
  clear b8
  go_wp2
  go_ret
  exact ⟨rfl, HB0.out.trans (HT.out.mono HB0.out.size)⟩

set_option maxRecDepth 100000 in
theorem lifted (os : Os) (started : os.Started) (H : Type) (enc : TypeId × Value → H) :
    ReturnsInHanded {} Try.checked os 14 .any (Rows.fnExactCopyRegisterSpec.pre6 enc Try.prog Try.f14 Rows.fnExactCopyRegisterRow.domain false) (Rows.fnExactCopyRegisterSpec.post enc Try.prog Try.f14 false true false false) := by
  refine returnsInHanded_of_change (C := Try.checked) own started (by kernel_rfl) Try.func14
    (ChangeSpec.witness6 (enc := enc) (C := Try.checked) false ⟨#[], #[.int .i64 0, .int .i64 0, .int .i64 0], []⟩ 8 (by kernel_rfl) (by kernel_rfl) (by kernel_rfl) (by kernel_rfl)) ?_
  intro W base args ds gs before hval0 hW hcnd _
  have hval : ∀ (j : Nat) t v, Try.f14.params[j]? = some t → args[j]? = some v → Value.okWide Try.prog W .any base t v := hval0
  have hW' := hW
  obtain ⟨p, q, hA0, hV, rfl, hfz, hnd⟩ := hW
  have hA : DataW.TrodAll enc Try.prog W 0 (fun _ => true) true Try.f14.params.toList args.toList ds p := hA0
  rw [Try.params14] at hA hval
  obtain ⟨v0, vs0, d0, ds0, p0, q0, hargs, rfl, rfl, h0, r0⟩ := trodAll_cons hA
  obtain ⟨v1, vs1, d1, ds1, p1, q1, rfl, rfl, rfl, h1, r1⟩ := trodAll_cons r0
  obtain ⟨v2, vs2, d2, ds2, p2, q2, rfl, rfl, rfl, h2, r2⟩ := trodAll_cons r1
  obtain ⟨rfl, rfl, rfl⟩ := trodAll_nil r2
  obtain rfl : args = #[v0, v1, v2] := by cases args; simp_all
  obtain ⟨rfl, rfl⟩ := trodVars_none hV
  obtain ⟨a0, rfl, rfl, rfl, w0⟩ := open_int Try.underlying2 (hval 0 2 v0 rfl rfl) h0
  obtain ⟨a1, rfl, rfl, rfl, w1⟩ := open_int Try.underlying2 (hval 1 2 v1 rfl rfl) h1
  obtain ⟨a2, rfl, rfl, rfl, w2⟩ := open_int Try.underlying2 (hval 2 2 v2 rfl rfl) h2
  clear hA0 hval0
  refine (walk a0 a1 a2 W w0 w1 w2).mono fun e W' ⟨he, bel⟩ => ?_
  subst he
  exact ⟨_, rfl, _, _, _, [], _, [], hW', trodAll_mk1 (shut_bool Try.underlying4 _), (trodAll_cons_mk (shut_int Try.underlying2 w0) (trodAll_cons_mk (shut_int Try.underlying2 w1) (trodAll_cons_mk (shut_int Try.underlying2 w2) trodAll_mk0))), rfl, bel.frame _, fun h => by cases h⟩

theorem over : Rows.fnExactCopyRegisterRow.holds Try.pinned (OpenSpec.ofChange Rows.fnExactCopyRegisterSpec) :=
  OpenClaim.holds_of_wide 14 Try.f14 rfl rfl rfl rfl rfl rfl rfl ⟨rfl, rfl, rfl, rfl, rfl⟩ rfl rfl rfl rfl rfl (by kernel_rfl) Try.func14 (by kernel_rfl)
    (of_decide_eq_true (by kernel_rfl)) (by unfold Func.isWrapper; first | (rw [if_pos (by decide +kernel)]; kernel_rfl) | (rw [if_neg (by decide +kernel)]; exact ⟨rfl, rfl⟩))
    (fun os started H enc _ => lifted os started H enc)

/-- The statement. -/
theorem proved : Rows.FnExactCopyRegisterSaid := over
#print axioms proved
end Go.Proofs.Ytfcakadmiflcdaa.fnExactCopyRegister
