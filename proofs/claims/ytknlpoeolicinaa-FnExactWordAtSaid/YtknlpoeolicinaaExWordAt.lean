/-   FnExactWordAt: for every rank and number of letters the program's WordAt answers as its model, list and code, and its answer is its own. No condition. -/
import Derived.Test.YtknlpoeolicinaaRows
import Derived.WalkKit
import Derived.ProofKit
import Derived.OpenShut
import Derived.ShutString
import Derived.ChangeOld
import Derived.Below
import Derived.Handy
import Derived.Lib.Hide
import Derived.Test.YtknlpoeolicinaaWordAt
namespace Go.Proofs.Ytknlpoeolicinaa.fnExactWordAt
open Go.ChangeShapes Go.WideShapes Go.ChangeAt Go.RowKit
open Go.ChangeMaps (open_string shut_string)
set_option linter.unusedVariables false

theorem own : ownKnob Try.prog.godebug = none := by kernel_rfl

open Ints

set_option maxHeartbeats 4000000 in
theorem walk (a0 : Int) (a1 : Int) (w0 : (Lit.int .i64 a0).wf = true) (w1 : (Lit.int .i64 a1).wf = true) (w : World) :
    Calls Try.prog 12 #[.int .i64 a0, .int .i64 a1] w fun e w' => e = .returned (.bool true) ∧ Below w.heap.size w w' := by
  have HT : Hid (Below w.heap.size w w) := Lib.hid (Below.refl _ _)
  go_enter Try.func12, Try.ntmps12
  have Lw0 := Lib.hid HT.out.size
  go_wp2_with fail
  refine (specWordAt a0 a1 _ ).mono ?_
  rintro e v1 ⟨uw0, rfl, ow0, b1⟩
  replace HT := Lib.hid (HT.out.trans (b1.mono HT.out.size))
  have Xw0 := Lib.hid ow0
  clear ow0
  clear b1
  have Lg0 := Lib.hid HT.out.size
  have Tg0_w0 := Lib.hid Xw0.out.size
  go_wp2_with fail
  refine (implWordAt a0 a1 _ ).mono ?_
  rintro e v2 ⟨ug0, rfl, og0, b2⟩
  replace Xw0 := Lib.hid (Xw0.out.below b2 Xw0.out.size)
  replace HT := Lib.hid (HT.out.trans (b2.mono HT.out.size))
  have Xg0 := Lib.hid og0
  clear og0
  clear b2
  go_wp2_with fail
  refine (eqInts _ _ _ _ Xg0.out.rd Xw0.out.rd).mono ?_
  rintro e v3 ⟨rfl, b3⟩
  replace Xw0 := Lib.hid (Xw0.out.below b3 Xw0.out.size)
  replace Xg0 := Lib.hid (Xg0.out.below b3 Xg0.out.size)
  replace HT := Lib.hid (HT.out.trans (b3.mono HT.out.size))
  clear b3
  have s4w0 := (Xw0.out.apart Xg0.out (by have := Tg0_w0.out; omega)).1
  go_wp2_with fail
  refine (markInts _ _ 1 _ _ _ Xg0.out (by omega) (by omega)).mono ?_
  rintro e v4 ⟨rfl, o4, g4⟩
  replace Xw0 := Lib.hid (Xw0.out.grown g4 s4w0)
  clear s4w0
  replace HT := Lib.hid (HT.out.trans ((grown_below Xg0.out g4).mono (by have := Lg0.out; omega)))
  replace Xg0 := Lib.hid o4
  clear o4 g4
  go_wp2_with fail
  refine (heldInts _ _ 1 _ Xg0.out.rd (by omega) (by omega)).mono ?_
  rintro e v5 ⟨rfl, rfl⟩
  have Lh0 := Lib.hid HT.out.size
  have Th0_w0 := Lib.hid Xw0.out.size
  have Th0_g0 := Lib.hid Xg0.out.size
  go_wp2_with fail
  refine (implWordAt a0 a1 _ ).mono ?_
  rintro e v6 ⟨uh0, rfl, oh0, b6⟩
  replace Xw0 := Lib.hid (Xw0.out.below b6 Xw0.out.size)
  replace Xg0 := Lib.hid (Xg0.out.below b6 Xg0.out.size)
  replace HT := Lib.hid (HT.out.trans (b6.mono HT.out.size))
  have Xh0 := Lib.hid oh0
  clear oh0
  clear b6
  go_wp2_with fail
  refine (eqInts _ _ _ _ Xh0.out.rd Xw0.out.rd).mono ?_
  rintro e v7 ⟨rfl, b7⟩
  replace Xw0 := Lib.hid (Xw0.out.below b7 Xw0.out.size)
  replace Xg0 := Lib.hid (Xg0.out.below b7 Xg0.out.size)
  replace Xh0 := Lib.hid (Xh0.out.below b7 Xh0.out.size)
  replace HT := Lib.hid (HT.out.trans (b7.mono HT.out.size))
  clear b7
  go_wp2_with fail
  refine (heldInts _ _ 1 _ Xg0.out.rd (by omega) (by omega)).mono ?_
  rintro e v8 ⟨rfl, rfl⟩
  go_wp2
  go_ret
  exact ⟨rfl, HT.out⟩

/-! ### THE ROW's STEP: WRITTEN OUT: LEAVE IT -/
set_option maxRecDepth 100000 in
theorem lifted (os : Os) (started : os.Started) (H : Type) (enc : TypeId × Value → H) :
    ReturnsInHanded {} Try.checked os 12 .any (Rows.fnExactWordAtSpec.pre6 enc Try.prog Try.f12 Rows.fnExactWordAtRow.domain false) (Rows.fnExactWordAtSpec.post enc Try.prog Try.f12 false true false false) := by
  refine returnsInHanded_of_change (C := Try.checked) own started (by kernel_rfl) Try.func12
    (ChangeSpec.witness6 (enc := enc) (C := Try.checked) false ⟨#[], #[.int .i64 0, .int .i64 0], []⟩ 8 (by kernel_rfl) (by kernel_rfl) (by kernel_rfl) (by kernel_rfl)) ?_
  intro W base args ds gs before hval0 hW hcnd _
  have hval : ∀ (j : Nat) t v, Try.f12.params[j]? = some t → args[j]? = some v → Value.okWide Try.prog W .any base t v := hval0
  have hW' := hW
  obtain ⟨p, q, hA0, hV, rfl, hfz, hnd⟩ := hW
  have hA : DataW.TrodAll enc Try.prog W 0 (fun _ => true) true Try.f12.params.toList args.toList ds p := hA0
  rw [Try.params12] at hA hval
  obtain ⟨v0, vs0, d0, ds0, p0, q0, hargs, rfl, rfl, h0, r0⟩ := trodAll_cons hA
  obtain ⟨v1, vs1, d1, ds1, p1, q1, rfl, rfl, rfl, h1, r1⟩ := trodAll_cons r0
  obtain ⟨rfl, rfl, rfl⟩ := trodAll_nil r1
  obtain rfl : args = #[v0, v1] := by cases args; simp_all
  obtain ⟨rfl, rfl⟩ := trodVars_none hV
  obtain ⟨a0, rfl, rfl, rfl, w0⟩ := open_int Try.underlying2 (hval 0 2 v0 rfl rfl) h0
  obtain ⟨a1, rfl, rfl, rfl, w1⟩ := open_int Try.underlying2 (hval 1 2 v1 rfl rfl) h1
  clear hA0 hval0
  refine (walk a0 a1 w0 w1 W).mono fun e W' ⟨he, bel⟩ => ?_
  subst he
  exact ⟨_, rfl, _, _, _, [], _, [], hW', trodAll_mk1 (shut_bool Try.underlying4 _), (trodAll_cons_mk (shut_int Try.underlying2 w0) (trodAll_cons_mk (shut_int Try.underlying2 w1) trodAll_mk0)), rfl, bel.frame _, fun h => by cases h⟩

theorem over : Rows.fnExactWordAtRow.holds Try.pinned (OpenSpec.ofChange Rows.fnExactWordAtSpec) :=
  OpenClaim.holds_of_wide 12 Try.f12 rfl rfl rfl rfl rfl rfl rfl ⟨rfl, rfl, rfl, rfl, rfl⟩ rfl rfl rfl rfl rfl (by kernel_rfl) Try.func12 (by kernel_rfl)
    (of_decide_eq_true (by kernel_rfl)) (by unfold Func.isWrapper; first | (rw [if_pos (by decide +kernel)]; kernel_rfl) | (rw [if_neg (by decide +kernel)]; exact ⟨rfl, rfl⟩))
    (fun os started H enc _ => lifted os started H enc)

/-- ████ THE STATEMENT ████ -/
theorem proved : Rows.FnExactWordAtSaid :=
  over
#print axioms proved
end Go.Proofs.Ytknlpoeolicinaa.fnExactWordAt
