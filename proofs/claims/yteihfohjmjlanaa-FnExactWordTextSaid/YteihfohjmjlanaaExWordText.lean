/-   FnExactWordText: for any word the program's WordText answers as its model and leaves its argument alone. -/
import Derived.Test.YteihfohjmjlanaaRows
import Derived.WalkKit
import Derived.ProofKit
import Derived.OpenShut
import Derived.ShutString
import Derived.ChangeOld
import Derived.Below
import Derived.Lib.SmallJoins
import Derived.Deep.Strs
import Derived.OpenVars
import Derived.Handy
import Derived.Lib.Hide
import Derived.Test.YteihfohjmjlanaaWtT
import Derived.Test.YteihfohjmjlanaaCel
namespace Go.Proofs.Yteihfohjmjlanaa.fnExactWordText
open Go.ChangeShapes Go.WideShapes Go.ChangeAt Go.RowKit
set_option linter.unusedVariables false
set_option linter.unusedSimpArgs false

theorem own : ownKnob Try.prog.godebug = none := by kernel_rfl
theorem laidOut : laidOutB Try.prog = true := by kernel_rfl
open Ints

set_option maxHeartbeats 4000000 in
theorem walk (a0_0 : Option Addr) (len0_0 cap0_0 : Nat) (z0_0 : List Int) (w : World) (w0_0 : IsList w a0_0 len0_0 cap0_0 z0_0) :
    Calls Try.prog 3 #[.slice a0_0 len0_0 cap0_0] w fun e w' => e = .returned (.bool true) ∧ Below w.heap.size w w' := by
  by_cases hb0 : len0_0 ≤ 1048576
  rotate_left
  · have hc0 : (1048576 : Int) < (len0_0 : Int) := by omega
    go_enter Try.func3, Try.ntmps3
    go_wp2
    go_ret
    exact ⟨rfl, Below.refl _ _⟩
  have hd0 : ¬ (1048576 : Int) < (len0_0 : Int) := by omega
  obtain ⟨y0, hy0⟩ : ∃ y, y = z0_0.take len0_0 := ⟨_, rfl⟩
  have R0 : Hid (Rd w (.slice a0_0 len0_0 cap0_0) y0) := Lib.hid (by rw [hy0]; exact rd_of_row w0_0 hb0)
  clear hy0 w0_0 hb0
  have HT : Hid (Below w.heap.size w w) := Lib.hid (Below.refl _ _)
  go_enter Try.func3, Try.ntmps3
  go_wp2_with fail
  refine (toInts _ y0 _ (R0.out.below HT.out (Nat.le_refl _))).mono ?_
  rintro e v1 ⟨us0, rfl, os0, b1⟩
  replace HT := Lib.hid (HT.out.trans (b1.mono HT.out.size))
  have Xs0 := Lib.hid os0
  clear os0 b1
  go_wp2_with fail
  refine (specWtText _ y0 _ Xs0.out.rd).mono ?_
  rintro e v2 ⟨rfl, b2⟩
  replace HT := Lib.hid (HT.out.trans (b2.mono HT.out.size))
  clear b2
  obtain ⟨s, hs⟩ : ∃ s, s = bs (wtV y0) := ⟨_, rfl⟩
  have HS := Lib.hid hs
  rw [← hs]
  clear hs
  go_wp2_with fail
  refine (toInts _ y0 _ (R0.out.below HT.out (Nat.le_refl _))).mono ?_
  rintro e v3 ⟨ux0, rfl, ox0, b3⟩
  replace HT := Lib.hid (HT.out.trans (b3.mono HT.out.size))
  have Xx0 := Lib.hid ox0
  clear ox0 b3
  go_wp2_with fail
  refine (implWtText _ y0 _ Xx0.out.rd).mono ?_
  rintro e v4 ⟨rfl, b4⟩
  rw [← HS.out]
  replace Xx0 := Lib.hid (Xx0.out.below b4 Xx0.out.size)
  replace HT := Lib.hid (HT.out.trans (b4.mono HT.out.size))
  clear b4
  have es : (s.toList == s.toList) = true := by simp
  go_wp2_with fail
  refine (toInts _ y0 _ (R0.out.below HT.out (Nat.le_refl _))).mono ?_
  rintro e v5 ⟨uc0, rfl, oc0, b5⟩
  replace Xx0 := Lib.hid (Xx0.out.below b5 Xx0.out.size)
  replace HT := Lib.hid (HT.out.trans (b5.mono HT.out.size))
  have Xc0 := Lib.hid oc0
  clear oc0 b5
  go_wp2_with fail
  refine (eqInts _ _ _ _ Xx0.out.rd Xc0.out.rd).mono ?_
  rintro e v6 ⟨rfl, b6⟩
  replace HT := Lib.hid (HT.out.trans (b6.mono HT.out.size))
  clear b6
  go_wp2
  go_ret
  exact ⟨rfl, HT.out⟩

set_option maxRecDepth 100000 in
theorem lifted (os : Os) (started : os.Started) (H : Type) (enc : TypeId × Value → H) :
    ReturnsInHanded {} Try.checked os 3 .any (Rows.fnExactWordTextSpec.pre6 enc Try.prog Try.f3 Rows.fnExactWordTextRow.domain false) (Rows.fnExactWordTextSpec.post enc Try.prog Try.f3 false true false false) := by
  refine returnsInHanded_of_change (C := Try.checked) own started (by kernel_rfl) Try.func3
    (ChangeSpec.witness6 (enc := enc) (C := Try.checked) false ⟨#[], #[.slice none 0 0], []⟩ 8 (by kernel_rfl) (by kernel_rfl) (by kernel_rfl) (by kernel_rfl)) ?_
  intro W base args ds gs before hval0 hW hcnd _
  have hval : ∀ (j : Nat) t v, Try.f3.params[j]? = some t → args[j]? = some v → Value.okWide Try.prog W .any base t v := hval0
  have hW' := hW
  obtain ⟨p, q, hA0, hV, rfl, hfz, hnd⟩ := hW
  have hA : DataW.TrodAll enc Try.prog W 0 (fun _ => true) true Try.f3.params.toList args.toList ds p := hA0
  rw [Try.params3] at hA hval
  obtain ⟨v0, vs0, d0, ds0, p0, q0, hargs, rfl, rfl, h0, r0⟩ := trodAll_cons hA
  obtain ⟨rfl, rfl, rfl⟩ := trodAll_nil r0
  obtain rfl : args = #[v0] := by cases args; simp_all
  obtain ⟨rfl, rfl⟩ := trodVars_none hV
  have k0 := h0
  have lt0 : ∀ x ∈ p0, x.block < W.heap.size := by obtain ⟨m, hm⟩ := k0; exact DataW.trod_lt m _ _ _ hm
  obtain ⟨a0_0, len0_0, cap0_0, rfl⟩ := okWide_slice Try.underlying22 (hval 0 22 v0 rfl rfl)
  obtain ⟨z0_0, w0_0⟩ : ∃ zs, IsList W a0_0 len0_0 cap0_0 zs := by
    obtain ⟨fuel, hf⟩ := h0
    obtain ⟨a', len', cap', z', e', w'⟩ := open_list hf
    simp [Value.cells] at e'
    obtain ⟨rfl, rfl, rfl⟩ := e'
    exact ⟨z', w'⟩
  clear hA0 hval0
  refine (walk a0_0 len0_0 cap0_0 z0_0 W w0_0).mono fun e W' ⟨he, bel⟩ => ?_
  subst he
  exact ⟨_, rfl, _, _, _, [], _, [], hW', trodAll_mk1 (shut_bool Try.underlying4 _), (trodAll_cons_mk (Below.trod laidOut (by kernel_rfl) (of_decide_eq_true (by kernel_rfl)) k0 bel lt0) trodAll_mk0), rfl, bel.frame _, fun h => by cases h⟩

theorem over : Rows.fnExactWordTextRow.holds Try.pinned (OpenSpec.ofChange Rows.fnExactWordTextSpec) :=
  OpenClaim.holds_of_wide 3 Try.f3 rfl rfl rfl rfl rfl rfl rfl ⟨rfl, rfl, rfl, rfl, rfl⟩ rfl rfl rfl rfl rfl (by kernel_rfl) Try.func3 (by kernel_rfl)
    (of_decide_eq_true (by kernel_rfl)) (by unfold Func.isWrapper; first | (rw [if_pos (by decide +kernel)]; kernel_rfl) | (rw [if_neg (by decide +kernel)]; exact ⟨rfl, rfl⟩))
    (fun os started H enc _ => lifted os started H enc)

/-- The statement. -/
theorem proved : Rows.FnExactWordTextSaid := over
#print axioms proved
end Go.Proofs.Yteihfohjmjlanaa.fnExactWordText
