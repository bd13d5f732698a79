/-   FnExactMarkovText: for every list of Markov rules the program's MarkovText answers as its model, and leaves its arguments alone. No condition. -/
import Derived.Test.YthombjcjhnekpaaRows
import Derived.WalkKit
import Derived.ProofKit
import Derived.OpenShut
import Derived.ShutString
import Derived.ChangeOld
import Derived.Below
import Derived.Lib.SmallJoins
import Derived.Deep.Strs
import Derived.OpenVars
import Derived.ChangeMaps5
import Derived.Handy
import Derived.Lib.Hide
import Derived.Deep.RegionHeld3
import Derived.Test.YthombjcjhnekpaaMkT
namespace Go.Proofs.Ythombjcjhnekpaa.fnExactMarkovText
open Go.ChangeShapes Go.WideShapes Go.ChangeAt Go.RowKit
set_option linter.unusedVariables false
set_option linter.unusedSimpArgs false

theorem own : ownKnob Try.prog.godebug = none := by kernel_rfl
theorem laidOut : laidOutB Try.prog = true := by kernel_rfl
open Ints

set_option maxRecDepth 100000 in
set_option maxHeartbeats 8000000 in
theorem walk (a0_0 : Option Addr) (len0_0 cap0_0 : Nat) (z0_0 : List Min) (w : World) (w0_0 : IsMks w a0_0 len0_0 cap0_0 z0_0) :
    Calls Try.prog 9 #[.slice a0_0 len0_0 cap0_0] w fun e w' => e = .returned (.bool true) ∧ Below w.heap.size w w' := by
  have hz0 := w0_0.le
  obtain ⟨l0, hl0⟩ : ∃ l : Int, l = 1048576 - (len0_0 : Int) := ⟨_, rfl⟩
  obtain ⟨m0, hm0⟩ : ∃ m : Int, m = szM l0 (z0_0.take len0_0) := ⟨_, rfl⟩
  have HI := Lib.hid w0_0
  have HL := Lib.hid hl0
  have HM := Lib.hid hm0
  have HZ := Lib.hid hz0
  have hlen : 0 ≤ l0 → len0_0 ≤ 1048576 := fun h => by omega
  have HLEN := Lib.hid hlen
  have HQ : Hid (l0 ≤ 1048576) := Lib.hid (by omega)
  clear hl0 hm0 hz0 hlen w0_0
  by_cases h0 : 0 ≤ l0
  rotate_left
  · have h1 : l0 < 0 := by omega
    go_enter Try.func9, Try.ntmps9
    go_wp2_with fail
    refine (szMks_bad _ _ _ _ HZ.out (by omega) HL.out h1).mono ?_
    rintro e v0 ⟨rfl, b0⟩
    have HT := Lib.hid b0
    clear b0
    go_wp2
    go_ret
    exact ⟨rfl, HT.out⟩
  by_cases h2 : 0 ≤ m0
  rotate_left
  · have h3 : m0 < 0 := by omega
    go_enter Try.func9, Try.ntmps9
    go_wp2_with fail
    refine (szMks _ _ _ z0_0 _ HI.out (by omega) HL.out h0).mono ?_
    rintro e v0 ⟨rfl, b0⟩
    rw [← HM.out]
    have HT := Lib.hid b0
    clear b0
    go_wp2
    go_ret
    exact ⟨rfl, HT.out⟩
  obtain ⟨y0, hy0⟩ : ∃ y, y = (z0_0.take len0_0).map Min.mr := ⟨_, rfl⟩
  have R0 : Hid (RdM w (.slice a0_0 len0_0 cap0_0) y0) := Lib.hid (by rw [hy0]; exact rdm_of_row HI.out (HLEN.out h0) (szM_good _ l0 (by rw [← HM.out]; exact h2) HQ.out))
  have hn : ¬ m0 < 0 := by omega
  clear hy0
  go_enter Try.func9, Try.ntmps9
  go_wp2_with fail
  refine (szMks _ _ _ z0_0 _ HI.out (by omega) HL.out h0).mono ?_
  rintro e v0 ⟨rfl, b0⟩
  rw [← HM.out]
  have HT := Lib.hid b0
  clear b0 HL HM HI h0
  go_wp2_with fail
  refine (toMks _ y0 _ (R0.out.below HT.out (Nat.le_refl _))).mono ?_
  rintro e v1 ⟨us0, rfl, rs0, b1⟩
  replace HT := Lib.hid (HT.out.trans (b1.mono HT.out.size))
  clear b1
  replace rs0 := rs0.rdm
  obtain ⟨gas0, gcs0, hus0, _⟩ := rs0.val
  subst hus0
  have Xs0 := Lib.hid rs0
  clear rs0
  go_wp2_with fail
  refine (specMkText _ y0 _ Xs0.out).mono ?_
  rintro e v2 ⟨rfl, b2⟩
  replace Xs0 := Lib.hid (Xs0.out.below b2 (Nat.le_refl _))
  replace HT := Lib.hid (HT.out.trans (b2.mono HT.out.size))
  clear b2
  clear Xs0
  go_wp2_with fail
  refine (toMks _ y0 _ (R0.out.below HT.out (Nat.le_refl _))).mono ?_
  rintro e v3 ⟨ux0, rfl, rx0, b3⟩
  replace HT := Lib.hid (HT.out.trans (b3.mono HT.out.size))
  clear b3
  replace rx0 := rx0.rdm
  obtain ⟨gax0, gcx0, hux0, _⟩ := rx0.val
  subst hux0
  have Xx0 := Lib.hid rx0
  clear rx0
  go_wp2_with fail
  refine (implMkText _ y0 _ Xx0.out).mono ?_
  rintro e v4 ⟨rfl, b4⟩
  replace Xx0 := Lib.hid (Xx0.out.below b4 (Nat.le_refl _))
  replace HT := Lib.hid (HT.out.trans (b4.mono HT.out.size))
  clear b4
  go_wp2_with fail
  refine (toMks _ y0 _ (R0.out.below HT.out (Nat.le_refl _))).mono ?_
  rintro e v5 ⟨uc0, rfl, rc0, b5⟩
  replace Xx0 := Lib.hid (Xx0.out.below b5 (Nat.le_refl _))
  replace HT := Lib.hid (HT.out.trans (b5.mono HT.out.size))
  clear b5
  replace rc0 := rc0.rdm
  obtain ⟨gac0, gcc0, huc0, _⟩ := rc0.val
  subst huc0
  have Xc0 := Lib.hid rc0
  clear rc0
  go_wp2_with fail
  refine (eqMks _ _ y0 _ Xx0.out Xc0.out).mono ?_
  rintro e v6 ⟨rfl, b6⟩
  replace Xx0 := Lib.hid (Xx0.out.below b6 (Nat.le_refl _))
  replace Xc0 := Lib.hid (Xc0.out.below b6 (Nat.le_refl _))
  replace HT := Lib.hid (HT.out.trans (b6.mono HT.out.size))
  clear b6
  go_wp2
  go_ret
  exact ⟨rfl, HT.out⟩

set_option maxRecDepth 100000 in
theorem lifted (os : Os) (started : os.Started) (H : Type) (enc : TypeId × Value → H) :
    ReturnsInHanded {} Try.checked os 9 .any (Rows.fnExactMarkovTextSpec.pre6 enc Try.prog Try.f9 Rows.fnExactMarkovTextRow.domain false) (Rows.fnExactMarkovTextSpec.post enc Try.prog Try.f9 false true false false) := by
  refine returnsInHanded_of_change (C := Try.checked) own started (by kernel_rfl) Try.func9
    (ChangeSpec.witness6 (enc := enc) (C := Try.checked) false ⟨#[], #[.slice none 0 0], []⟩ 8 (by kernel_rfl) (by kernel_rfl) (by kernel_rfl) (by kernel_rfl)) ?_
  intro W base args ds gs before hval0 hW hcnd _
  have hval : ∀ (j : Nat) t v, Try.f9.params[j]? = some t → args[j]? = some v → Value.okWide Try.prog W .any base t v := hval0
  have hW' := hW
  obtain ⟨p, q, hA0, hV, rfl, hfz, hnd⟩ := hW
  have hA : DataW.TrodAll enc Try.prog W 0 (fun _ => true) true Try.f9.params.toList args.toList ds p := hA0
  rw [Try.params9] at hA hval
  obtain ⟨v0, vs0, d0, ds0, p0, q0, hargs, rfl, rfl, h0, r0⟩ := trodAll_cons hA
  obtain ⟨rfl, rfl, rfl⟩ := trodAll_nil r0
  obtain rfl : args = #[v0] := by cases args; simp_all
  obtain ⟨rfl, rfl⟩ := trodVars_none hV
  have k0 := h0
  have lt0 : ∀ x ∈ p0, x.block < W.heap.size := by obtain ⟨m, hm⟩ := k0; exact DataW.trod_lt m _ _ _ hm
  obtain ⟨a0_0, len0_0, cap0_0, rfl⟩ := okWide_slice Try.underlying36 (hval 0 36 v0 rfl rfl)
  obtain ⟨z0_0, w0_0⟩ : ∃ zs, IsMks W a0_0 len0_0 cap0_0 zs := by
    obtain ⟨fuel, hf⟩ := h0
    obtain ⟨a', len', cap', z', e', w'⟩ := open_mks hf
    simp [Value.cells] at e'
    obtain ⟨rfl, rfl, rfl⟩ := e'
    exact ⟨z', w'⟩
  clear hA0 hval0
  refine (walk a0_0 len0_0 cap0_0 z0_0 W w0_0).mono fun e W' ⟨he, bel⟩ => ?_
  subst he
  exact ⟨_, rfl, _, _, _, [], _, [], hW', trodAll_mk1 (shut_bool Try.underlying4 _), (trodAll_cons_mk (Below.trod laidOut (by kernel_rfl) (of_decide_eq_true (by kernel_rfl)) k0 bel lt0) trodAll_mk0), rfl, bel.frame _, fun h => by cases h⟩

theorem over : Rows.fnExactMarkovTextRow.holds Try.pinned (OpenSpec.ofChange Rows.fnExactMarkovTextSpec) :=
  OpenClaim.holds_of_wide 9 Try.f9 rfl rfl rfl rfl rfl rfl rfl ⟨rfl, rfl, rfl, rfl, rfl⟩ rfl rfl rfl rfl rfl (by kernel_rfl) Try.func9 (by kernel_rfl)
    (of_decide_eq_true (by kernel_rfl)) (by unfold Func.isWrapper; first | (rw [if_pos (by decide +kernel)]; kernel_rfl) | (rw [if_neg (by decide +kernel)]; exact ⟨rfl, rfl⟩))
    (fun os started H enc _ => lifted os started H enc)

/-- The statement. -/
theorem proved : Rows.FnExactMarkovTextSaid := over
#print axioms proved
end Go.Proofs.Ythombjcjhnekpaa.fnExactMarkovText
