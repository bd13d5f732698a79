/-   FnExactReduceFractions: for every list of fractions the program's ReduceFractions answers as its model, leaves its argument alone, and its answer owns its memory. No condition. -/
import Derived.Test.YtadfknafcamamaaRows
import Derived.WalkKit
import Derived.ProofKit
import Derived.OpenShut
import Derived.ShutString
import Derived.ChangeOld
import Derived.Below
import Derived.Lib.SmallJoins
import Derived.Deep.Strs
import Derived.OpenVars
import Derived.Handy
import Derived.Lib.Hide
import Derived.Deep.RegionHeld3
import Derived.Test.YtadfknafcamamaaFrcT
namespace Go.Proofs.Ytadfknafcamamaa.fnExactReduceFractions
open Go.ChangeShapes Go.WideShapes Go.ChangeAt Go.RowKit
set_option linter.unusedVariables false
set_option linter.unusedSimpArgs false

theorem own : ownKnob Try.prog.godebug = none := by kernel_rfl
theorem laidOut : laidOutB Try.prog = true := by kernel_rfl
open Ints

set_option maxHeartbeats 8000000 in
theorem walk (a0_0 : Option Addr) (len0_0 cap0_0 : Nat) (z0_0 : List Fra) (w : World) (w0_0 : IsFra w a0_0 len0_0 cap0_0 z0_0) :
    Calls Try.prog 5 #[.slice a0_0 len0_0 cap0_0] w fun e w' => e = .returned (.bool true) ∧ Below w.heap.size w w' := by
  have hz0_0 := w0_0.le
  obtain ⟨l0_0, hl0_0⟩ : ∃ l : Int, l = 1048576 - (len0_0 : Int) := ⟨_, rfl⟩
  by_cases hn0_0 : 0 ≤ l0_0
  rotate_left
  · have hm0_0 : l0_0 < 0 := by omega
    have HB0 : Hid (Below w.heap.size w w) := Lib.hid (Below.refl _ _)
    have HL0_0 := Lib.hid hl0_0
    clear hl0_0
    go_enter Try.func5, Try.ntmps5
    go_wp2_with fail
    have HT : Hid (Below w.heap.size w w) := Lib.hid (Below.refl _ _)
    refine (szFra_bad0  _ _ _ _ (by have := HL0_0.out; omega) HL0_0.out hm0_0 hz0_0).mono ?_
    rintro e vz0 ⟨rfl, bz⟩
    replace HT := Lib.hid (HT.out.trans (bz.mono HT.out.size))
    clear bz
    go_wp2
    go_ret
    exact ⟨rfl, HB0.out.trans (HT.out.mono HB0.out.size)⟩
  have hm0_0 : ¬ l0_0 < 0 := by omega
  obtain ⟨y0_0, hy0_0⟩ : ∃ y, y = z0_0.take len0_0 := ⟨_, rfl⟩
  have R0_0 : Hid (RdFra w (.slice a0_0 len0_0 cap0_0) y0_0) := Lib.hid (by rw [hy0_0]; exact rdFra_of_row w0_0 (by omega))
  clear hy0_0 w0_0
  have HB0 : Hid (Below w.heap.size w w) := Lib.hid (Below.refl _ _)
  have HL0_0 := Lib.hid hl0_0
  clear hl0_0
  replace R0_0 := Lib.hid (R0_0.out.below HB0.out (Nat.le_refl _))
  have HT : Hid (Below w.heap.size w w) := Lib.hid (Below.refl _ _)
  go_enter Try.func5, Try.ntmps5
  go_wp2_with fail
  have HT : Hid (Below w.heap.size w w) := Lib.hid (Below.refl _ _)
  refine (szFra  _ _ _ _ (by have := HL0_0.out; omega) HL0_0.out hn0_0 hz0_0).mono ?_
  rintro e vz0 ⟨rfl, bz⟩
  replace HT := Lib.hid (HT.out.trans (bz.mono HT.out.size))
  clear bz
  clear HL0_0 hn0_0 hz0_0
  go_wp2_with fail
  refine (toFra  _ y0_0 _ (R0_0.out.below HT.out (Nat.le_refl _))).mono ?_
  rintro e v1 ⟨us0_0, rfl, os0_0, b1⟩
  have Ls0_0 := Lib.hid HT.out.size
  replace HT := Lib.hid (HT.out.trans (b1.mono HT.out.size))
  have Xs0_0 := Lib.hid os0_0
  obtain ⟨gas0_0, gcs0_0, hus0_0⟩ := os0_0.shape
  subst hus0_0
  clear os0_0
  clear b1
  go_wp2_with fail
  refine (specReduceFractions _ y0_0 _ Xs0_0.out.rd).mono ?_
  rintro e v2 ⟨uw0_0, rfl, ow0_0, b2⟩
  have Ss0_0_w0_0 := Lib.hid (sep_of Xs0_0.out.top ow0_0.row.lt Xs0_0.out.size)
  have Lw0_0 := Lib.hid HT.out.size
  replace Xs0_0 := Lib.hid (Xs0_0.out.below b2 Xs0_0.out.size)
  replace HT := Lib.hid (HT.out.trans (b2.mono HT.out.size))
  have Xw0_0 := Lib.hid ow0_0
  obtain ⟨gaw0_0, gcw0_0, huw0_0⟩ := ow0_0.shape
  subst huw0_0
  clear ow0_0
  clear b2
  clear Xs0_0
  go_wp2_with fail
  refine (toFra  _ y0_0 _ (R0_0.out.below HT.out (Nat.le_refl _))).mono ?_
  rintro e v3 ⟨ux0_0, rfl, ox0_0, b3⟩
  have Sw0_0_x0_0 := Lib.hid (sep_of Xw0_0.out.top ox0_0.row.lt Xw0_0.out.size)
  have Lx0_0 := Lib.hid HT.out.size
  replace Xw0_0 := Lib.hid (Xw0_0.out.below b3 Xw0_0.out.size)
  replace HT := Lib.hid (HT.out.trans (b3.mono HT.out.size))
  have Xx0_0 := Lib.hid ox0_0
  obtain ⟨gax0_0, gcx0_0, hux0_0⟩ := ox0_0.shape
  subst hux0_0
  clear ox0_0
  clear b3
  go_wp2_with fail
  refine (implReduceFractions _ y0_0 _ Xx0_0.out.rd).mono ?_
  rintro e v4 ⟨ug0_0, rfl, og0_0, b4⟩
  have Sw0_0_g0_0 := Lib.hid (sep_of Xw0_0.out.top og0_0.row.lt Xw0_0.out.size)
  have Sx0_0_g0_0 := Lib.hid (sep_of Xx0_0.out.top og0_0.row.lt Xx0_0.out.size)
  have Lg0_0 := Lib.hid HT.out.size
  replace Xw0_0 := Lib.hid (Xw0_0.out.below b4 Xw0_0.out.size)
  replace Xx0_0 := Lib.hid (Xx0_0.out.below b4 Xx0_0.out.size)
  replace HT := Lib.hid (HT.out.trans (b4.mono HT.out.size))
  have Xg0_0 := Lib.hid og0_0
  obtain ⟨gag0_0, gcg0_0, hug0_0⟩ := og0_0.shape
  subst hug0_0
  clear og0_0
  clear b4
  go_wp2_with fail
  refine (eqFra  _ _ _ _ Xg0_0.out.rd Xw0_0.out.rd).mono ?_
  rintro e v5 ⟨rfl, b5⟩
  replace Xw0_0 := Lib.hid (Xw0_0.out.below b5 Xw0_0.out.size)
  replace Xx0_0 := Lib.hid (Xx0_0.out.below b5 Xx0_0.out.size)
  replace Xg0_0 := Lib.hid (Xg0_0.out.below b5 Xg0_0.out.size)
  replace HT := Lib.hid (HT.out.trans (b5.mono HT.out.size))
  clear b5
  go_wp2_with fail
  refine (toFra  _ y0_0 _ (R0_0.out.below HT.out (Nat.le_refl _))).mono ?_
  rintro e v6 ⟨uc0_0, rfl, oc0_0, b6⟩
  have Sw0_0_c0_0 := Lib.hid (sep_of Xw0_0.out.top oc0_0.row.lt Xw0_0.out.size)
  have Sx0_0_c0_0 := Lib.hid (sep_of Xx0_0.out.top oc0_0.row.lt Xx0_0.out.size)
  have Sg0_0_c0_0 := Lib.hid (sep_of Xg0_0.out.top oc0_0.row.lt Xg0_0.out.size)
  have Lc0_0 := Lib.hid HT.out.size
  replace Xw0_0 := Lib.hid (Xw0_0.out.below b6 Xw0_0.out.size)
  replace Xx0_0 := Lib.hid (Xx0_0.out.below b6 Xx0_0.out.size)
  replace Xg0_0 := Lib.hid (Xg0_0.out.below b6 Xg0_0.out.size)
  replace HT := Lib.hid (HT.out.trans (b6.mono HT.out.size))
  have Xc0_0 := Lib.hid oc0_0
  obtain ⟨gac0_0, gcc0_0, huc0_0⟩ := oc0_0.shape
  subst huc0_0
  clear oc0_0
  clear b6
  go_wp2_with fail
  refine (eqFra  _ _ _ _ Xx0_0.out.rd Xc0_0.out.rd).mono ?_
  rintro e v7 ⟨rfl, b7⟩
  replace Xw0_0 := Lib.hid (Xw0_0.out.below b7 Xw0_0.out.size)
  replace Xx0_0 := Lib.hid (Xx0_0.out.below b7 Xx0_0.out.size)
  replace Xg0_0 := Lib.hid (Xg0_0.out.below b7 Xg0_0.out.size)
  replace Xc0_0 := Lib.hid (Xc0_0.out.below b7 Xc0_0.out.size)
  replace HT := Lib.hid (HT.out.trans (b7.mono HT.out.size))
  clear b7
  clear Xc0_0
  go_wp2_with fail
  refine (markFra  _ _ (1) _ _ _ Xx0_0.out (by have r0_0 := R0_0.out.len; omega) (by have r0_0 := R0_0.out.len; omega)).mono ?_
  rintro e v8 ⟨rfl, o8, g8⟩
  replace Xw0_0 := Lib.hid (Xw0_0.out.grown g8 Sw0_0_x0_0.out.1)
  replace Xg0_0 := Lib.hid (Xg0_0.out.grown g8 Sx0_0_g0_0.out.2)
  replace HT := Lib.hid (HT.out.trans ((Xx0_0.out.gb g8).mono Lx0_0.out))
  replace Xx0_0 := Lib.hid o8
  clear o8 g8
  go_wp2_with fail
  refine (eqFra  _ _ _ _ Xg0_0.out.rd Xw0_0.out.rd).mono ?_
  rintro e v9 ⟨rfl, b9⟩
  replace Xw0_0 := Lib.hid (Xw0_0.out.below b9 Xw0_0.out.size)
  replace Xx0_0 := Lib.hid (Xx0_0.out.below b9 Xx0_0.out.size)
  replace Xg0_0 := Lib.hid (Xg0_0.out.below b9 Xg0_0.out.size)
  replace HT := Lib.hid (HT.out.trans (b9.mono HT.out.size))
  clear b9
  clear Xx0_0
  have N0_0 := Xg0_0.out.len
  go_wp2_with fail
  refine (markFra  _ _ 1 _ _ _ Xg0_0.out (by omega) (by omega)).mono ?_
  rintro e v10 ⟨rfl, o10, g10⟩
  replace Xw0_0 := Lib.hid (Xw0_0.out.grown g10 Sw0_0_g0_0.out.1)
  replace HT := Lib.hid (HT.out.trans ((Xg0_0.out.gb g10).mono Lg0_0.out))
  replace Xg0_0 := Lib.hid o10
  clear o10 g10
  go_wp2_with fail
  refine (heldFra  _ _ 1 _ Xg0_0.out.rd (by omega) (by omega)).mono ?_
  rintro e v11 ⟨rfl, b11⟩
  replace Xw0_0 := Lib.hid (Xw0_0.out.below b11 Xw0_0.out.size)
  replace Xg0_0 := Lib.hid (Xg0_0.out.below b11 Xg0_0.out.size)
  replace HT := Lib.hid (HT.out.trans (b11.mono HT.out.size))
  clear b11
  go_wp2_with fail
  refine (toFra  _ y0_0 _ (R0_0.out.below HT.out (Nat.le_refl _))).mono ?_
  rintro e v12 ⟨ud0_0, rfl, od0_0, b12⟩
  have Sw0_0_d0_0 := Lib.hid (sep_of Xw0_0.out.top od0_0.row.lt Xw0_0.out.size)
  have Sg0_0_d0_0 := Lib.hid (sep_of Xg0_0.out.top od0_0.row.lt Xg0_0.out.size)
  have Ld0_0 := Lib.hid HT.out.size
  replace Xw0_0 := Lib.hid (Xw0_0.out.below b12 Xw0_0.out.size)
  replace Xg0_0 := Lib.hid (Xg0_0.out.below b12 Xg0_0.out.size)
  replace HT := Lib.hid (HT.out.trans (b12.mono HT.out.size))
  have Xd0_0 := Lib.hid od0_0
  obtain ⟨gad0_0, gcd0_0, hud0_0⟩ := od0_0.shape
  subst hud0_0
  clear od0_0
  clear b12
  go_wp2_with fail
  refine (implReduceFractions _ y0_0 _ Xd0_0.out.rd).mono ?_
  rintro e v13 ⟨uh0_0, rfl, oh0_0, b13⟩
  have Sw0_0_h0_0 := Lib.hid (sep_of Xw0_0.out.top oh0_0.row.lt Xw0_0.out.size)
  have Sg0_0_h0_0 := Lib.hid (sep_of Xg0_0.out.top oh0_0.row.lt Xg0_0.out.size)
  have Sd0_0_h0_0 := Lib.hid (sep_of Xd0_0.out.top oh0_0.row.lt Xd0_0.out.size)
  have Lh0_0 := Lib.hid HT.out.size
  replace Xw0_0 := Lib.hid (Xw0_0.out.below b13 Xw0_0.out.size)
  replace Xg0_0 := Lib.hid (Xg0_0.out.below b13 Xg0_0.out.size)
  replace Xd0_0 := Lib.hid (Xd0_0.out.below b13 Xd0_0.out.size)
  replace HT := Lib.hid (HT.out.trans (b13.mono HT.out.size))
  have Xh0_0 := Lib.hid oh0_0
  obtain ⟨gah0_0, gch0_0, huh0_0⟩ := oh0_0.shape
  subst huh0_0
  clear oh0_0
  clear b13
  go_wp2_with fail
  refine (eqFra  _ _ _ _ Xh0_0.out.rd Xw0_0.out.rd).mono ?_
  rintro e v14 ⟨rfl, b14⟩
  replace Xw0_0 := Lib.hid (Xw0_0.out.below b14 Xw0_0.out.size)
  replace Xg0_0 := Lib.hid (Xg0_0.out.below b14 Xg0_0.out.size)
  replace Xd0_0 := Lib.hid (Xd0_0.out.below b14 Xd0_0.out.size)
  replace Xh0_0 := Lib.hid (Xh0_0.out.below b14 Xh0_0.out.size)
  replace HT := Lib.hid (HT.out.trans (b14.mono HT.out.size))
  clear b14
  go_wp2_with fail
  refine (heldFra  _ _ 1 _ Xg0_0.out.rd (by omega) (by omega)).mono ?_
  rintro e v15 ⟨rfl, b15⟩
  replace Xw0_0 := Lib.hid (Xw0_0.out.below b15 Xw0_0.out.size)
  replace Xg0_0 := Lib.hid (Xg0_0.out.below b15 Xg0_0.out.size)
  replace Xd0_0 := Lib.hid (Xd0_0.out.below b15 Xd0_0.out.size)
  replace Xh0_0 := Lib.hid (Xh0_0.out.below b15 Xh0_0.out.size)
  replace HT := Lib.hid (HT.out.trans (b15.mono HT.out.size))
  clear b15
  go_wp2
  go_ret
  exact ⟨rfl, HB0.out.trans (HT.out.mono HB0.out.size)⟩

set_option maxRecDepth 100000 in
theorem lifted (os : Os) (started : os.Started) (H : Type) (enc : TypeId × Value → H) :
    ReturnsInHanded {} Try.checked os 5 .any (Rows.fnExactReduceFractionsSpec.pre6 enc Try.prog Try.f5 Rows.fnExactReduceFractionsRow.domain false) (Rows.fnExactReduceFractionsSpec.post enc Try.prog Try.f5 false true false false) := by
  refine returnsInHanded_of_change (C := Try.checked) own started (by kernel_rfl) Try.func5
    (ChangeSpec.witness6 (enc := enc) (C := Try.checked) false ⟨#[], #[.slice none 0 0], []⟩ 8 (by kernel_rfl) (by kernel_rfl) (by kernel_rfl) (by kernel_rfl)) ?_
  intro W base args ds gs before hval0 hW hcnd _
  have hval : ∀ (j : Nat) t v, Try.f5.params[j]? = some t → args[j]? = some v → Value.okWide Try.prog W .any base t v := hval0
  have hW' := hW
  obtain ⟨p, q, hA0, hV, rfl, hfz, hnd⟩ := hW
  have hA : DataW.TrodAll enc Try.prog W 0 (fun _ => true) true Try.f5.params.toList args.toList ds p := hA0
  rw [Try.params5] at hA hval
  obtain ⟨v0, vs0, d0, ds0, p0, q0, hargs, rfl, rfl, h0, r0⟩ := trodAll_cons hA
  obtain ⟨rfl, rfl, rfl⟩ := trodAll_nil r0
  obtain rfl : args = #[v0] := by cases args; simp_all
  obtain ⟨rfl, rfl⟩ := trodVars_none hV
  have k0 := h0
  have lt0 : ∀ x ∈ p0, x.block < W.heap.size := by obtain ⟨m, hm⟩ := k0; exact DataW.trod_lt m _ _ _ hm
  obtain ⟨a0_0, len0_0, cap0_0, rfl⟩ := okWide_slice Try.underlying29 (hval 0 29 v0 rfl rfl)
  obtain ⟨z0_0, w0_0⟩ : ∃ zs, IsFra W a0_0 len0_0 cap0_0 zs := by
    obtain ⟨fuel, hf⟩ := h0
    obtain ⟨a', len', cap', z', e', w'⟩ := open_Fra hf
    simp [Value.cells] at e'
    obtain ⟨rfl, rfl, rfl⟩ := e'
    exact ⟨z', w'⟩
  clear hA0 hval0
  refine (walk a0_0 len0_0 cap0_0 z0_0 W w0_0).mono fun e W' ⟨he, bel⟩ => ?_
  subst he
  exact ⟨_, rfl, _, _, _, [], _, [], hW', trodAll_mk1 (shut_bool Try.underlying4 _), (trodAll_cons_mk (Below.trod laidOut (by kernel_rfl) (of_decide_eq_true (by kernel_rfl)) k0 bel lt0) trodAll_mk0), rfl, bel.frame _, fun h => by cases h⟩

theorem over : Rows.fnExactReduceFractionsRow.holds Try.pinned (OpenSpec.ofChange Rows.fnExactReduceFractionsSpec) :=
  OpenClaim.holds_of_wide 5 Try.f5 rfl rfl rfl rfl rfl rfl rfl ⟨rfl, rfl, rfl, rfl, rfl⟩ rfl rfl rfl rfl rfl (by kernel_rfl) Try.func5 (by kernel_rfl)
    (of_decide_eq_true (by kernel_rfl)) (by unfold Func.isWrapper; first | (rw [if_pos (by decide +kernel)]; kernel_rfl) | (rw [if_neg (by decide +kernel)]; exact ⟨rfl, rfl⟩))
    (fun os started H enc _ => lifted os started H enc)

/-- The statement. -/
theorem proved : Rows.FnExactReduceFractionsSaid := over
#print axioms proved
end Go.Proofs.Ytadfknafcamamaa.fnExactReduceFractions
