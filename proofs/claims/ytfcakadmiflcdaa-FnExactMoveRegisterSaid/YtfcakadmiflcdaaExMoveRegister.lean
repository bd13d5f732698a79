/-   FnExactMoveRegister: for every number and every list of numbers the program's MoveRegister answers as its model, leaves its arguments alone, and its answer owns its memory. No condition. -/
import Derived.Test.YtfcakadmiflcdaaRows
import Derived.WalkKit
import Derived.ProofKit
import Derived.OpenShut
import Derived.ShutString
import Derived.ChangeOld
import Derived.Below
import Derived.Lib.SmallJoins
import Derived.Deep.Strs
import Derived.OpenVars
import Derived.Handy
import Derived.Lib.Hide
import Derived.Deep.RegionHeld3
import Derived.Test.YtfcakadmiflcdaaMovR
namespace Go.Proofs.Ytfcakadmiflcdaa.fnExactMoveRegister
open Go.ChangeShapes Go.WideShapes Go.ChangeAt Go.RowKit
set_option linter.unusedVariables false
set_option linter.unusedSimpArgs false

theorem own : ownKnob Try.prog.godebug = none := by kernel_rfl
theorem laidOut : laidOutB Try.prog = true := by kernel_rfl
open Ints

set_option maxHeartbeats 8000000 in
theorem walk (a0 : Int) (a1_0 : Option Addr) (len1_0 cap1_0 : Nat) (z1_0 : List Int) (w : World) (w0 : (Lit.int .i64 a0).wf = true) (w1_0 : IsList w a1_0 len1_0 cap1_0 z1_0) :
    Calls Try.prog 13 #[.int .i64 a0, .slice a1_0 len1_0 cap1_0] w fun e w' => e = .returned (.bool true) ∧ Below w.heap.size w w' := by
  have HF0 := Lib.hid (bounds_i64 w0)
  by_cases hb1_0 : len1_0 ≤ 1048576
  rotate_left
  · have hc1_0 : (1048576 : Int) < (len1_0 : Int) := by omega
    go_enter Try.func13, Try.ntmps13
    go_wp2
    go_ret
    exact ⟨rfl, Below.refl _ _⟩
  have hd1_0 : ¬ (1048576 : Int) < (len1_0 : Int) := by omega
  obtain ⟨y1_0, hy1_0⟩ : ∃ y, y = z1_0.take len1_0 := ⟨_, rfl⟩
  have R1_0 : Hid (Rd w (.slice a1_0 len1_0 cap1_0) y1_0) := Lib.hid (by rw [hy1_0]; exact rd_of_row w1_0 (by omega))
  clear hy1_0 w1_0
  have HB0 : Hid (Below w.heap.size w w) := Lib.hid (Below.refl _ _)
  replace R1_0 := Lib.hid (R1_0.out.below HB0.out (Nat.le_refl _))
  have HT : Hid (Below w.heap.size w w) := Lib.hid (Below.refl _ _)
  go_enter Try.func13, Try.ntmps13
  go_wp2_with fail
  have HT : Hid (Below w.heap.size w w) := Lib.hid (Below.refl _ _)
  refine (toInts  _ y1_0 _ (R1_0.out.below HT.out (Nat.le_refl _))).mono ?_
  rintro e v1 ⟨us1_0, rfl, os1_0, b1⟩
  have Ls1_0 := Lib.hid HT.out.size
  replace HT := Lib.hid (HT.out.trans (b1.mono HT.out.size))
  have Xs1_0 := Lib.hid os1_0
  obtain ⟨gas1_0, gcs1_0, hus1_0⟩ := os1_0.shape
  subst hus1_0
  clear os1_0
  clear b1
  go_wp2_with fail
  refine (specMoveRegister a0 _ y1_0 _ Xs1_0.out.rd HF0.out).mono ?_
  rintro e v2 ⟨uw0_0, rfl, ow0_0, b2⟩
  have Ss1_0_w0_0 := Lib.hid (sep_of Xs1_0.out.top ow0_0.row.lt Xs1_0.out.size)
  have Lw0_0 := Lib.hid HT.out.size
  replace Xs1_0 := Lib.hid (Xs1_0.out.below b2 Xs1_0.out.size)
  replace HT := Lib.hid (HT.out.trans (b2.mono HT.out.size))
  have Xw0_0 := Lib.hid ow0_0
  obtain ⟨gaw0_0, gcw0_0, huw0_0⟩ := ow0_0.shape
  subst huw0_0
  clear ow0_0
  clear b2
  clear Xs1_0
  go_wp2_with fail
  refine (toInts  _ y1_0 _ (R1_0.out.below HT.out (Nat.le_refl _))).mono ?_
  rintro e v3 ⟨ux1_0, rfl, ox1_0, b3⟩
  have Sw0_0_x1_0 := Lib.hid (sep_of Xw0_0.out.top ox1_0.row.lt Xw0_0.out.size)
  have Lx1_0 := Lib.hid HT.out.size
  replace Xw0_0 := Lib.hid (Xw0_0.out.below b3 Xw0_0.out.size)
  replace HT := Lib.hid (HT.out.trans (b3.mono HT.out.size))
  have Xx1_0 := Lib.hid ox1_0
  obtain ⟨gax1_0, gcx1_0, hux1_0⟩ := ox1_0.shape
  subst hux1_0
  clear ox1_0
  clear b3
  go_wp2_with fail
  refine (implMoveRegister a0 _ y1_0 _ Xx1_0.out.rd HF0.out).mono ?_
  rintro e v4 ⟨ug0_0, rfl, og0_0, b4⟩
  have Sw0_0_g0_0 := Lib.hid (sep_of Xw0_0.out.top og0_0.row.lt Xw0_0.out.size)
  have Sx1_0_g0_0 := Lib.hid (sep_of Xx1_0.out.top og0_0.row.lt Xx1_0.out.size)
  have Lg0_0 := Lib.hid HT.out.size
  replace Xw0_0 := Lib.hid (Xw0_0.out.below b4 Xw0_0.out.size)
  replace Xx1_0 := Lib.hid (Xx1_0.out.below b4 Xx1_0.out.size)
  replace HT := Lib.hid (HT.out.trans (b4.mono HT.out.size))
  have Xg0_0 := Lib.hid og0_0
  obtain ⟨gag0_0, gcg0_0, hug0_0⟩ := og0_0.shape
  subst hug0_0
  clear og0_0
  clear b4
  go_wp2_with fail
  refine (eqIns  _ _ _ _ Xg0_0.out.rd Xw0_0.out.rd).mono ?_
  rintro e v5 ⟨rfl, b5⟩
  replace Xw0_0 := Lib.hid (Xw0_0.out.below b5 Xw0_0.out.size)
  replace Xx1_0 := Lib.hid (Xx1_0.out.below b5 Xx1_0.out.size)
  replace Xg0_0 := Lib.hid (Xg0_0.out.below b5 Xg0_0.out.size)
  replace HT := Lib.hid (HT.out.trans (b5.mono HT.out.size))
  clear b5
  go_wp2_with fail
  refine (toInts  _ y1_0 _ (R1_0.out.below HT.out (Nat.le_refl _))).mono ?_
  rintro e v6 ⟨uc1_0, rfl, oc1_0, b6⟩
  have Sw0_0_c1_0 := Lib.hid (sep_of Xw0_0.out.top oc1_0.row.lt Xw0_0.out.size)
  have Sx1_0_c1_0 := Lib.hid (sep_of Xx1_0.out.top oc1_0.row.lt Xx1_0.out.size)
  have Sg0_0_c1_0 := Lib.hid (sep_of Xg0_0.out.top oc1_0.row.lt Xg0_0.out.size)
  have Lc1_0 := Lib.hid HT.out.size
  replace Xw0_0 := Lib.hid (Xw0_0.out.below b6 Xw0_0.out.size)
  replace Xx1_0 := Lib.hid (Xx1_0.out.below b6 Xx1_0.out.size)
  replace Xg0_0 := Lib.hid (Xg0_0.out.below b6 Xg0_0.out.size)
  replace HT := Lib.hid (HT.out.trans (b6.mono HT.out.size))
  have Xc1_0 := Lib.hid oc1_0
  obtain ⟨gac1_0, gcc1_0, huc1_0⟩ := oc1_0.shape
  subst huc1_0
  clear oc1_0
  clear b6
  go_wp2_with fail
  refine (eqInts  _ _ _ _ Xx1_0.out.rd Xc1_0.out.rd).mono ?_
  rintro e v7 ⟨rfl, b7⟩
  replace Xw0_0 := Lib.hid (Xw0_0.out.below b7 Xw0_0.out.size)
  replace Xx1_0 := Lib.hid (Xx1_0.out.below b7 Xx1_0.out.size)
  replace Xg0_0 := Lib.hid (Xg0_0.out.below b7 Xg0_0.out.size)
  replace Xc1_0 := Lib.hid (Xc1_0.out.below b7 Xc1_0.out.size)
  replace HT := Lib.hid (HT.out.trans (b7.mono HT.out.size))
  clear b7
  clear Xc1_0
  go_wp2_with fail
  refine (markInts  _ _ (1) _ _ _ Xx1_0.out (by have r1_0 := R1_0.out.len; omega) (by have r1_0 := R1_0.out.len; omega)).mono ?_
  rintro e v8 ⟨rfl, o8, g8⟩
  replace Xw0_0 := Lib.hid (Xw0_0.out.grown g8 Sw0_0_x1_0.out.1)
  replace Xg0_0 := Lib.hid (Xg0_0.out.grown g8 Sx1_0_g0_0.out.2)
  replace HT := Lib.hid (HT.out.trans ((Xx1_0.out.gb g8).mono Lx1_0.out))
  replace Xx1_0 := Lib.hid o8
  clear o8 g8
  go_wp2_with fail
  refine (eqIns  _ _ _ _ Xg0_0.out.rd Xw0_0.out.rd).mono ?_
  rintro e v9 ⟨rfl, b9⟩
  replace Xw0_0 := Lib.hid (Xw0_0.out.below b9 Xw0_0.out.size)
  replace Xx1_0 := Lib.hid (Xx1_0.out.below b9 Xx1_0.out.size)
  replace Xg0_0 := Lib.hid (Xg0_0.out.below b9 Xg0_0.out.size)
  replace HT := Lib.hid (HT.out.trans (b9.mono HT.out.size))
  clear b9
  clear Xx1_0
  have N0_0 := Xg0_0.out.len
  go_wp2_with fail
  refine (markIns  _ _ 1 _ _ _ Xg0_0.out (by omega) (by omega)).mono ?_
  rintro e v10 ⟨rfl, o10, g10⟩
  replace Xw0_0 := Lib.hid (Xw0_0.out.grown g10 Sw0_0_g0_0.out.1)
  replace HT := Lib.hid (HT.out.trans ((Xg0_0.out.gb g10).mono Lg0_0.out))
  replace Xg0_0 := Lib.hid o10
  clear o10 g10
  go_wp2_with fail
  refine (heldIns  _ _ 1 _ Xg0_0.out.rd (by omega) (by omega)).mono ?_
  rintro e v11 ⟨rfl, b11⟩
  replace Xw0_0 := Lib.hid (Xw0_0.out.below b11 Xw0_0.out.size)
  replace Xg0_0 := Lib.hid (Xg0_0.out.below b11 Xg0_0.out.size)
  replace HT := Lib.hid (HT.out.trans (b11.mono HT.out.size))
  clear b11
  go_wp2_with fail
  refine (toInts  _ y1_0 _ (R1_0.out.below HT.out (Nat.le_refl _))).mono ?_
  rintro e v12 ⟨ud1_0, rfl, od1_0, b12⟩
  have Sw0_0_d1_0 := Lib.hid (sep_of Xw0_0.out.top od1_0.row.lt Xw0_0.out.size)
  have Sg0_0_d1_0 := Lib.hid (sep_of Xg0_0.out.top od1_0.row.lt Xg0_0.out.size)
  have Ld1_0 := Lib.hid HT.out.size
  replace Xw0_0 := Lib.hid (Xw0_0.out.below b12 Xw0_0.out.size)
  replace Xg0_0 := Lib.hid (Xg0_0.out.below b12 Xg0_0.out.size)
  replace HT := Lib.hid (HT.out.trans (b12.mono HT.out.size))
  have Xd1_0 := Lib.hid od1_0
  obtain ⟨gad1_0, gcd1_0, hud1_0⟩ := od1_0.shape
  subst hud1_0
  clear od1_0
  clear b12
  go_wp2_with fail
  refine (implMoveRegister a0 _ y1_0 _ Xd1_0.out.rd HF0.out).mono ?_
  rintro e v13 ⟨uh0_0, rfl, oh0_0, b13⟩
  have Sw0_0_h0_0 := Lib.hid (sep_of Xw0_0.out.top oh0_0.row.lt Xw0_0.out.size)
  have Sg0_0_h0_0 := Lib.hid (sep_of Xg0_0.out.top oh0_0.row.lt Xg0_0.out.size)
  have Sd1_0_h0_0 := Lib.hid (sep_of Xd1_0.out.top oh0_0.row.lt Xd1_0.out.size)
  have Lh0_0 := Lib.hid HT.out.size
  replace Xw0_0 := Lib.hid (Xw0_0.out.below b13 Xw0_0.out.size)
  replace Xg0_0 := Lib.hid (Xg0_0.out.below b13 Xg0_0.out.size)
  replace Xd1_0 := Lib.hid (Xd1_0.out.below b13 Xd1_0.out.size)
  replace HT := Lib.hid (HT.out.trans (b13.mono HT.out.size))
  have Xh0_0 := Lib.hid oh0_0
  obtain ⟨gah0_0, gch0_0, huh0_0⟩ := oh0_0.shape
  subst huh0_0
  clear oh0_0
  clear b13
  go_wp2_with fail
  refine (eqIns  _ _ _ _ Xh0_0.out.rd Xw0_0.out.rd).mono ?_
  rintro e v14 ⟨rfl, b14⟩
  replace Xw0_0 := Lib.hid (Xw0_0.out.below b14 Xw0_0.out.size)
  replace Xg0_0 := Lib.hid (Xg0_0.out.below b14 Xg0_0.out.size)
  replace Xd1_0 := Lib.hid (Xd1_0.out.below b14 Xd1_0.out.size)
  replace Xh0_0 := Lib.hid (Xh0_0.out.below b14 Xh0_0.out.size)
  replace HT := Lib.hid (HT.out.trans (b14.mono HT.out.size))
  clear b14
  go_wp2_with fail
  refine (heldIns  _ _ 1 _ Xg0_0.out.rd (by omega) (by omega)).mono ?_
  rintro e v15 ⟨rfl, b15⟩
  replace Xw0_0 := Lib.hid (Xw0_0.out.below b15 Xw0_0.out.size)
  replace Xg0_0 := Lib.hid (Xg0_0.out.below b15 Xg0_0.out.size)
  replace Xd1_0 := Lib.hid (Xd1_0.out.below b15 Xd1_0.out.size)
  replace Xh0_0 := Lib.hid (Xh0_0.out.below b15 Xh0_0.out.size)
  replace HT := Lib.hid (HT.out.trans (b15.mono HT.out.size))
  clear b15
  go_wp2
  go_ret
  exact ⟨rfl, HB0.out.trans (HT.out.mono HB0.out.size)⟩

set_option maxRecDepth 100000 in
theorem lifted (os : Os) (started : os.Started) (H : Type) (enc : TypeId × Value → H) :
    ReturnsInHanded {} Try.checked os 13 .any (Rows.fnExactMoveRegisterSpec.pre6 enc Try.prog Try.f13 Rows.fnExactMoveRegisterRow.domain false) (Rows.fnExactMoveRegisterSpec.post enc Try.prog Try.f13 false true false false) := by
  refine returnsInHanded_of_change (C := Try.checked) own started (by kernel_rfl) Try.func13
    (ChangeSpec.witness6 (enc := enc) (C := Try.checked) false ⟨#[], #[.int .i64 0, .slice none 0 0], []⟩ 8 (by kernel_rfl) (by kernel_rfl) (by kernel_rfl) (by kernel_rfl)) ?_
  intro W base args ds gs before hval0 hW hcnd _
  have hval : ∀ (j : Nat) t v, Try.f13.params[j]? = some t → args[j]? = some v → Value.okWide Try.prog W .any base t v := hval0
  have hW' := hW
  obtain ⟨p, q, hA0, hV, rfl, hfz, hnd⟩ := hW
  have hA : DataW.TrodAll enc Try.prog W 0 (fun _ => true) true Try.f13.params.toList args.toList ds p := hA0
  rw [Try.params13] at hA hval
  obtain ⟨v0, vs0, d0, ds0, p0, q0, hargs, rfl, rfl, h0, r0⟩ := trodAll_cons hA
  obtain ⟨v1, vs1, d1, ds1, p1, q1, rfl, rfl, rfl, h1, r1⟩ := trodAll_cons r0
  obtain ⟨rfl, rfl, rfl⟩ := trodAll_nil r1
  obtain rfl : args = #[v0, v1] := by cases args; simp_all
  obtain ⟨rfl, rfl⟩ := trodVars_none hV
  obtain ⟨a0, rfl, rfl, rfl, w0⟩ := open_int Try.underlying2 (hval 0 2 v0 rfl rfl) h0
  have k1 := h1
  have lt1 : ∀ x ∈ p1, x.block < W.heap.size := by obtain ⟨m, hm⟩ := k1; exact DataW.trod_lt m _ _ _ hm
  obtain ⟨a1_0, len1_0, cap1_0, rfl⟩ := okWide_slice Try.underlying29 (hval 1 29 v1 rfl rfl)
  obtain ⟨z1_0, w1_0⟩ : ∃ zs, IsList W a1_0 len1_0 cap1_0 zs := by
    obtain ⟨fuel, hf⟩ := h1
    obtain ⟨a', len', cap', z', e', w'⟩ := open_list hf
    simp [Value.cells] at e'
    obtain ⟨rfl, rfl, rfl⟩ := e'
    exact ⟨z', w'⟩
  clear hA0 hval0
  refine (walk a0 a1_0 len1_0 cap1_0 z1_0 W w0 w1_0).mono fun e W' ⟨he, bel⟩ => ?_
  subst he
  exact ⟨_, rfl, _, _, _, [], _, [], hW', trodAll_mk1 (shut_bool Try.underlying4 _), (trodAll_cons_mk (shut_int Try.underlying2 w0) (trodAll_cons_mk (Below.trod laidOut (by kernel_rfl) (of_decide_eq_true (by kernel_rfl)) k1 bel lt1) trodAll_mk0)), rfl, bel.frame _, fun h => by cases h⟩

theorem over : Rows.fnExactMoveRegisterRow.holds Try.pinned (OpenSpec.ofChange Rows.fnExactMoveRegisterSpec) :=
  OpenClaim.holds_of_wide 13 Try.f13 rfl rfl rfl rfl rfl rfl rfl ⟨rfl, rfl, rfl, rfl, rfl⟩ rfl rfl rfl rfl rfl (by kernel_rfl) Try.func13 (by kernel_rfl)
    (of_decide_eq_true (by kernel_rfl)) (by unfold Func.isWrapper; first | (rw [if_pos (by decide +kernel)]; kernel_rfl) | (rw [if_neg (by decide +kernel)]; exact ⟨rfl, rfl⟩))
    (fun os started H enc _ => lifted os started H enc)

/-- The statement. -/
theorem proved : Rows.FnExactMoveRegisterSaid := over
#print axioms proved
end Go.Proofs.Ytfcakadmiflcdaa.fnExactMoveRegister
