/-   for all lists the program's UnpairOf answers as its model, both parts and code, leaves its argument alone, and its answers are memory of their own. No condition. -/
import Derived.Test.YtfnopnaaahkklaaRows
import Derived.WalkKit
import Derived.ProofKit
import Derived.OpenShut
import Derived.ShutString
import Derived.ChangeOld
import Derived.Below
import Derived.Lib.SmallJoins
import Derived.Deep.Strs
import Derived.OpenVars
import Derived.ChangeMaps5
import Derived.Handy
import Derived.Lib.Hide
import Derived.Deep.RegionHeld3
import Derived.Test.YtfnopnaaahkklaaUpV
namespace Go.Proofs.Ytfnopnaaahkklaa.fnExactUnpairOf
open Go.ChangeShapes Go.WideShapes Go.ChangeAt Go.RowKit
set_option linter.unusedVariables false
set_option linter.unusedSimpArgs false

theorem own : ownKnob Try.prog.godebug = none := by kernel_rfl
theorem laidOut : laidOutB Try.prog = true := by kernel_rfl
open Ints

set_option maxHeartbeats 8000000 in
theorem walk (a0_0 : Option Addr) (len0_0 cap0_0 : Nat) (z0_0 : List Int) (w : World) (w0_0 : IsList w a0_0 len0_0 cap0_0 z0_0) :
    Calls Try.prog 6 #[.slice a0_0 len0_0 cap0_0] w fun e w' => e = .returned (.bool true) ∧ Below w.heap.size w w' := by
  by_cases hb0_0 : len0_0 ≤ 1048576
  rotate_left
  · have hc0_0 : (1048576 : Int) < (len0_0 : Int) := by omega
    go_enter Try.func6, Try.ntmps6
    go_wp2
    go_ret
    exact ⟨rfl, Below.refl _ _⟩
  have hd0_0 : ¬ (1048576 : Int) < (len0_0 : Int) := by omega
  obtain ⟨y0_0, hy0_0⟩ : ∃ y, y = z0_0.take len0_0 := ⟨_, rfl⟩
  have R0_0 : Hid (Rd w (.slice a0_0 len0_0 cap0_0) y0_0) := Lib.hid (by rw [hy0_0]; exact rd_of_row w0_0 (by omega))
  clear hy0_0 w0_0
  have HB0 : Hid (Below w.heap.size w w) := Lib.hid (Below.refl _ _)
  replace R0_0 := Lib.hid (R0_0.out.below HB0.out (Nat.le_refl _))
  have HT : Hid (Below w.heap.size w w) := Lib.hid (Below.refl _ _)
  go_enter Try.func6, Try.ntmps6
  go_wp2_with fail
  have HT : Hid (Below w.heap.size w w) := Lib.hid (Below.refl _ _)
  refine (toInts  _ y0_0 _ (R0_0.out.below HT.out (Nat.le_refl _))).mono ?_
  rintro e v1 ⟨us0_0, rfl, os0_0, b1⟩
  have Ls0_0 := Lib.hid HT.out.size
  replace HT := Lib.hid (HT.out.trans (b1.mono HT.out.size))
  have Xs0_0 := Lib.hid os0_0
  obtain ⟨gas0_0, gcs0_0, hus0_0⟩ := os0_0.shape
  subst hus0_0
  clear os0_0
  clear b1
  go_wp2_with fail
  refine (specUnpairOf _ y0_0 _ Xs0_0.out.rd).mono ?_
  rintro e v2 ⟨uw0_0, uw1_0, rfl, ow0_0, ow1_0, sw0_0_w1_0, b2⟩
  have Ss0_0_w0_0 := Lib.hid (sep_of Xs0_0.out.top ow0_0.row.lt Xs0_0.out.size)
  have Lw0_0 := Lib.hid HT.out.size
  have Ss0_0_w1_0 := Lib.hid (sep_of Xs0_0.out.top ow1_0.row.lt Xs0_0.out.size)
  have Lw1_0 := Lib.hid HT.out.size
  replace Xs0_0 := Lib.hid (Xs0_0.out.below b2 Xs0_0.out.size)
  replace HT := Lib.hid (HT.out.trans (b2.mono HT.out.size))
  have Sw0_0_w1_0 := Lib.hid sw0_0_w1_0
  clear sw0_0_w1_0
  have Xw0_0 := Lib.hid ow0_0
  obtain ⟨gaw0_0, gcw0_0, huw0_0⟩ := ow0_0.shape
  subst huw0_0
  clear ow0_0
  have Xw1_0 := Lib.hid ow1_0
  obtain ⟨gaw1_0, gcw1_0, huw1_0⟩ := ow1_0.shape
  subst huw1_0
  clear ow1_0
  clear b2
  clear Xs0_0
  go_wp2_with fail
  refine (toInts  _ y0_0 _ (R0_0.out.below HT.out (Nat.le_refl _))).mono ?_
  rintro e v3 ⟨ux0_0, rfl, ox0_0, b3⟩
  have Sw0_0_x0_0 := Lib.hid (sep_of Xw0_0.out.top ox0_0.row.lt Xw0_0.out.size)
  have Sw1_0_x0_0 := Lib.hid (sep_of Xw1_0.out.top ox0_0.row.lt Xw1_0.out.size)
  have Lx0_0 := Lib.hid HT.out.size
  replace Xw0_0 := Lib.hid (Xw0_0.out.below b3 Xw0_0.out.size)
  replace Xw1_0 := Lib.hid (Xw1_0.out.below b3 Xw1_0.out.size)
  replace HT := Lib.hid (HT.out.trans (b3.mono HT.out.size))
  have Xx0_0 := Lib.hid ox0_0
  obtain ⟨gax0_0, gcx0_0, hux0_0⟩ := ox0_0.shape
  subst hux0_0
  clear ox0_0
  clear b3
  go_wp2_with fail
  refine (implUnpairOf _ y0_0 _ Xx0_0.out.rd).mono ?_
  rintro e v4 ⟨ug0_0, ug1_0, rfl, og0_0, og1_0, sg0_0_g1_0, b4⟩
  have Sw0_0_g0_0 := Lib.hid (sep_of Xw0_0.out.top og0_0.row.lt Xw0_0.out.size)
  have Sw1_0_g0_0 := Lib.hid (sep_of Xw1_0.out.top og0_0.row.lt Xw1_0.out.size)
  have Sx0_0_g0_0 := Lib.hid (sep_of Xx0_0.out.top og0_0.row.lt Xx0_0.out.size)
  have Lg0_0 := Lib.hid HT.out.size
  have Sw0_0_g1_0 := Lib.hid (sep_of Xw0_0.out.top og1_0.row.lt Xw0_0.out.size)
  have Sw1_0_g1_0 := Lib.hid (sep_of Xw1_0.out.top og1_0.row.lt Xw1_0.out.size)
  have Sx0_0_g1_0 := Lib.hid (sep_of Xx0_0.out.top og1_0.row.lt Xx0_0.out.size)
  have Lg1_0 := Lib.hid HT.out.size
  replace Xw0_0 := Lib.hid (Xw0_0.out.below b4 Xw0_0.out.size)
  replace Xw1_0 := Lib.hid (Xw1_0.out.below b4 Xw1_0.out.size)
  replace Xx0_0 := Lib.hid (Xx0_0.out.below b4 Xx0_0.out.size)
  replace HT := Lib.hid (HT.out.trans (b4.mono HT.out.size))
  have Sg0_0_g1_0 := Lib.hid sg0_0_g1_0
  clear sg0_0_g1_0
  have Xg0_0 := Lib.hid og0_0
  obtain ⟨gag0_0, gcg0_0, hug0_0⟩ := og0_0.shape
  subst hug0_0
  clear og0_0
  have Xg1_0 := Lib.hid og1_0
  obtain ⟨gag1_0, gcg1_0, hug1_0⟩ := og1_0.shape
  subst hug1_0
  clear og1_0
  clear b4
  go_wp2_with fail
  refine (eqInts  _ _ _ _ Xg0_0.out.rd Xw0_0.out.rd).mono ?_
  rintro e v5 ⟨rfl, b5⟩
  replace Xw0_0 := Lib.hid (Xw0_0.out.below b5 Xw0_0.out.size)
  replace Xw1_0 := Lib.hid (Xw1_0.out.below b5 Xw1_0.out.size)
  replace Xx0_0 := Lib.hid (Xx0_0.out.below b5 Xx0_0.out.size)
  replace Xg0_0 := Lib.hid (Xg0_0.out.below b5 Xg0_0.out.size)
  replace Xg1_0 := Lib.hid (Xg1_0.out.below b5 Xg1_0.out.size)
  replace HT := Lib.hid (HT.out.trans (b5.mono HT.out.size))
  clear b5
  go_wp2_with fail
  refine (eqInts  _ _ _ _ Xg1_0.out.rd Xw1_0.out.rd).mono ?_
  rintro e v6 ⟨rfl, b6⟩
  replace Xw0_0 := Lib.hid (Xw0_0.out.below b6 Xw0_0.out.size)
  replace Xw1_0 := Lib.hid (Xw1_0.out.below b6 Xw1_0.out.size)
  replace Xx0_0 := Lib.hid (Xx0_0.out.below b6 Xx0_0.out.size)
  replace Xg0_0 := Lib.hid (Xg0_0.out.below b6 Xg0_0.out.size)
  replace Xg1_0 := Lib.hid (Xg1_0.out.below b6 Xg1_0.out.size)
  replace HT := Lib.hid (HT.out.trans (b6.mono HT.out.size))
  clear b6
  go_wp2_with fail
  refine (toInts  _ y0_0 _ (R0_0.out.below HT.out (Nat.le_refl _))).mono ?_
  rintro e v7 ⟨uc0_0, rfl, oc0_0, b7⟩
  have Sw0_0_c0_0 := Lib.hid (sep_of Xw0_0.out.top oc0_0.row.lt Xw0_0.out.size)
  have Sw1_0_c0_0 := Lib.hid (sep_of Xw1_0.out.top oc0_0.row.lt Xw1_0.out.size)
  have Sx0_0_c0_0 := Lib.hid (sep_of Xx0_0.out.top oc0_0.row.lt Xx0_0.out.size)
  have Sg0_0_c0_0 := Lib.hid (sep_of Xg0_0.out.top oc0_0.row.lt Xg0_0.out.size)
  have Sg1_0_c0_0 := Lib.hid (sep_of Xg1_0.out.top oc0_0.row.lt Xg1_0.out.size)
  have Lc0_0 := Lib.hid HT.out.size
  replace Xw0_0 := Lib.hid (Xw0_0.out.below b7 Xw0_0.out.size)
  replace Xw1_0 := Lib.hid (Xw1_0.out.below b7 Xw1_0.out.size)
  replace Xx0_0 := Lib.hid (Xx0_0.out.below b7 Xx0_0.out.size)
  replace Xg0_0 := Lib.hid (Xg0_0.out.below b7 Xg0_0.out.size)
  replace Xg1_0 := Lib.hid (Xg1_0.out.below b7 Xg1_0.out.size)
  replace HT := Lib.hid (HT.out.trans (b7.mono HT.out.size))
  have Xc0_0 := Lib.hid oc0_0
  obtain ⟨gac0_0, gcc0_0, huc0_0⟩ := oc0_0.shape
  subst huc0_0
  clear oc0_0
  clear b7
  go_wp2_with fail
  refine (eqInts  _ _ _ _ Xx0_0.out.rd Xc0_0.out.rd).mono ?_
  rintro e v8 ⟨rfl, b8⟩
  replace Xw0_0 := Lib.hid (Xw0_0.out.below b8 Xw0_0.out.size)
  replace Xw1_0 := Lib.hid (Xw1_0.out.below b8 Xw1_0.out.size)
  replace Xx0_0 := Lib.hid (Xx0_0.out.below b8 Xx0_0.out.size)
  replace Xg0_0 := Lib.hid (Xg0_0.out.below b8 Xg0_0.out.size)
  replace Xg1_0 := Lib.hid (Xg1_0.out.below b8 Xg1_0.out.size)
  replace Xc0_0 := Lib.hid (Xc0_0.out.below b8 Xc0_0.out.size)
  replace HT := Lib.hid (HT.out.trans (b8.mono HT.out.size))
  clear b8
  clear Xc0_0
  go_wp2_with fail
  refine (markInts  _ _ (1) _ _ _ Xx0_0.out (by have r0_0 := R0_0.out.len; omega) (by have r0_0 := R0_0.out.len; omega)).mono ?_
  rintro e v9 ⟨rfl, o9, g9⟩
  replace Xw0_0 := Lib.hid (Xw0_0.out.grown g9 Sw0_0_x0_0.out.1)
  replace Xw1_0 := Lib.hid (Xw1_0.out.grown g9 Sw1_0_x0_0.out.1)
  replace Xg0_0 := Lib.hid (Xg0_0.out.grown g9 Sx0_0_g0_0.out.2)
  replace Xg1_0 := Lib.hid (Xg1_0.out.grown g9 Sx0_0_g1_0.out.2)
  replace HT := Lib.hid (HT.out.trans ((Xx0_0.out.gb g9).mono Lx0_0.out))
  replace Xx0_0 := Lib.hid o9
  clear o9 g9
  go_wp2_with fail
  refine (eqInts  _ _ _ _ Xg0_0.out.rd Xw0_0.out.rd).mono ?_
  rintro e v10 ⟨rfl, b10⟩
  replace Xw0_0 := Lib.hid (Xw0_0.out.below b10 Xw0_0.out.size)
  replace Xw1_0 := Lib.hid (Xw1_0.out.below b10 Xw1_0.out.size)
  replace Xx0_0 := Lib.hid (Xx0_0.out.below b10 Xx0_0.out.size)
  replace Xg0_0 := Lib.hid (Xg0_0.out.below b10 Xg0_0.out.size)
  replace Xg1_0 := Lib.hid (Xg1_0.out.below b10 Xg1_0.out.size)
  replace HT := Lib.hid (HT.out.trans (b10.mono HT.out.size))
  clear b10
  go_wp2_with fail
  refine (eqInts  _ _ _ _ Xg1_0.out.rd Xw1_0.out.rd).mono ?_
  rintro e v11 ⟨rfl, b11⟩
  replace Xw0_0 := Lib.hid (Xw0_0.out.below b11 Xw0_0.out.size)
  replace Xw1_0 := Lib.hid (Xw1_0.out.below b11 Xw1_0.out.size)
  replace Xx0_0 := Lib.hid (Xx0_0.out.below b11 Xx0_0.out.size)
  replace Xg0_0 := Lib.hid (Xg0_0.out.below b11 Xg0_0.out.size)
  replace Xg1_0 := Lib.hid (Xg1_0.out.below b11 Xg1_0.out.size)
  replace HT := Lib.hid (HT.out.trans (b11.mono HT.out.size))
  clear b11
  clear Xx0_0
  have N0_0 := Xg0_0.out.len
  have N1_0 := Xg1_0.out.len
  go_wp2_with fail
  refine (markInts  _ _ 1 _ _ _ Xg0_0.out (by omega) (by omega)).mono ?_
  rintro e v12 ⟨rfl, o12, g12⟩
  replace Xw0_0 := Lib.hid (Xw0_0.out.grown g12 Sw0_0_g0_0.out.1)
  replace Xw1_0 := Lib.hid (Xw1_0.out.grown g12 Sw1_0_g0_0.out.1)
  replace Xg1_0 := Lib.hid (Xg1_0.out.grown g12 Sg0_0_g1_0.out.2)
  replace HT := Lib.hid (HT.out.trans ((Xg0_0.out.gb g12).mono Lg0_0.out))
  replace Xg0_0 := Lib.hid o12
  clear o12 g12
  go_wp2_with fail
  refine (markInts  _ _ _ _ _ _ Xg1_0.out (by omega) (by omega)).mono ?_
  rintro e v13 ⟨rfl, o13, g13⟩
  replace Xw0_0 := Lib.hid (Xw0_0.out.grown g13 Sw0_0_g1_0.out.1)
  replace Xw1_0 := Lib.hid (Xw1_0.out.grown g13 Sw1_0_g1_0.out.1)
  replace Xg0_0 := Lib.hid (Xg0_0.out.grown g13 Sg0_0_g1_0.out.1)
  replace HT := Lib.hid (HT.out.trans ((Xg1_0.out.gb g13).mono Lg1_0.out))
  replace Xg1_0 := Lib.hid o13
  clear o13 g13
  go_wp2_with fail
  refine ((heldInts _ _ 1 _ Xg0_0.out.rd (by omega) (by omega)).mono (fun _ _ h => held_below h)).mono ?_
  rintro e v14 ⟨rfl, b14⟩
  replace Xw0_0 := Lib.hid (Xw0_0.out.below b14 Xw0_0.out.size)
  replace Xw1_0 := Lib.hid (Xw1_0.out.below b14 Xw1_0.out.size)
  replace Xg0_0 := Lib.hid (Xg0_0.out.below b14 Xg0_0.out.size)
  replace Xg1_0 := Lib.hid (Xg1_0.out.below b14 Xg1_0.out.size)
  replace HT := Lib.hid (HT.out.trans (b14.mono HT.out.size))
  clear b14
  go_wp2_with fail
  refine ((heldInts _ _ _ _ Xg1_0.out.rd (by omega) (by omega)).mono (fun _ _ h => held_below h)).mono ?_
  rintro e v15 ⟨rfl, b15⟩
  replace Xw0_0 := Lib.hid (Xw0_0.out.below b15 Xw0_0.out.size)
  replace Xw1_0 := Lib.hid (Xw1_0.out.below b15 Xw1_0.out.size)
  replace Xg0_0 := Lib.hid (Xg0_0.out.below b15 Xg0_0.out.size)
  replace Xg1_0 := Lib.hid (Xg1_0.out.below b15 Xg1_0.out.size)
  replace HT := Lib.hid (HT.out.trans (b15.mono HT.out.size))
  clear b15
  go_wp2_with fail
  refine (toInts  _ y0_0 _ (R0_0.out.below HT.out (Nat.le_refl _))).mono ?_
  rintro e v16 ⟨ud0_0, rfl, od0_0, b16⟩
  have Sw0_0_d0_0 := Lib.hid (sep_of Xw0_0.out.top od0_0.row.lt Xw0_0.out.size)
  have Sw1_0_d0_0 := Lib.hid (sep_of Xw1_0.out.top od0_0.row.lt Xw1_0.out.size)
  have Sg0_0_d0_0 := Lib.hid (sep_of Xg0_0.out.top od0_0.row.lt Xg0_0.out.size)
  have Sg1_0_d0_0 := Lib.hid (sep_of Xg1_0.out.top od0_0.row.lt Xg1_0.out.size)
  have Ld0_0 := Lib.hid HT.out.size
  replace Xw0_0 := Lib.hid (Xw0_0.out.below b16 Xw0_0.out.size)
  replace Xw1_0 := Lib.hid (Xw1_0.out.below b16 Xw1_0.out.size)
  replace Xg0_0 := Lib.hid (Xg0_0.out.below b16 Xg0_0.out.size)
  replace Xg1_0 := Lib.hid (Xg1_0.out.below b16 Xg1_0.out.size)
  replace HT := Lib.hid (HT.out.trans (b16.mono HT.out.size))
  have Xd0_0 := Lib.hid od0_0
  obtain ⟨gad0_0, gcd0_0, hud0_0⟩ := od0_0.shape
  subst hud0_0
  clear od0_0
  clear b16
  go_wp2_with fail
  refine (implUnpairOf _ y0_0 _ Xd0_0.out.rd).mono ?_
  rintro e v17 ⟨uh0_0, uh1_0, rfl, oh0_0, oh1_0, sh0_0_h1_0, b17⟩
  have Sw0_0_h0_0 := Lib.hid (sep_of Xw0_0.out.top oh0_0.row.lt Xw0_0.out.size)
  have Sw1_0_h0_0 := Lib.hid (sep_of Xw1_0.out.top oh0_0.row.lt Xw1_0.out.size)
  have Sg0_0_h0_0 := Lib.hid (sep_of Xg0_0.out.top oh0_0.row.lt Xg0_0.out.size)
  have Sg1_0_h0_0 := Lib.hid (sep_of Xg1_0.out.top oh0_0.row.lt Xg1_0.out.size)
  have Sd0_0_h0_0 := Lib.hid (sep_of Xd0_0.out.top oh0_0.row.lt Xd0_0.out.size)
  have Lh0_0 := Lib.hid HT.out.size
  have Sw0_0_h1_0 := Lib.hid (sep_of Xw0_0.out.top oh1_0.row.lt Xw0_0.out.size)
  have Sw1_0_h1_0 := Lib.hid (sep_of Xw1_0.out.top oh1_0.row.lt Xw1_0.out.size)
  have Sg0_0_h1_0 := Lib.hid (sep_of Xg0_0.out.top oh1_0.row.lt Xg0_0.out.size)
  have Sg1_0_h1_0 := Lib.hid (sep_of Xg1_0.out.top oh1_0.row.lt Xg1_0.out.size)
  have Sd0_0_h1_0 := Lib.hid (sep_of Xd0_0.out.top oh1_0.row.lt Xd0_0.out.size)
  have Lh1_0 := Lib.hid HT.out.size
  replace Xw0_0 := Lib.hid (Xw0_0.out.below b17 Xw0_0.out.size)
  replace Xw1_0 := Lib.hid (Xw1_0.out.below b17 Xw1_0.out.size)
  replace Xg0_0 := Lib.hid (Xg0_0.out.below b17 Xg0_0.out.size)
  replace Xg1_0 := Lib.hid (Xg1_0.out.below b17 Xg1_0.out.size)
  replace Xd0_0 := Lib.hid (Xd0_0.out.below b17 Xd0_0.out.size)
  replace HT := Lib.hid (HT.out.trans (b17.mono HT.out.size))
  have Sh0_0_h1_0 := Lib.hid sh0_0_h1_0
  clear sh0_0_h1_0
  have Xh0_0 := Lib.hid oh0_0
  obtain ⟨gah0_0, gch0_0, huh0_0⟩ := oh0_0.shape
  subst huh0_0
  clear oh0_0
  have Xh1_0 := Lib.hid oh1_0
  obtain ⟨gah1_0, gch1_0, huh1_0⟩ := oh1_0.shape
  subst huh1_0
  clear oh1_0
  clear b17
  go_wp2_with fail
  refine (eqInts  _ _ _ _ Xh0_0.out.rd Xw0_0.out.rd).mono ?_
  rintro e v18 ⟨rfl, b18⟩
  replace Xw0_0 := Lib.hid (Xw0_0.out.below b18 Xw0_0.out.size)
  replace Xw1_0 := Lib.hid (Xw1_0.out.below b18 Xw1_0.out.size)
  replace Xg0_0 := Lib.hid (Xg0_0.out.below b18 Xg0_0.out.size)
  replace Xg1_0 := Lib.hid (Xg1_0.out.below b18 Xg1_0.out.size)
  replace Xd0_0 := Lib.hid (Xd0_0.out.below b18 Xd0_0.out.size)
  replace Xh0_0 := Lib.hid (Xh0_0.out.below b18 Xh0_0.out.size)
  replace Xh1_0 := Lib.hid (Xh1_0.out.below b18 Xh1_0.out.size)
  replace HT := Lib.hid (HT.out.trans (b18.mono HT.out.size))
  clear b18
  go_wp2_with fail
  refine (eqInts  _ _ _ _ Xh1_0.out.rd Xw1_0.out.rd).mono ?_
  rintro e v19 ⟨rfl, b19⟩
  replace Xw0_0 := Lib.hid (Xw0_0.out.below b19 Xw0_0.out.size)
  replace Xw1_0 := Lib.hid (Xw1_0.out.below b19 Xw1_0.out.size)
  replace Xg0_0 := Lib.hid (Xg0_0.out.below b19 Xg0_0.out.size)
  replace Xg1_0 := Lib.hid (Xg1_0.out.below b19 Xg1_0.out.size)
  replace Xd0_0 := Lib.hid (Xd0_0.out.below b19 Xd0_0.out.size)
  replace Xh0_0 := Lib.hid (Xh0_0.out.below b19 Xh0_0.out.size)
  replace Xh1_0 := Lib.hid (Xh1_0.out.below b19 Xh1_0.out.size)
  replace HT := Lib.hid (HT.out.trans (b19.mono HT.out.size))
  clear b19
  go_wp2_with fail
  refine ((heldInts _ _ 1 _ Xg0_0.out.rd (by omega) (by omega)).mono (fun _ _ h => held_below h)).mono ?_
  rintro e v20 ⟨rfl, b20⟩
  replace Xw0_0 := Lib.hid (Xw0_0.out.below b20 Xw0_0.out.size)
  replace Xw1_0 := Lib.hid (Xw1_0.out.below b20 Xw1_0.out.size)
  replace Xg0_0 := Lib.hid (Xg0_0.out.below b20 Xg0_0.out.size)
  replace Xg1_0 := Lib.hid (Xg1_0.out.below b20 Xg1_0.out.size)
  replace Xd0_0 := Lib.hid (Xd0_0.out.below b20 Xd0_0.out.size)
  replace Xh0_0 := Lib.hid (Xh0_0.out.below b20 Xh0_0.out.size)
  replace Xh1_0 := Lib.hid (Xh1_0.out.below b20 Xh1_0.out.size)
  replace HT := Lib.hid (HT.out.trans (b20.mono HT.out.size))
  clear b20
  go_wp2_with fail
  refine ((heldInts _ _ _ _ Xg1_0.out.rd (by omega) (by omega)).mono (fun _ _ h => held_below h)).mono ?_
  rintro e v21 ⟨rfl, b21⟩
  replace Xw0_0 := Lib.hid (Xw0_0.out.below b21 Xw0_0.out.size)
  replace Xw1_0 := Lib.hid (Xw1_0.out.below b21 Xw1_0.out.size)
  replace Xg0_0 := Lib.hid (Xg0_0.out.below b21 Xg0_0.out.size)
  replace Xg1_0 := Lib.hid (Xg1_0.out.below b21 Xg1_0.out.size)
  replace Xd0_0 := Lib.hid (Xd0_0.out.below b21 Xd0_0.out.size)
  replace Xh0_0 := Lib.hid (Xh0_0.out.below b21 Xh0_0.out.size)
  replace Xh1_0 := Lib.hid (Xh1_0.out.below b21 Xh1_0.out.size)
  replace HT := Lib.hid (HT.out.trans (b21.mono HT.out.size))
  clear b21
  go_wp2
  go_ret
  exact ⟨rfl, HB0.out.trans (HT.out.mono HB0.out.size)⟩

set_option maxRecDepth 100000 in
theorem lifted (os : Os) (started : os.Started) (H : Type) (enc : TypeId × Value → H) :
    ReturnsInHanded {} Try.checked os 6 .any (Rows.fnExactUnpairOfSpec.pre6 enc Try.prog Try.f6 Rows.fnExactUnpairOfRow.domain false) (Rows.fnExactUnpairOfSpec.post enc Try.prog Try.f6 false true false false) := by
  refine returnsInHanded_of_change (C := Try.checked) own started (by kernel_rfl) Try.func6
    (ChangeSpec.witness6 (enc := enc) (C := Try.checked) false ⟨#[], #[.slice none 0 0], []⟩ 8 (by kernel_rfl) (by kernel_rfl) (by kernel_rfl) (by kernel_rfl)) ?_
  intro W base args ds gs before hval0 hW hcnd _
  have hval : ∀ (j : Nat) t v, Try.f6.params[j]? = some t → args[j]? = some v → Value.okWide Try.prog W .any base t v := hval0
  have hW' := hW
  obtain ⟨p, q, hA0, hV, rfl, hfz, hnd⟩ := hW
  have hA : DataW.TrodAll enc Try.prog W 0 (fun _ => true) true Try.f6.params.toList args.toList ds p := hA0
  rw [Try.params6] at hA hval
  obtain ⟨v0, vs0, d0, ds0, p0, q0, hargs, rfl, rfl, h0, r0⟩ := trodAll_cons hA
  obtain ⟨rfl, rfl, rfl⟩ := trodAll_nil r0
  obtain rfl : args = #[v0] := by cases args; simp_all
  obtain ⟨rfl, rfl⟩ := trodVars_none hV
  have k0 := h0
  have lt0 : ∀ x ∈ p0, x.block < W.heap.size := by obtain ⟨m, hm⟩ := k0; exact DataW.trod_lt m _ _ _ hm
  obtain ⟨a0_0, len0_0, cap0_0, rfl⟩ := okWide_slice Try.underlying22 (hval 0 22 v0 rfl rfl)
  obtain ⟨z0_0, w0_0⟩ : ∃ zs, IsList W a0_0 len0_0 cap0_0 zs := by
    obtain ⟨fuel, hf⟩ := h0
    obtain ⟨a', len', cap', z', e', w'⟩ := open_list hf
    simp [Value.cells] at e'
    obtain ⟨rfl, rfl, rfl⟩ := e'
    exact ⟨z', w'⟩
  clear hA0 hval0
  refine (walk a0_0 len0_0 cap0_0 z0_0 W w0_0).mono fun e W' ⟨he, bel⟩ => ?_
  subst he
  exact ⟨_, rfl, _, _, _, [], _, [], hW', trodAll_mk1 (shut_bool Try.underlying4 _), (trodAll_cons_mk (Below.trod laidOut (by kernel_rfl) (of_decide_eq_true (by kernel_rfl)) k0 bel lt0) trodAll_mk0), rfl, bel.frame _, fun h => by cases h⟩

theorem over : Rows.fnExactUnpairOfRow.holds Try.pinned (OpenSpec.ofChange Rows.fnExactUnpairOfSpec) :=
  OpenClaim.holds_of_wide 6 Try.f6 rfl rfl rfl rfl rfl rfl rfl ⟨rfl, rfl, rfl, rfl, rfl⟩ rfl rfl rfl rfl rfl (by kernel_rfl) Try.func6 (by kernel_rfl)
    (of_decide_eq_true (by kernel_rfl)) (by unfold Func.isWrapper; first | (rw [if_pos (by decide +kernel)]; kernel_rfl) | (rw [if_neg (by decide +kernel)]; exact ⟨rfl, rfl⟩))
    (fun os started H enc _ => lifted os started H enc)

/-- The statement. -/
theorem proved : Rows.FnExactUnpairOfSaid := over
#print axioms proved
end Go.Proofs.Ytfnopnaaahkklaa.fnExactUnpairOf
