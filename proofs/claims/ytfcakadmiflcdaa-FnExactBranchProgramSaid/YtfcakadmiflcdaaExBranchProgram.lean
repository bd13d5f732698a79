/-   FnExactBranchProgram: for every number and every two lists of instructions the program's BranchProgram answers as its model, leaves its arguments alone, and its answer owns its memory. No condition. -/
import Derived.Test.YtfcakadmiflcdaaRows
import Derived.WalkKit
import Derived.ProofKit
import Derived.OpenShut
import Derived.ShutString
import Derived.ChangeOld
import Derived.Below
import Derived.Lib.SmallJoins
import Derived.Deep.Strs
import Derived.OpenVars
import Derived.Handy
import Derived.Lib.Hide
import Derived.Deep.RegionHeld3
import Derived.Test.YtfcakadmiflcdaaPrgW
import Derived.Test.YtfcakadmiflcdaaBldL
namespace Go.Proofs.Ytfcakadmiflcdaa.fnExactBranchProgram
open Go.ChangeShapes Go.WideShapes Go.ChangeAt Go.RowKit
set_option linter.unusedVariables false
set_option linter.unusedSimpArgs false

theorem own : ownKnob Try.prog.godebug = none := by kernel_rfl
theorem laidOut : laidOutB Try.prog = true := by kernel_rfl
open Ints

set_option maxHeartbeats 8000000 in
theorem walk (a0 : Int) (a1_0 : Option Addr) (len1_0 cap1_0 : Nat) (z1_0 : List Ins) (a2_0 : Option Addr) (len2_0 cap2_0 : Nat) (z2_0 : List Ins) (w : World) (w0 : (Lit.int .i64 a0).wf = true) (w1_0 : IsIns w a1_0 len1_0 cap1_0 z1_0) (w2_0 : IsIns w a2_0 len2_0 cap2_0 z2_0) :
    Calls Try.prog 11 #[.int .i64 a0, .slice a1_0 len1_0 cap1_0, .slice a2_0 len2_0 cap2_0] w fun e w' => e = .returned (.bool true) ∧ Below w.heap.size w w' := by
  have hz1_0 := w1_0.le
  obtain ⟨l1_0, hl1_0⟩ : ∃ l : Int, l = 1048576 - (len1_0 : Int) := ⟨_, rfl⟩
  have hz2_0 := w2_0.le
  obtain ⟨l2_0, hl2_0⟩ : ∃ l : Int, l = l1_0 - (len2_0 : Int) := ⟨_, rfl⟩
  by_cases hn1_0 : 0 ≤ l1_0
  rotate_left
  · have hm1_0 : l1_0 < 0 := by omega
    have HB0 : Hid (Below w.heap.size w w) := Lib.hid (Below.refl _ _)
    have HL1_0 := Lib.hid hl1_0
    clear hl1_0
    have HL2_0 := Lib.hid hl2_0
    clear hl2_0
    go_enter Try.func11, Try.ntmps11
    go_wp2_with fail
    have HT : Hid (Below w.heap.size w w) := Lib.hid (Below.refl _ _)
    refine (szIns_bad0  _ _ _ _ (by have := HL1_0.out; have := HL2_0.out; omega) HL1_0.out hm1_0 hz1_0).mono ?_
    rintro e vz1 ⟨rfl, bz⟩
    replace HT := Lib.hid (HT.out.trans (bz.mono HT.out.size))
    clear bz
    go_wp2
    go_ret
    exact ⟨rfl, HB0.out.trans (HT.out.mono HB0.out.size)⟩
  have hm1_0 : ¬ l1_0 < 0 := by omega
  by_cases hn2_0 : 0 ≤ l2_0
  rotate_left
  · have hm2_0 : l2_0 < 0 := by omega
    have HB0 : Hid (Below w.heap.size w w) := Lib.hid (Below.refl _ _)
    have HL1_0 := Lib.hid hl1_0
    clear hl1_0
    have HL2_0 := Lib.hid hl2_0
    clear hl2_0
    go_enter Try.func11, Try.ntmps11
    go_wp2_with fail
    have HT : Hid (Below w.heap.size w w) := Lib.hid (Below.refl _ _)
    refine (szIns  _ _ _ _ (by have := HL1_0.out; have := HL2_0.out; omega) HL1_0.out hn1_0 hz1_0).mono ?_
    rintro e vz1 ⟨rfl, bz⟩
    replace HT := Lib.hid (HT.out.trans (bz.mono HT.out.size))
    clear bz
    go_wp2_with fail
    refine (szIns_bad0  _ _ _ _ (by have := HL1_0.out; have := HL2_0.out; omega) HL2_0.out hm2_0 hz2_0).mono ?_
    rintro e vz2 ⟨rfl, bz⟩
    replace HT := Lib.hid (HT.out.trans (bz.mono HT.out.size))
    clear bz
    go_wp2
    go_ret
    exact ⟨rfl, HB0.out.trans (HT.out.mono HB0.out.size)⟩
  have hm2_0 : ¬ l2_0 < 0 := by omega
  obtain ⟨y1_0, hy1_0⟩ : ∃ y, y = z1_0.take len1_0 := ⟨_, rfl⟩
  have R1_0 : Hid (RdIns w (.slice a1_0 len1_0 cap1_0) y1_0) := Lib.hid (by rw [hy1_0]; exact rdIns_of_row w1_0 (by omega))
  clear hy1_0 w1_0
  obtain ⟨y2_0, hy2_0⟩ : ∃ y, y = z2_0.take len2_0 := ⟨_, rfl⟩
  have R2_0 : Hid (RdIns w (.slice a2_0 len2_0 cap2_0) y2_0) := Lib.hid (by rw [hy2_0]; exact rdIns_of_row w2_0 (by omega))
  clear hy2_0 w2_0
  have HB0 : Hid (Below w.heap.size w w) := Lib.hid (Below.refl _ _)
  have HL1_0 := Lib.hid hl1_0
  clear hl1_0
  have HL2_0 := Lib.hid hl2_0
  clear hl2_0
  replace R1_0 := Lib.hid (R1_0.out.below HB0.out (Nat.le_refl _))
  replace R2_0 := Lib.hid (R2_0.out.below HB0.out (Nat.le_refl _))
  have HT : Hid (Below w.heap.size w w) := Lib.hid (Below.refl _ _)
  go_enter Try.func11, Try.ntmps11
  go_wp2_with fail
  have HT : Hid (Below w.heap.size w w) := Lib.hid (Below.refl _ _)
  refine (szIns  _ _ _ _ (by have := HL1_0.out; have := HL2_0.out; omega) HL1_0.out hn1_0 hz1_0).mono ?_
  rintro e vz1 ⟨rfl, bz⟩
  replace HT := Lib.hid (HT.out.trans (bz.mono HT.out.size))
  clear bz
  go_wp2_with fail
  refine (szIns  _ _ _ _ (by have := HL1_0.out; have := HL2_0.out; omega) HL2_0.out hn2_0 hz2_0).mono ?_
  rintro e vz2 ⟨rfl, bz⟩
  replace HT := Lib.hid (HT.out.trans (bz.mono HT.out.size))
  clear bz
  clear HL1_0 hn1_0 hz1_0 HL2_0 hn2_0 hz2_0
  go_wp2_with fail
  refine (toIns  _ y1_0 _ (R1_0.out.below HT.out (Nat.le_refl _))).mono ?_
  rintro e v1 ⟨us1_0, rfl, os1_0, b1⟩
  have Ls1_0 := Lib.hid HT.out.size
  replace HT := Lib.hid (HT.out.trans (b1.mono HT.out.size))
  have Xs1_0 := Lib.hid os1_0
  obtain ⟨gas1_0, gcs1_0, hus1_0⟩ := os1_0.shape
  subst hus1_0
  clear os1_0
  clear b1
  go_wp2_with fail
  refine (toIns  _ y2_0 _ (R2_0.out.below HT.out (Nat.le_refl _))).mono ?_
  rintro e v2 ⟨us2_0, rfl, os2_0, b2⟩
  have Ss1_0_s2_0 := Lib.hid (sep_of Xs1_0.out.top os2_0.row.lt Xs1_0.out.size)
  have Ls2_0 := Lib.hid HT.out.size
  replace Xs1_0 := Lib.hid (Xs1_0.out.below b2 Xs1_0.out.size)
  replace HT := Lib.hid (HT.out.trans (b2.mono HT.out.size))
  have Xs2_0 := Lib.hid os2_0
  obtain ⟨gas2_0, gcs2_0, hus2_0⟩ := os2_0.shape
  subst hus2_0
  clear os2_0
  clear b2
  go_wp2_with fail
  refine (specBranch a0 _ y1_0 _ y2_0 _ Xs1_0.out.rd Xs2_0.out.rd).mono ?_
  rintro e v3 ⟨uw0_0, rfl, ow0_0, b3⟩
  have Ss1_0_w0_0 := Lib.hid (sep_of Xs1_0.out.top ow0_0.row.lt Xs1_0.out.size)
  have Ss2_0_w0_0 := Lib.hid (sep_of Xs2_0.out.top ow0_0.row.lt Xs2_0.out.size)
  have Lw0_0 := Lib.hid HT.out.size
  replace Xs1_0 := Lib.hid (Xs1_0.out.below b3 Xs1_0.out.size)
  replace Xs2_0 := Lib.hid (Xs2_0.out.below b3 Xs2_0.out.size)
  replace HT := Lib.hid (HT.out.trans (b3.mono HT.out.size))
  have Xw0_0 := Lib.hid ow0_0
  obtain ⟨gaw0_0, gcw0_0, huw0_0⟩ := ow0_0.shape
  subst huw0_0
  clear ow0_0
  clear b3
  clear Xs1_0
  clear Xs2_0
  go_wp2_with fail
  refine (toIns  _ y1_0 _ (R1_0.out.below HT.out (Nat.le_refl _))).mono ?_
  rintro e v4 ⟨ux1_0, rfl, ox1_0, b4⟩
  have Sw0_0_x1_0 := Lib.hid (sep_of Xw0_0.out.top ox1_0.row.lt Xw0_0.out.size)
  have Lx1_0 := Lib.hid HT.out.size
  replace Xw0_0 := Lib.hid (Xw0_0.out.below b4 Xw0_0.out.size)
  replace HT := Lib.hid (HT.out.trans (b4.mono HT.out.size))
  have Xx1_0 := Lib.hid ox1_0
  obtain ⟨gax1_0, gcx1_0, hux1_0⟩ := ox1_0.shape
  subst hux1_0
  clear ox1_0
  clear b4
  go_wp2_with fail
  refine (toIns  _ y2_0 _ (R2_0.out.below HT.out (Nat.le_refl _))).mono ?_
  rintro e v5 ⟨ux2_0, rfl, ox2_0, b5⟩
  have Sw0_0_x2_0 := Lib.hid (sep_of Xw0_0.out.top ox2_0.row.lt Xw0_0.out.size)
  have Sx1_0_x2_0 := Lib.hid (sep_of Xx1_0.out.top ox2_0.row.lt Xx1_0.out.size)
  have Lx2_0 := Lib.hid HT.out.size
  replace Xw0_0 := Lib.hid (Xw0_0.out.below b5 Xw0_0.out.size)
  replace Xx1_0 := Lib.hid (Xx1_0.out.below b5 Xx1_0.out.size)
  replace HT := Lib.hid (HT.out.trans (b5.mono HT.out.size))
  have Xx2_0 := Lib.hid ox2_0
  obtain ⟨gax2_0, gcx2_0, hux2_0⟩ := ox2_0.shape
  subst hux2_0
  clear ox2_0
  clear b5
  go_wp2_with fail
  refine (implBranch a0 _ y1_0 _ y2_0 _ Xx1_0.out.rd Xx2_0.out.rd).mono ?_
  rintro e v6 ⟨ug0_0, rfl, og0_0, b6⟩
  have Sw0_0_g0_0 := Lib.hid (sep_of Xw0_0.out.top og0_0.row.lt Xw0_0.out.size)
  have Sx1_0_g0_0 := Lib.hid (sep_of Xx1_0.out.top og0_0.row.lt Xx1_0.out.size)
  have Sx2_0_g0_0 := Lib.hid (sep_of Xx2_0.out.top og0_0.row.lt Xx2_0.out.size)
  have Lg0_0 := Lib.hid HT.out.size
  replace Xw0_0 := Lib.hid (Xw0_0.out.below b6 Xw0_0.out.size)
  replace Xx1_0 := Lib.hid (Xx1_0.out.below b6 Xx1_0.out.size)
  replace Xx2_0 := Lib.hid (Xx2_0.out.below b6 Xx2_0.out.size)
  replace HT := Lib.hid (HT.out.trans (b6.mono HT.out.size))
  have Xg0_0 := Lib.hid og0_0
  obtain ⟨gag0_0, gcg0_0, hug0_0⟩ := og0_0.shape
  subst hug0_0
  clear og0_0
  clear b6
  go_wp2_with fail
  refine (eqIns  _ _ _ _ Xg0_0.out.rd Xw0_0.out.rd).mono ?_
  rintro e v7 ⟨rfl, b7⟩
  replace Xw0_0 := Lib.hid (Xw0_0.out.below b7 Xw0_0.out.size)
  replace Xx1_0 := Lib.hid (Xx1_0.out.below b7 Xx1_0.out.size)
  replace Xx2_0 := Lib.hid (Xx2_0.out.below b7 Xx2_0.out.size)
  replace Xg0_0 := Lib.hid (Xg0_0.out.below b7 Xg0_0.out.size)
  replace HT := Lib.hid (HT.out.trans (b7.mono HT.out.size))
  clear b7
  go_wp2_with fail
  refine (toIns  _ y1_0 _ (R1_0.out.below HT.out (Nat.le_refl _))).mono ?_
  rintro e v8 ⟨uc1_0, rfl, oc1_0, b8⟩
  have Sw0_0_c1_0 := Lib.hid (sep_of Xw0_0.out.top oc1_0.row.lt Xw0_0.out.size)
  have Sx1_0_c1_0 := Lib.hid (sep_of Xx1_0.out.top oc1_0.row.lt Xx1_0.out.size)
  have Sx2_0_c1_0 := Lib.hid (sep_of Xx2_0.out.top oc1_0.row.lt Xx2_0.out.size)
  have Sg0_0_c1_0 := Lib.hid (sep_of Xg0_0.out.top oc1_0.row.lt Xg0_0.out.size)
  have Lc1_0 := Lib.hid HT.out.size
  replace Xw0_0 := Lib.hid (Xw0_0.out.below b8 Xw0_0.out.size)
  replace Xx1_0 := Lib.hid (Xx1_0.out.below b8 Xx1_0.out.size)
  replace Xx2_0 := Lib.hid (Xx2_0.out.below b8 Xx2_0.out.size)
  replace Xg0_0 := Lib.hid (Xg0_0.out.below b8 Xg0_0.out.size)
  replace HT := Lib.hid (HT.out.trans (b8.mono HT.out.size))
  have Xc1_0 := Lib.hid oc1_0
  obtain ⟨gac1_0, gcc1_0, huc1_0⟩ := oc1_0.shape
  subst huc1_0
  clear oc1_0
  clear b8
  go_wp2_with fail
  refine (eqIns  _ _ _ _ Xx1_0.out.rd Xc1_0.out.rd).mono ?_
  rintro e v9 ⟨rfl, b9⟩
  replace Xw0_0 := Lib.hid (Xw0_0.out.below b9 Xw0_0.out.size)
  replace Xx1_0 := Lib.hid (Xx1_0.out.below b9 Xx1_0.out.size)
  replace Xx2_0 := Lib.hid (Xx2_0.out.below b9 Xx2_0.out.size)
  replace Xg0_0 := Lib.hid (Xg0_0.out.below b9 Xg0_0.out.size)
  replace Xc1_0 := Lib.hid (Xc1_0.out.below b9 Xc1_0.out.size)
  replace HT := Lib.hid (HT.out.trans (b9.mono HT.out.size))
  clear b9
  clear Xc1_0
  go_wp2_with fail
  refine (toIns  _ y2_0 _ (R2_0.out.below HT.out (Nat.le_refl _))).mono ?_
  rintro e v10 ⟨uc2_0, rfl, oc2_0, b10⟩
  have Sw0_0_c2_0 := Lib.hid (sep_of Xw0_0.out.top oc2_0.row.lt Xw0_0.out.size)
  have Sx1_0_c2_0 := Lib.hid (sep_of Xx1_0.out.top oc2_0.row.lt Xx1_0.out.size)
  have Sx2_0_c2_0 := Lib.hid (sep_of Xx2_0.out.top oc2_0.row.lt Xx2_0.out.size)
  have Sg0_0_c2_0 := Lib.hid (sep_of Xg0_0.out.top oc2_0.row.lt Xg0_0.out.size)
  have Lc2_0 := Lib.hid HT.out.size
  replace Xw0_0 := Lib.hid (Xw0_0.out.below b10 Xw0_0.out.size)
  replace Xx1_0 := Lib.hid (Xx1_0.out.below b10 Xx1_0.out.size)
  replace Xx2_0 := Lib.hid (Xx2_0.out.below b10 Xx2_0.out.size)
  replace Xg0_0 := Lib.hid (Xg0_0.out.below b10 Xg0_0.out.size)
  replace HT := Lib.hid (HT.out.trans (b10.mono HT.out.size))
  have Xc2_0 := Lib.hid oc2_0
  obtain ⟨gac2_0, gcc2_0, huc2_0⟩ := oc2_0.shape
  subst huc2_0
  clear oc2_0
  clear b10
  go_wp2_with fail
  refine (eqIns  _ _ _ _ Xx2_0.out.rd Xc2_0.out.rd).mono ?_
  rintro e v11 ⟨rfl, b11⟩
  replace Xw0_0 := Lib.hid (Xw0_0.out.below b11 Xw0_0.out.size)
  replace Xx1_0 := Lib.hid (Xx1_0.out.below b11 Xx1_0.out.size)
  replace Xx2_0 := Lib.hid (Xx2_0.out.below b11 Xx2_0.out.size)
  replace Xg0_0 := Lib.hid (Xg0_0.out.below b11 Xg0_0.out.size)
  replace Xc2_0 := Lib.hid (Xc2_0.out.below b11 Xc2_0.out.size)
  replace HT := Lib.hid (HT.out.trans (b11.mono HT.out.size))
  clear b11
  clear Xc2_0
  go_wp2_with fail
  refine (markIns  _ _ (1) _ _ _ Xx1_0.out (by have r1_0 := R1_0.out.len; have r2_0 := R2_0.out.len; omega) (by have r1_0 := R1_0.out.len; have r2_0 := R2_0.out.len; omega)).mono ?_
  rintro e v12 ⟨rfl, o12, g12⟩
  replace Xw0_0 := Lib.hid (Xw0_0.out.grown g12 Sw0_0_x1_0.out.1)
  replace Xx2_0 := Lib.hid (Xx2_0.out.grown g12 Sx1_0_x2_0.out.2)
  replace Xg0_0 := Lib.hid (Xg0_0.out.grown g12 Sx1_0_g0_0.out.2)
  replace HT := Lib.hid (HT.out.trans ((Xx1_0.out.gb g12).mono Lx1_0.out))
  replace Xx1_0 := Lib.hid o12
  clear o12 g12
  go_wp2_with fail
  refine (markIns  _ _ (1 + 4 * (y1_0.length : Int)) _ _ _ Xx2_0.out (by have r1_0 := R1_0.out.len; have r2_0 := R2_0.out.len; omega) (by have r1_0 := R1_0.out.len; have r2_0 := R2_0.out.len; omega)).mono ?_
  rintro e v13 ⟨rfl, o13, g13⟩
  replace Xw0_0 := Lib.hid (Xw0_0.out.grown g13 Sw0_0_x2_0.out.1)
  replace Xx1_0 := Lib.hid (Xx1_0.out.grown g13 Sx1_0_x2_0.out.1)
  replace Xg0_0 := Lib.hid (Xg0_0.out.grown g13 Sx2_0_g0_0.out.2)
  replace HT := Lib.hid (HT.out.trans ((Xx2_0.out.gb g13).mono Lx2_0.out))
  replace Xx2_0 := Lib.hid o13
  clear o13 g13
  go_wp2_with fail
  refine (eqIns  _ _ _ _ Xg0_0.out.rd Xw0_0.out.rd).mono ?_
  rintro e v14 ⟨rfl, b14⟩
  replace Xw0_0 := Lib.hid (Xw0_0.out.below b14 Xw0_0.out.size)
  replace Xx1_0 := Lib.hid (Xx1_0.out.below b14 Xx1_0.out.size)
  replace Xx2_0 := Lib.hid (Xx2_0.out.below b14 Xx2_0.out.size)
  replace Xg0_0 := Lib.hid (Xg0_0.out.below b14 Xg0_0.out.size)
  replace HT := Lib.hid (HT.out.trans (b14.mono HT.out.size))
  clear b14
  clear Xx1_0
  clear Xx2_0
  have N0_0 := Xg0_0.out.len
  go_wp2_with fail
  refine (markIns  _ _ 1 _ _ _ Xg0_0.out (by omega) (by omega)).mono ?_
  rintro e v15 ⟨rfl, o15, g15⟩
  replace Xw0_0 := Lib.hid (Xw0_0.out.grown g15 Sw0_0_g0_0.out.1)
  replace HT := Lib.hid (HT.out.trans ((Xg0_0.out.gb g15).mono Lg0_0.out))
  replace Xg0_0 := Lib.hid o15
  clear o15 g15
  go_wp2_with fail
  refine (heldIns  _ _ 1 _ Xg0_0.out.rd (by omega) (by omega)).mono ?_
  rintro e v16 ⟨rfl, b16⟩
  replace Xw0_0 := Lib.hid (Xw0_0.out.below b16 Xw0_0.out.size)
  replace Xg0_0 := Lib.hid (Xg0_0.out.below b16 Xg0_0.out.size)
  replace HT := Lib.hid (HT.out.trans (b16.mono HT.out.size))
  clear b16
  go_wp2_with fail
  refine (toIns  _ y1_0 _ (R1_0.out.below HT.out (Nat.le_refl _))).mono ?_
  rintro e v17 ⟨ud1_0, rfl, od1_0, b17⟩
  have Sw0_0_d1_0 := Lib.hid (sep_of Xw0_0.out.top od1_0.row.lt Xw0_0.out.size)
  have Sg0_0_d1_0 := Lib.hid (sep_of Xg0_0.out.top od1_0.row.lt Xg0_0.out.size)
  have Ld1_0 := Lib.hid HT.out.size
  replace Xw0_0 := Lib.hid (Xw0_0.out.below b17 Xw0_0.out.size)
  replace Xg0_0 := Lib.hid (Xg0_0.out.below b17 Xg0_0.out.size)
  replace HT := Lib.hid (HT.out.trans (b17.mono HT.out.size))
  have Xd1_0 := Lib.hid od1_0
  obtain ⟨gad1_0, gcd1_0, hud1_0⟩ := od1_0.shape
  subst hud1_0
  clear od1_0
  clear b17
  go_wp2_with fail
  refine (toIns  _ y2_0 _ (R2_0.out.below HT.out (Nat.le_refl _))).mono ?_
  rintro e v18 ⟨ud2_0, rfl, od2_0, b18⟩
  have Sw0_0_d2_0 := Lib.hid (sep_of Xw0_0.out.top od2_0.row.lt Xw0_0.out.size)
  have Sg0_0_d2_0 := Lib.hid (sep_of Xg0_0.out.top od2_0.row.lt Xg0_0.out.size)
  have Sd1_0_d2_0 := Lib.hid (sep_of Xd1_0.out.top od2_0.row.lt Xd1_0.out.size)
  have Ld2_0 := Lib.hid HT.out.size
  replace Xw0_0 := Lib.hid (Xw0_0.out.below b18 Xw0_0.out.size)
  replace Xg0_0 := Lib.hid (Xg0_0.out.below b18 Xg0_0.out.size)
  replace Xd1_0 := Lib.hid (Xd1_0.out.below b18 Xd1_0.out.size)
  replace HT := Lib.hid (HT.out.trans (b18.mono HT.out.size))
  have Xd2_0 := Lib.hid od2_0
  obtain ⟨gad2_0, gcd2_0, hud2_0⟩ := od2_0.shape
  subst hud2_0
  clear od2_0
  clear b18
  go_wp2_with fail
  refine (implBranch a0 _ y1_0 _ y2_0 _ Xd1_0.out.rd Xd2_0.out.rd).mono ?_
  rintro e v19 ⟨uh0_0, rfl, oh0_0, b19⟩
  have Sw0_0_h0_0 := Lib.hid (sep_of Xw0_0.out.top oh0_0.row.lt Xw0_0.out.size)
  have Sg0_0_h0_0 := Lib.hid (sep_of Xg0_0.out.top oh0_0.row.lt Xg0_0.out.size)
  have Sd1_0_h0_0 := Lib.hid (sep_of Xd1_0.out.top oh0_0.row.lt Xd1_0.out.size)
  have Sd2_0_h0_0 := Lib.hid (sep_of Xd2_0.out.top oh0_0.row.lt Xd2_0.out.size)
  have Lh0_0 := Lib.hid HT.out.size
  replace Xw0_0 := Lib.hid (Xw0_0.out.below b19 Xw0_0.out.size)
  replace Xg0_0 := Lib.hid (Xg0_0.out.below b19 Xg0_0.out.size)
  replace Xd1_0 := Lib.hid (Xd1_0.out.below b19 Xd1_0.out.size)
  replace Xd2_0 := Lib.hid (Xd2_0.out.below b19 Xd2_0.out.size)
  replace HT := Lib.hid (HT.out.trans (b19.mono HT.out.size))
  have Xh0_0 := Lib.hid oh0_0
  obtain ⟨gah0_0, gch0_0, huh0_0⟩ := oh0_0.shape
  subst huh0_0
  clear oh0_0
  clear b19
  go_wp2_with fail
  refine (eqIns  _ _ _ _ Xh0_0.out.rd Xw0_0.out.rd).mono ?_
  rintro e v20 ⟨rfl, b20⟩
  replace Xw0_0 := Lib.hid (Xw0_0.out.below b20 Xw0_0.out.size)
  replace Xg0_0 := Lib.hid (Xg0_0.out.below b20 Xg0_0.out.size)
  replace Xd1_0 := Lib.hid (Xd1_0.out.below b20 Xd1_0.out.size)
  replace Xd2_0 := Lib.hid (Xd2_0.out.below b20 Xd2_0.out.size)
  replace Xh0_0 := Lib.hid (Xh0_0.out.below b20 Xh0_0.out.size)
  replace HT := Lib.hid (HT.out.trans (b20.mono HT.out.size))
  clear b20
  go_wp2_with fail
  refine (heldIns  _ _ 1 _ Xg0_0.out.rd (by omega) (by omega)).mono ?_
  rintro e v21 ⟨rfl, b21⟩
  replace Xw0_0 := Lib.hid (Xw0_0.out.below b21 Xw0_0.out.size)
  replace Xg0_0 := Lib.hid (Xg0_0.out.below b21 Xg0_0.out.size)
  replace Xd1_0 := Lib.hid (Xd1_0.out.below b21 Xd1_0.out.size)
  replace Xd2_0 := Lib.hid (Xd2_0.out.below b21 Xd2_0.out.size)
  replace Xh0_0 := Lib.hid (Xh0_0.out.below b21 Xh0_0.out.size)
  replace HT := Lib.hid (HT.out.trans (b21.mono HT.out.size))
  clear b21
  go_wp2
  go_ret
  exact ⟨rfl, HB0.out.trans (HT.out.mono HB0.out.size)⟩

set_option maxRecDepth 100000 in
theorem lifted (os : Os) (started : os.Started) (H : Type) (enc : TypeId × Value → H) :
    ReturnsInHanded {} Try.checked os 11 .any (Rows.fnExactBranchProgramSpec.pre6 enc Try.prog Try.f11 Rows.fnExactBranchProgramRow.domain false) (Rows.fnExactBranchProgramSpec.post enc Try.prog Try.f11 false true false false) := by
  refine returnsInHanded_of_change (C := Try.checked) own started (by kernel_rfl) Try.func11
    (ChangeSpec.witness6 (enc := enc) (C := Try.checked) false ⟨#[], #[.int .i64 0, .slice none 0 0, .slice none 0 0], []⟩ 8 (by kernel_rfl) (by kernel_rfl) (by kernel_rfl) (by kernel_rfl)) ?_
  intro W base args ds gs before hval0 hW hcnd _
  have hval : ∀ (j : Nat) t v, Try.f11.params[j]? = some t → args[j]? = some v → Value.okWide Try.prog W .any base t v := hval0
  have hW' := hW
  obtain ⟨p, q, hA0, hV, rfl, hfz, hnd⟩ := hW
  have hA : DataW.TrodAll enc Try.prog W 0 (fun _ => true) true Try.f11.params.toList args.toList ds p := hA0
  rw [Try.params11] at hA hval
  obtain ⟨v0, vs0, d0, ds0, p0, q0, hargs, rfl, rfl, h0, r0⟩ := trodAll_cons hA
  obtain ⟨v1, vs1, d1, ds1, p1, q1, rfl, rfl, rfl, h1, r1⟩ := trodAll_cons r0
  obtain ⟨v2, vs2, d2, ds2, p2, q2, rfl, rfl, rfl, h2, r2⟩ := trodAll_cons r1
  obtain ⟨rfl, rfl, rfl⟩ := trodAll_nil r2
  obtain rfl : args = #[v0, v1, v2] := by cases args; simp_all
  obtain ⟨rfl, rfl⟩ := trodVars_none hV
  obtain ⟨a0, rfl, rfl, rfl, w0⟩ := open_int Try.underlying2 (hval 0 2 v0 rfl rfl) h0
  have k1 := h1
  have lt1 : ∀ x ∈ p1, x.block < W.heap.size := by obtain ⟨m, hm⟩ := k1; exact DataW.trod_lt m _ _ _ hm
  obtain ⟨a1_0, len1_0, cap1_0, rfl⟩ := okWide_slice Try.underlying22 (hval 1 22 v1 rfl rfl)
  obtain ⟨z1_0, w1_0⟩ : ∃ zs, IsIns W a1_0 len1_0 cap1_0 zs := by
    obtain ⟨fuel, hf⟩ := h1
    obtain ⟨a', len', cap', z', e', w'⟩ := open_Ins hf
    simp [Value.cells] at e'
    obtain ⟨rfl, rfl, rfl⟩ := e'
    exact ⟨z', w'⟩
  have k2 := h2
  have lt2 : ∀ x ∈ p2, x.block < W.heap.size := by obtain ⟨m, hm⟩ := k2; exact DataW.trod_lt m _ _ _ hm
  obtain ⟨a2_0, len2_0, cap2_0, rfl⟩ := okWide_slice Try.underlying22 (hval 2 22 v2 rfl rfl)
  obtain ⟨z2_0, w2_0⟩ : ∃ zs, IsIns W a2_0 len2_0 cap2_0 zs := by
    obtain ⟨fuel, hf⟩ := h2
    obtain ⟨a', len', cap', z', e', w'⟩ := open_Ins hf
    simp [Value.cells] at e'
    obtain ⟨rfl, rfl, rfl⟩ := e'
    exact ⟨z', w'⟩
  clear hA0 hval0
  refine (walk a0 a1_0 len1_0 cap1_0 z1_0 a2_0 len2_0 cap2_0 z2_0 W w0 w1_0 w2_0).mono fun e W' ⟨he, bel⟩ => ?_
  subst he
  exact ⟨_, rfl, _, _, _, [], _, [], hW', trodAll_mk1 (shut_bool Try.underlying4 _), (trodAll_cons_mk (shut_int Try.underlying2 w0) (trodAll_cons_mk (Below.trod laidOut (by kernel_rfl) (of_decide_eq_true (by kernel_rfl)) k1 bel lt1) (trodAll_cons_mk (Below.trod laidOut (by kernel_rfl) (of_decide_eq_true (by kernel_rfl)) k2 bel lt2) trodAll_mk0))), rfl, bel.frame _, fun h => by cases h⟩

theorem over : Rows.fnExactBranchProgramRow.holds Try.pinned (OpenSpec.ofChange Rows.fnExactBranchProgramSpec) :=
  OpenClaim.holds_of_wide 11 Try.f11 rfl rfl rfl rfl rfl rfl rfl ⟨rfl, rfl, rfl, rfl, rfl⟩ rfl rfl rfl rfl rfl (by kernel_rfl) Try.func11 (by kernel_rfl)
    (of_decide_eq_true (by kernel_rfl)) (by unfold Func.isWrapper; first | (rw [if_pos (by decide +kernel)]; kernel_rfl) | (rw [if_neg (by decide +kernel)]; exact ⟨rfl, rfl⟩))
    (fun os started H enc _ => lifted os started H enc)

/-- The statement. -/
theorem proved : Rows.FnExactBranchProgramSaid := over
#print axioms proved
end Go.Proofs.Ytfcakadmiflcdaa.fnExactBranchProgram
