/-   FnExactStartStore: for every list of instructions and every list of numbers the program's StartStore answers as its model, and leaves its arguments alone. No condition. -/
import Derived.Test.YtfcakadmiflcdaaRows
import Derived.WalkKit
import Derived.ProofKit
import Derived.OpenShut
import Derived.ShutString
import Derived.ChangeOld
import Derived.Below
import Derived.Lib.SmallJoins
import Derived.Deep.Strs
import Derived.OpenVars
import Derived.Handy
import Derived.Lib.Hide
import Derived.Deep.RegionHeld3
import Derived.Test.YtfcakadmiflcdaaSts
namespace Go.Proofs.Ytfcakadmiflcdaa.fnExactStartStore
open Go.ChangeShapes Go.WideShapes Go.ChangeAt Go.RowKit
set_option linter.unusedVariables false
set_option linter.unusedSimpArgs false

theorem own : ownKnob Try.prog.godebug = none := by kernel_rfl
theorem laidOut : laidOutB Try.prog = true := by kernel_rfl
open Ints

set_option maxHeartbeats 8000000 in
theorem walk (a0_0 : Option Addr) (len0_0 cap0_0 : Nat) (z0_0 : List Ins) (a1_0 : Option Addr) (len1_0 cap1_0 : Nat) (z1_0 : List Int) (w : World) (w0_0 : IsIns w a0_0 len0_0 cap0_0 z0_0) (w1_0 : IsList w a1_0 len1_0 cap1_0 z1_0) :
    Calls Try.prog 5 #[.slice a0_0 len0_0 cap0_0, .slice a1_0 len1_0 cap1_0] w fun e w' => e = .returned (.bool true) ∧ Below w.heap.size w w' := by
  have hz0_0 := w0_0.le
  obtain ⟨l0_0, hl0_0⟩ : ∃ l : Int, l = 1048576 - (len0_0 : Int) := ⟨_, rfl⟩
  by_cases hb1_0 : len1_0 ≤ 1048576
  rotate_left
  · have hc1_0 : (1048576 : Int) < (len1_0 : Int) := by omega
    have HB0 : Hid (Below w.heap.size w w) := Lib.hid (Below.refl _ _)
    have HL0_0 := Lib.hid hl0_0
    clear hl0_0
    go_enter Try.func5, Try.ntmps5
    go_wp2
    go_ret
    exact ⟨rfl, HB0.out⟩
  have hd1_0 : ¬ (1048576 : Int) < (len1_0 : Int) := by omega
  by_cases hn0_0 : 0 ≤ l0_0
  rotate_left
  · have hm0_0 : l0_0 < 0 := by omega
    have HB0 : Hid (Below w.heap.size w w) := Lib.hid (Below.refl _ _)
    have HL0_0 := Lib.hid hl0_0
    clear hl0_0
    go_enter Try.func5, Try.ntmps5
    go_wp2_with fail
    have HT : Hid (Below w.heap.size w w) := Lib.hid (Below.refl _ _)
    refine (szIns_bad0  _ _ _ _ (by have := HL0_0.out; omega) HL0_0.out hm0_0 hz0_0).mono ?_
    rintro e vz0 ⟨rfl, bz⟩
    replace HT := Lib.hid (HT.out.trans (bz.mono HT.out.size))
    clear bz
    go_wp2
    go_ret
    exact ⟨rfl, HB0.out.trans (HT.out.mono HB0.out.size)⟩
  have hm0_0 : ¬ l0_0 < 0 := by omega
  obtain ⟨y0_0, hy0_0⟩ : ∃ y, y = z0_0.take len0_0 := ⟨_, rfl⟩
  have R0_0 : Hid (RdIns w (.slice a0_0 len0_0 cap0_0) y0_0) := Lib.hid (by rw [hy0_0]; exact rdIns_of_row w0_0 (by omega))
  clear hy0_0 w0_0
  obtain ⟨y1_0, hy1_0⟩ : ∃ y, y = z1_0.take len1_0 := ⟨_, rfl⟩
  have R1_0 : Hid (Rd w (.slice a1_0 len1_0 cap1_0) y1_0) := Lib.hid (by rw [hy1_0]; exact rd_of_row w1_0 (by omega))
  clear hy1_0 w1_0
  have HB0 : Hid (Below w.heap.size w w) := Lib.hid (Below.refl _ _)
  have HL0_0 := Lib.hid hl0_0
  clear hl0_0
  replace R0_0 := Lib.hid (R0_0.out.below HB0.out (Nat.le_refl _))
  replace R1_0 := Lib.hid (R1_0.out.below HB0.out (Nat.le_refl _))
  have HT : Hid (Below w.heap.size w w) := Lib.hid (Below.refl _ _)
  go_enter Try.func5, Try.ntmps5
  go_wp2_with fail
  have HT : Hid (Below w.heap.size w w) := Lib.hid (Below.refl _ _)
  refine (szIns  _ _ _ _ (by have := HL0_0.out; omega) HL0_0.out hn0_0 hz0_0).mono ?_
  rintro e vz0 ⟨rfl, bz⟩
  replace HT := Lib.hid (HT.out.trans (bz.mono HT.out.size))
  clear bz
  clear HL0_0 hn0_0 hz0_0
  go_wp2_with fail
  refine (toIns  _ y0_0 _ (R0_0.out.below HT.out (Nat.le_refl _))).mono ?_
  rintro e v1 ⟨us0_0, rfl, os0_0, b1⟩
  have Ls0_0 := Lib.hid HT.out.size
  replace HT := Lib.hid (HT.out.trans (b1.mono HT.out.size))
  have Xs0_0 := Lib.hid os0_0
  obtain ⟨gas0_0, gcs0_0, hus0_0⟩ := os0_0.shape
  subst hus0_0
  clear os0_0
  clear b1
  go_wp2_with fail
  refine (toInts  _ y1_0 _ (R1_0.out.below HT.out (Nat.le_refl _))).mono ?_
  rintro e v2 ⟨us1_0, rfl, os1_0, b2⟩
  have Ss0_0_s1_0 := Lib.hid (sep_of Xs0_0.out.top os1_0.row.lt Xs0_0.out.size)
  have Ls1_0 := Lib.hid HT.out.size
  replace Xs0_0 := Lib.hid (Xs0_0.out.below b2 Xs0_0.out.size)
  replace HT := Lib.hid (HT.out.trans (b2.mono HT.out.size))
  have Xs1_0 := Lib.hid os1_0
  obtain ⟨gas1_0, gcs1_0, hus1_0⟩ := os1_0.shape
  subst hus1_0
  clear os1_0
  clear b2
  go_wp2_with fail
  refine (specStartStore _ y0_0 _ y1_0 _ Xs0_0.out.rd Xs1_0.out.rd).mono ?_
  rintro e v3 ⟨uw0_0, rfl, ow0_0, b3⟩
  have Ss0_0_w0_0 := Lib.hid (sep_of Xs0_0.out.top ow0_0.row.lt Xs0_0.out.size)
  have Ss1_0_w0_0 := Lib.hid (sep_of Xs1_0.out.top ow0_0.row.lt Xs1_0.out.size)
  have Lw0_0 := Lib.hid HT.out.size
  replace Xs0_0 := Lib.hid (Xs0_0.out.below b3 Xs0_0.out.size)
  replace Xs1_0 := Lib.hid (Xs1_0.out.below b3 Xs1_0.out.size)
  replace HT := Lib.hid (HT.out.trans (b3.mono HT.out.size))
  have Xw0_0 := Lib.hid ow0_0
  obtain ⟨gaw0_0, gcw0_0, huw0_0⟩ := ow0_0.shape
  subst huw0_0
  clear ow0_0
  clear b3
  clear Xs0_0
  clear Xs1_0
  have q1 : Below v3.heap.size v3 (v3.alloc (Obj.cells #[.int .i64 0, .slice gaw0_0 (ssL y0_0 y1_0).length gcw0_0] 34)) := (Below.refl _ _).alloc (Nat.le_refl _) _
  have Kw0 : Hid (Cels (v3.alloc (Obj.cells #[.int .i64 0, .slice gaw0_0 (ssL y0_0 y1_0).length gcw0_0] 34)) v3.heap.size 34 [.int .i64 0, .slice gaw0_0 (ssL y0_0 y1_0).length gcw0_0]) := Lib.hid (Cels.new _ _ _)
  replace Xw0_0 := Lib.hid (Xw0_0.out.below q1 Xw0_0.out.size)
  replace HT := Lib.hid (HT.out.trans (q1.mono HT.out.size))
  clear q1
  go_wp2_with fail
  refine (toIns  _ y0_0 _ (R0_0.out.below HT.out (Nat.le_refl _))).mono ?_
  rintro e v4 ⟨ux0_0, rfl, ox0_0, b4⟩
  have Sw0_0_x0_0 := Lib.hid (sep_of Xw0_0.out.top ox0_0.row.lt Xw0_0.out.size)
  have Lx0_0 := Lib.hid HT.out.size
  replace Xw0_0 := Lib.hid (Xw0_0.out.below b4 Xw0_0.out.size)
  replace Kw0 := Lib.hid (Kw0.out.below b4 Kw0.out.lt)
  replace HT := Lib.hid (HT.out.trans (b4.mono HT.out.size))
  have Xx0_0 := Lib.hid ox0_0
  obtain ⟨gax0_0, gcx0_0, hux0_0⟩ := ox0_0.shape
  subst hux0_0
  clear ox0_0
  clear b4
  go_wp2_with fail
  refine (toInts  _ y1_0 _ (R1_0.out.below HT.out (Nat.le_refl _))).mono ?_
  rintro e v5 ⟨ux1_0, rfl, ox1_0, b5⟩
  have Sw0_0_x1_0 := Lib.hid (sep_of Xw0_0.out.top ox1_0.row.lt Xw0_0.out.size)
  have Sx0_0_x1_0 := Lib.hid (sep_of Xx0_0.out.top ox1_0.row.lt Xx0_0.out.size)
  have Lx1_0 := Lib.hid HT.out.size
  replace Xw0_0 := Lib.hid (Xw0_0.out.below b5 Xw0_0.out.size)
  replace Xx0_0 := Lib.hid (Xx0_0.out.below b5 Xx0_0.out.size)
  replace Kw0 := Lib.hid (Kw0.out.below b5 Kw0.out.lt)
  replace HT := Lib.hid (HT.out.trans (b5.mono HT.out.size))
  have Xx1_0 := Lib.hid ox1_0
  obtain ⟨gax1_0, gcx1_0, hux1_0⟩ := ox1_0.shape
  subst hux1_0
  clear ox1_0
  clear b5
  go_wp2_with fail
  refine (implStartStore _ y0_0 _ y1_0 _ Xx0_0.out.rd Xx1_0.out.rd).mono ?_
  rintro e v6 ⟨ug0_0, rfl, og0_0, b6⟩
  have Sw0_0_g0_0 := Lib.hid (sep_of Xw0_0.out.top og0_0.row.lt Xw0_0.out.size)
  have Sx0_0_g0_0 := Lib.hid (sep_of Xx0_0.out.top og0_0.row.lt Xx0_0.out.size)
  have Sx1_0_g0_0 := Lib.hid (sep_of Xx1_0.out.top og0_0.row.lt Xx1_0.out.size)
  have Lg0_0 := Lib.hid HT.out.size
  replace Xw0_0 := Lib.hid (Xw0_0.out.below b6 Xw0_0.out.size)
  replace Xx0_0 := Lib.hid (Xx0_0.out.below b6 Xx0_0.out.size)
  replace Xx1_0 := Lib.hid (Xx1_0.out.below b6 Xx1_0.out.size)
  replace Kw0 := Lib.hid (Kw0.out.below b6 Kw0.out.lt)
  replace HT := Lib.hid (HT.out.trans (b6.mono HT.out.size))
  have Xg0_0 := Lib.hid og0_0
  obtain ⟨gag0_0, gcg0_0, hug0_0⟩ := og0_0.shape
  subst hug0_0
  clear og0_0
  clear b6
  have q2 : Below v6.heap.size v6 (v6.alloc (Obj.cells #[.int .i64 0, .slice gag0_0 (ssL y0_0 y1_0).length gcg0_0] 34)) := (Below.refl _ _).alloc (Nat.le_refl _) _
  have Kg0 : Hid (Cels (v6.alloc (Obj.cells #[.int .i64 0, .slice gag0_0 (ssL y0_0 y1_0).length gcg0_0] 34)) v6.heap.size 34 [.int .i64 0, .slice gag0_0 (ssL y0_0 y1_0).length gcg0_0]) := Lib.hid (Cels.new _ _ _)
  replace Xw0_0 := Lib.hid (Xw0_0.out.below q2 Xw0_0.out.size)
  replace Xx0_0 := Lib.hid (Xx0_0.out.below q2 Xx0_0.out.size)
  replace Xx1_0 := Lib.hid (Xx1_0.out.below q2 Xx1_0.out.size)
  replace Xg0_0 := Lib.hid (Xg0_0.out.below q2 Xg0_0.out.size)
  replace Kw0 := Lib.hid (Kw0.out.below q2 Kw0.out.lt)
  replace HT := Lib.hid (HT.out.trans (q2.mono HT.out.size))
  clear q2
  have zzKg0_0 := Kg0.out.cell 0 rfl
  have zzKg0_1 := Kg0.out.cell 1 rfl
  have zzKw0_0 := Kw0.out.cell 0 rfl
  have zzKw0_1 := Kw0.out.cell 1 rfl
  go_wp2_with fail
  refine (eqSto _ _ _ _ _ Xg0_0.out.rd Xw0_0.out.rd).mono ?_
  rintro e v7 ⟨rfl, b7⟩
  replace Xw0_0 := Lib.hid (Xw0_0.out.below b7 Xw0_0.out.size)
  replace Xx0_0 := Lib.hid (Xx0_0.out.below b7 Xx0_0.out.size)
  replace Xx1_0 := Lib.hid (Xx1_0.out.below b7 Xx1_0.out.size)
  replace Xg0_0 := Lib.hid (Xg0_0.out.below b7 Xg0_0.out.size)
  replace Kw0 := Lib.hid (Kw0.out.below b7 Kw0.out.lt)
  replace Kg0 := Lib.hid (Kg0.out.below b7 Kg0.out.lt)
  replace HT := Lib.hid (HT.out.trans (b7.mono HT.out.size))
  clear b7
  clear zzKg0_0 zzKg0_1 zzKw0_0 zzKw0_1
  go_wp2_with fail
  refine (toIns  _ y0_0 _ (R0_0.out.below HT.out (Nat.le_refl _))).mono ?_
  rintro e v8 ⟨uc0_0, rfl, oc0_0, b8⟩
  have Sw0_0_c0_0 := Lib.hid (sep_of Xw0_0.out.top oc0_0.row.lt Xw0_0.out.size)
  have Sx0_0_c0_0 := Lib.hid (sep_of Xx0_0.out.top oc0_0.row.lt Xx0_0.out.size)
  have Sx1_0_c0_0 := Lib.hid (sep_of Xx1_0.out.top oc0_0.row.lt Xx1_0.out.size)
  have Sg0_0_c0_0 := Lib.hid (sep_of Xg0_0.out.top oc0_0.row.lt Xg0_0.out.size)
  have Lc0_0 := Lib.hid HT.out.size
  replace Xw0_0 := Lib.hid (Xw0_0.out.below b8 Xw0_0.out.size)
  replace Xx0_0 := Lib.hid (Xx0_0.out.below b8 Xx0_0.out.size)
  replace Xx1_0 := Lib.hid (Xx1_0.out.below b8 Xx1_0.out.size)
  replace Xg0_0 := Lib.hid (Xg0_0.out.below b8 Xg0_0.out.size)
  replace Kw0 := Lib.hid (Kw0.out.below b8 Kw0.out.lt)
  replace Kg0 := Lib.hid (Kg0.out.below b8 Kg0.out.lt)
  replace HT := Lib.hid (HT.out.trans (b8.mono HT.out.size))
  have Xc0_0 := Lib.hid oc0_0
  obtain ⟨gac0_0, gcc0_0, huc0_0⟩ := oc0_0.shape
  subst huc0_0
  clear oc0_0
  clear b8
  go_wp2_with fail
  refine (eqIns  _ _ _ _ Xx0_0.out.rd Xc0_0.out.rd).mono ?_
  rintro e v9 ⟨rfl, b9⟩
  replace Xw0_0 := Lib.hid (Xw0_0.out.below b9 Xw0_0.out.size)
  replace Xx0_0 := Lib.hid (Xx0_0.out.below b9 Xx0_0.out.size)
  replace Xx1_0 := Lib.hid (Xx1_0.out.below b9 Xx1_0.out.size)
  replace Xg0_0 := Lib.hid (Xg0_0.out.below b9 Xg0_0.out.size)
  replace Xc0_0 := Lib.hid (Xc0_0.out.below b9 Xc0_0.out.size)
  replace Kw0 := Lib.hid (Kw0.out.below b9 Kw0.out.lt)
  replace Kg0 := Lib.hid (Kg0.out.below b9 Kg0.out.lt)
  replace HT := Lib.hid (HT.out.trans (b9.mono HT.out.size))
  clear b9
  clear Xc0_0
  go_wp2_with fail
  refine (toInts  _ y1_0 _ (R1_0.out.below HT.out (Nat.le_refl _))).mono ?_
  rintro e v10 ⟨uc1_0, rfl, oc1_0, b10⟩
  have Sw0_0_c1_0 := Lib.hid (sep_of Xw0_0.out.top oc1_0.row.lt Xw0_0.out.size)
  have Sx0_0_c1_0 := Lib.hid (sep_of Xx0_0.out.top oc1_0.row.lt Xx0_0.out.size)
  have Sx1_0_c1_0 := Lib.hid (sep_of Xx1_0.out.top oc1_0.row.lt Xx1_0.out.size)
  have Sg0_0_c1_0 := Lib.hid (sep_of Xg0_0.out.top oc1_0.row.lt Xg0_0.out.size)
  have Lc1_0 := Lib.hid HT.out.size
  replace Xw0_0 := Lib.hid (Xw0_0.out.below b10 Xw0_0.out.size)
  replace Xx0_0 := Lib.hid (Xx0_0.out.below b10 Xx0_0.out.size)
  replace Xx1_0 := Lib.hid (Xx1_0.out.below b10 Xx1_0.out.size)
  replace Xg0_0 := Lib.hid (Xg0_0.out.below b10 Xg0_0.out.size)
  replace Kw0 := Lib.hid (Kw0.out.below b10 Kw0.out.lt)
  replace Kg0 := Lib.hid (Kg0.out.below b10 Kg0.out.lt)
  replace HT := Lib.hid (HT.out.trans (b10.mono HT.out.size))
  have Xc1_0 := Lib.hid oc1_0
  obtain ⟨gac1_0, gcc1_0, huc1_0⟩ := oc1_0.shape
  subst huc1_0
  clear oc1_0
  clear b10
  go_wp2_with fail
  refine (eqInts  _ _ _ _ Xx1_0.out.rd Xc1_0.out.rd).mono ?_
  rintro e v11 ⟨rfl, b11⟩
  replace Xw0_0 := Lib.hid (Xw0_0.out.below b11 Xw0_0.out.size)
  replace Xx0_0 := Lib.hid (Xx0_0.out.below b11 Xx0_0.out.size)
  replace Xx1_0 := Lib.hid (Xx1_0.out.below b11 Xx1_0.out.size)
  replace Xg0_0 := Lib.hid (Xg0_0.out.below b11 Xg0_0.out.size)
  replace Xc1_0 := Lib.hid (Xc1_0.out.below b11 Xc1_0.out.size)
  replace Kw0 := Lib.hid (Kw0.out.below b11 Kw0.out.lt)
  replace Kg0 := Lib.hid (Kg0.out.below b11 Kg0.out.lt)
  replace HT := Lib.hid (HT.out.trans (b11.mono HT.out.size))
  clear b11
  clear Xc1_0
  go_wp2_with fail
  refine (markIns  _ _ (1) _ _ _ Xx0_0.out (by have r0_0 := R0_0.out.len; have r1_0 := R1_0.out.len; omega) (by have r0_0 := R0_0.out.len; have r1_0 := R1_0.out.len; omega)).mono ?_
  rintro e v12 ⟨rfl, o12, g12⟩
  replace Xw0_0 := Lib.hid (Xw0_0.out.grown g12 Sw0_0_x0_0.out.1)
  replace Xx1_0 := Lib.hid (Xx1_0.out.grown g12 Sx0_0_x1_0.out.2)
  replace Xg0_0 := Lib.hid (Xg0_0.out.grown g12 Sx0_0_g0_0.out.2)
  replace Kw0 := Lib.hid (Kw0.out.grown g12 (Xx0_0.out.nblk Kw0.out (by decide)))
  replace Kg0 := Lib.hid (Kg0.out.grown g12 (Xx0_0.out.nblk Kg0.out (by decide)))
  replace HT := Lib.hid (HT.out.trans ((Xx0_0.out.gb g12).mono Lx0_0.out))
  replace Xx0_0 := Lib.hid o12
  clear o12 g12
  go_wp2_with fail
  refine (markInts  _ _ (1 + 4 * (y0_0.length : Int)) _ _ _ Xx1_0.out (by have r0_0 := R0_0.out.len; have r1_0 := R1_0.out.len; omega) (by have r0_0 := R0_0.out.len; have r1_0 := R1_0.out.len; omega)).mono ?_
  rintro e v13 ⟨rfl, o13, g13⟩
  replace Xw0_0 := Lib.hid (Xw0_0.out.grown g13 Sw0_0_x1_0.out.1)
  replace Xx0_0 := Lib.hid (Xx0_0.out.grown g13 Sx0_0_x1_0.out.1)
  replace Xg0_0 := Lib.hid (Xg0_0.out.grown g13 Sx1_0_g0_0.out.2)
  replace Kw0 := Lib.hid (Kw0.out.grown g13 (Xx1_0.out.nblk Kw0.out (by decide)))
  replace Kg0 := Lib.hid (Kg0.out.grown g13 (Xx1_0.out.nblk Kg0.out (by decide)))
  replace HT := Lib.hid (HT.out.trans ((Xx1_0.out.gb g13).mono Lx1_0.out))
  replace Xx1_0 := Lib.hid o13
  clear o13 g13
  have zzKg0_0 := Kg0.out.cell 0 rfl
  have zzKg0_1 := Kg0.out.cell 1 rfl
  have zzKw0_0 := Kw0.out.cell 0 rfl
  have zzKw0_1 := Kw0.out.cell 1 rfl
  go_wp2_with fail
  refine (eqSto _ _ _ _ _ Xg0_0.out.rd Xw0_0.out.rd).mono ?_
  rintro e v14 ⟨rfl, b14⟩
  replace Xw0_0 := Lib.hid (Xw0_0.out.below b14 Xw0_0.out.size)
  replace Xx0_0 := Lib.hid (Xx0_0.out.below b14 Xx0_0.out.size)
  replace Xx1_0 := Lib.hid (Xx1_0.out.below b14 Xx1_0.out.size)
  replace Xg0_0 := Lib.hid (Xg0_0.out.below b14 Xg0_0.out.size)
  replace Kw0 := Lib.hid (Kw0.out.below b14 Kw0.out.lt)
  replace Kg0 := Lib.hid (Kg0.out.below b14 Kg0.out.lt)
  replace HT := Lib.hid (HT.out.trans (b14.mono HT.out.size))
  clear b14
  clear Xx0_0
  clear Xx1_0
  have N0_0 := Xg0_0.out.len
  clear zzKg0_0 zzKg0_1 zzKw0_0 zzKw0_1
  have zzKg0_0 := Kg0.out.cell 0 rfl
  have zzKg0_1 := Kg0.out.cell 1 rfl
  go_wp2_with fail
  refine (markSto _ _ _ 1 _ _ _ Xg0_0.out (by omega) (by omega)).mono ?_
  rintro e v15 ⟨rfl, o15, g15⟩
  replace Xw0_0 := Lib.hid (Xw0_0.out.grown g15 Sw0_0_g0_0.out.1)
  replace Kw0 := Lib.hid (Kw0.out.grown g15 (Xg0_0.out.nblk Kw0.out (by decide)))
  replace Kg0 := Lib.hid (Kg0.out.grown g15 (Xg0_0.out.nblk Kg0.out (by decide)))
  replace HT := Lib.hid (HT.out.trans ((Xg0_0.out.gb g15).mono Lg0_0.out))
  replace Xg0_0 := Lib.hid o15
  clear o15 g15
  clear zzKg0_0 zzKg0_1
  have zzKg0_0 := Kg0.out.cell 0 rfl
  have zzKg0_1 := Kg0.out.cell 1 rfl
  go_wp2_with fail
  refine (heldSto _ _ _ 1 _ Xg0_0.out.rd (by omega) (by omega) (by omega)).mono ?_
  rintro e v16 ⟨rfl, b16⟩
  replace Xw0_0 := Lib.hid (Xw0_0.out.below b16 Xw0_0.out.size)
  replace Xg0_0 := Lib.hid (Xg0_0.out.below b16 Xg0_0.out.size)
  replace Kw0 := Lib.hid (Kw0.out.below b16 Kw0.out.lt)
  replace Kg0 := Lib.hid (Kg0.out.below b16 Kg0.out.lt)
  replace HT := Lib.hid (HT.out.trans (b16.mono HT.out.size))
  clear b16
  clear zzKg0_0 zzKg0_1
  go_wp2_with fail
  refine (toIns  _ y0_0 _ (R0_0.out.below HT.out (Nat.le_refl _))).mono ?_
  rintro e v17 ⟨ud0_0, rfl, od0_0, b17⟩
  have Sw0_0_d0_0 := Lib.hid (sep_of Xw0_0.out.top od0_0.row.lt Xw0_0.out.size)
  have Sg0_0_d0_0 := Lib.hid (sep_of Xg0_0.out.top od0_0.row.lt Xg0_0.out.size)
  have Ld0_0 := Lib.hid HT.out.size
  replace Xw0_0 := Lib.hid (Xw0_0.out.below b17 Xw0_0.out.size)
  replace Xg0_0 := Lib.hid (Xg0_0.out.below b17 Xg0_0.out.size)
  replace Kw0 := Lib.hid (Kw0.out.below b17 Kw0.out.lt)
  replace Kg0 := Lib.hid (Kg0.out.below b17 Kg0.out.lt)
  replace HT := Lib.hid (HT.out.trans (b17.mono HT.out.size))
  have Xd0_0 := Lib.hid od0_0
  obtain ⟨gad0_0, gcd0_0, hud0_0⟩ := od0_0.shape
  subst hud0_0
  clear od0_0
  clear b17
  go_wp2_with fail
  refine (toInts  _ y1_0 _ (R1_0.out.below HT.out (Nat.le_refl _))).mono ?_
  rintro e v18 ⟨ud1_0, rfl, od1_0, b18⟩
  have Sw0_0_d1_0 := Lib.hid (sep_of Xw0_0.out.top od1_0.row.lt Xw0_0.out.size)
  have Sg0_0_d1_0 := Lib.hid (sep_of Xg0_0.out.top od1_0.row.lt Xg0_0.out.size)
  have Sd0_0_d1_0 := Lib.hid (sep_of Xd0_0.out.top od1_0.row.lt Xd0_0.out.size)
  have Ld1_0 := Lib.hid HT.out.size
  replace Xw0_0 := Lib.hid (Xw0_0.out.below b18 Xw0_0.out.size)
  replace Xg0_0 := Lib.hid (Xg0_0.out.below b18 Xg0_0.out.size)
  replace Xd0_0 := Lib.hid (Xd0_0.out.below b18 Xd0_0.out.size)
  replace Kw0 := Lib.hid (Kw0.out.below b18 Kw0.out.lt)
  replace Kg0 := Lib.hid (Kg0.out.below b18 Kg0.out.lt)
  replace HT := Lib.hid (HT.out.trans (b18.mono HT.out.size))
  have Xd1_0 := Lib.hid od1_0
  obtain ⟨gad1_0, gcd1_0, hud1_0⟩ := od1_0.shape
  subst hud1_0
  clear od1_0
  clear b18
  go_wp2_with fail
  refine (implStartStore _ y0_0 _ y1_0 _ Xd0_0.out.rd Xd1_0.out.rd).mono ?_
  rintro e v19 ⟨uh0_0, rfl, oh0_0, b19⟩
  have Sw0_0_h0_0 := Lib.hid (sep_of Xw0_0.out.top oh0_0.row.lt Xw0_0.out.size)
  have Sg0_0_h0_0 := Lib.hid (sep_of Xg0_0.out.top oh0_0.row.lt Xg0_0.out.size)
  have Sd0_0_h0_0 := Lib.hid (sep_of Xd0_0.out.top oh0_0.row.lt Xd0_0.out.size)
  have Sd1_0_h0_0 := Lib.hid (sep_of Xd1_0.out.top oh0_0.row.lt Xd1_0.out.size)
  have Lh0_0 := Lib.hid HT.out.size
  replace Xw0_0 := Lib.hid (Xw0_0.out.below b19 Xw0_0.out.size)
  replace Xg0_0 := Lib.hid (Xg0_0.out.below b19 Xg0_0.out.size)
  replace Xd0_0 := Lib.hid (Xd0_0.out.below b19 Xd0_0.out.size)
  replace Xd1_0 := Lib.hid (Xd1_0.out.below b19 Xd1_0.out.size)
  replace Kw0 := Lib.hid (Kw0.out.below b19 Kw0.out.lt)
  replace Kg0 := Lib.hid (Kg0.out.below b19 Kg0.out.lt)
  replace HT := Lib.hid (HT.out.trans (b19.mono HT.out.size))
  have Xh0_0 := Lib.hid oh0_0
  obtain ⟨gah0_0, gch0_0, huh0_0⟩ := oh0_0.shape
  subst huh0_0
  clear oh0_0
  clear b19
  have q3 : Below v19.heap.size v19 (v19.alloc (Obj.cells #[.int .i64 0, .slice gah0_0 (ssL y0_0 y1_0).length gch0_0] 34)) := (Below.refl _ _).alloc (Nat.le_refl _) _
  have Kh0 : Hid (Cels (v19.alloc (Obj.cells #[.int .i64 0, .slice gah0_0 (ssL y0_0 y1_0).length gch0_0] 34)) v19.heap.size 34 [.int .i64 0, .slice gah0_0 (ssL y0_0 y1_0).length gch0_0]) := Lib.hid (Cels.new _ _ _)
  replace Xw0_0 := Lib.hid (Xw0_0.out.below q3 Xw0_0.out.size)
  replace Xg0_0 := Lib.hid (Xg0_0.out.below q3 Xg0_0.out.size)
  replace Xd0_0 := Lib.hid (Xd0_0.out.below q3 Xd0_0.out.size)
  replace Xd1_0 := Lib.hid (Xd1_0.out.below q3 Xd1_0.out.size)
  replace Xh0_0 := Lib.hid (Xh0_0.out.below q3 Xh0_0.out.size)
  replace Kw0 := Lib.hid (Kw0.out.below q3 Kw0.out.lt)
  replace Kg0 := Lib.hid (Kg0.out.below q3 Kg0.out.lt)
  replace HT := Lib.hid (HT.out.trans (q3.mono HT.out.size))
  clear q3
  have zzKh0_0 := Kh0.out.cell 0 rfl
  have zzKh0_1 := Kh0.out.cell 1 rfl
  have zzKw0_0 := Kw0.out.cell 0 rfl
  have zzKw0_1 := Kw0.out.cell 1 rfl
  go_wp2_with fail
  refine (eqSto _ _ _ _ _ Xh0_0.out.rd Xw0_0.out.rd).mono ?_
  rintro e v20 ⟨rfl, b20⟩
  replace Xw0_0 := Lib.hid (Xw0_0.out.below b20 Xw0_0.out.size)
  replace Xg0_0 := Lib.hid (Xg0_0.out.below b20 Xg0_0.out.size)
  replace Xd0_0 := Lib.hid (Xd0_0.out.below b20 Xd0_0.out.size)
  replace Xd1_0 := Lib.hid (Xd1_0.out.below b20 Xd1_0.out.size)
  replace Xh0_0 := Lib.hid (Xh0_0.out.below b20 Xh0_0.out.size)
  replace Kw0 := Lib.hid (Kw0.out.below b20 Kw0.out.lt)
  replace Kg0 := Lib.hid (Kg0.out.below b20 Kg0.out.lt)
  replace Kh0 := Lib.hid (Kh0.out.below b20 Kh0.out.lt)
  replace HT := Lib.hid (HT.out.trans (b20.mono HT.out.size))
  clear b20
  clear zzKh0_0 zzKh0_1 zzKw0_0 zzKw0_1
  have zzKg0_0 := Kg0.out.cell 0 rfl
  have zzKg0_1 := Kg0.out.cell 1 rfl
  go_wp2_with fail
  refine (heldSto _ _ _ 1 _ Xg0_0.out.rd (by omega) (by omega) (by omega)).mono ?_
  rintro e v21 ⟨rfl, b21⟩
  replace Xw0_0 := Lib.hid (Xw0_0.out.below b21 Xw0_0.out.size)
  replace Xg0_0 := Lib.hid (Xg0_0.out.below b21 Xg0_0.out.size)
  replace Xd0_0 := Lib.hid (Xd0_0.out.below b21 Xd0_0.out.size)
  replace Xd1_0 := Lib.hid (Xd1_0.out.below b21 Xd1_0.out.size)
  replace Xh0_0 := Lib.hid (Xh0_0.out.below b21 Xh0_0.out.size)
  replace Kw0 := Lib.hid (Kw0.out.below b21 Kw0.out.lt)
  replace Kg0 := Lib.hid (Kg0.out.below b21 Kg0.out.lt)
  replace Kh0 := Lib.hid (Kh0.out.below b21 Kh0.out.lt)
  replace HT := Lib.hid (HT.out.trans (b21.mono HT.out.size))
  clear b21
  go_wp2
  go_ret
  exact ⟨rfl, HB0.out.trans (HT.out.mono HB0.out.size)⟩

set_option maxRecDepth 100000 in
theorem lifted (os : Os) (started : os.Started) (H : Type) (enc : TypeId × Value → H) :
    ReturnsInHanded {} Try.checked os 5 .any (Rows.fnExactStartStoreSpec.pre6 enc Try.prog Try.f5 Rows.fnExactStartStoreRow.domain false) (Rows.fnExactStartStoreSpec.post enc Try.prog Try.f5 false true false false) := by
  refine returnsInHanded_of_change (C := Try.checked) own started (by kernel_rfl) Try.func5
    (ChangeSpec.witness6 (enc := enc) (C := Try.checked) false ⟨#[], #[.slice none 0 0, .slice none 0 0], []⟩ 8 (by kernel_rfl) (by kernel_rfl) (by kernel_rfl) (by kernel_rfl)) ?_
  intro W base args ds gs before hval0 hW hcnd _
  have hval : ∀ (j : Nat) t v, Try.f5.params[j]? = some t → args[j]? = some v → Value.okWide Try.prog W .any base t v := hval0
  have hW' := hW
  obtain ⟨p, q, hA0, hV, rfl, hfz, hnd⟩ := hW
  have hA : DataW.TrodAll enc Try.prog W 0 (fun _ => true) true Try.f5.params.toList args.toList ds p := hA0
  rw [Try.params5] at hA hval
  obtain ⟨v0, vs0, d0, ds0, p0, q0, hargs, rfl, rfl, h0, r0⟩ := trodAll_cons hA
  obtain ⟨v1, vs1, d1, ds1, p1, q1, rfl, rfl, rfl, h1, r1⟩ := trodAll_cons r0
  obtain ⟨rfl, rfl, rfl⟩ := trodAll_nil r1
  obtain rfl : args = #[v0, v1] := by cases args; simp_all
  obtain ⟨rfl, rfl⟩ := trodVars_none hV
  have k0 := h0
  have lt0 : ∀ x ∈ p0, x.block < W.heap.size := by obtain ⟨m, hm⟩ := k0; exact DataW.trod_lt m _ _ _ hm
  obtain ⟨a0_0, len0_0, cap0_0, rfl⟩ := okWide_slice Try.underlying22 (hval 0 22 v0 rfl rfl)
  obtain ⟨z0_0, w0_0⟩ : ∃ zs, IsIns W a0_0 len0_0 cap0_0 zs := by
    obtain ⟨fuel, hf⟩ := h0
    obtain ⟨a', len', cap', z', e', w'⟩ := open_Ins hf
    simp [Value.cells] at e'
    obtain ⟨rfl, rfl, rfl⟩ := e'
    exact ⟨z', w'⟩
  have k1 := h1
  have lt1 : ∀ x ∈ p1, x.block < W.heap.size := by obtain ⟨m, hm⟩ := k1; exact DataW.trod_lt m _ _ _ hm
  obtain ⟨a1_0, len1_0, cap1_0, rfl⟩ := okWide_slice Try.underlying29 (hval 1 29 v1 rfl rfl)
  obtain ⟨z1_0, w1_0⟩ : ∃ zs, IsList W a1_0 len1_0 cap1_0 zs := by
    obtain ⟨fuel, hf⟩ := h1
    obtain ⟨a', len', cap', z', e', w'⟩ := open_list hf
    simp [Value.cells] at e'
    obtain ⟨rfl, rfl, rfl⟩ := e'
    exact ⟨z', w'⟩
  clear hA0 hval0
  refine (walk a0_0 len0_0 cap0_0 z0_0 a1_0 len1_0 cap1_0 z1_0 W w0_0 w1_0).mono fun e W' ⟨he, bel⟩ => ?_
  subst he
  exact ⟨_, rfl, _, _, _, [], _, [], hW', trodAll_mk1 (shut_bool Try.underlying4 _), (trodAll_cons_mk (Below.trod laidOut (by kernel_rfl) (of_decide_eq_true (by kernel_rfl)) k0 bel lt0) (trodAll_cons_mk (Below.trod laidOut (by kernel_rfl) (of_decide_eq_true (by kernel_rfl)) k1 bel lt1) trodAll_mk0)), rfl, bel.frame _, fun h => by cases h⟩

theorem over : Rows.fnExactStartStoreRow.holds Try.pinned (OpenSpec.ofChange Rows.fnExactStartStoreSpec) :=
  OpenClaim.holds_of_wide 5 Try.f5 rfl rfl rfl rfl rfl rfl rfl ⟨rfl, rfl, rfl, rfl, rfl⟩ rfl rfl rfl rfl rfl (by kernel_rfl) Try.func5 (by kernel_rfl)
    (of_decide_eq_true (by kernel_rfl)) (by unfold Func.isWrapper; first | (rw [if_pos (by decide +kernel)]; kernel_rfl) | (rw [if_neg (by decide +kernel)]; exact ⟨rfl, rfl⟩))
    (fun os started H enc _ => lifted os started H enc)

/-- The statement. -/
theorem proved : Rows.FnExactStartStoreSaid := over
#print axioms proved
end Go.Proofs.Ytfcakadmiflcdaa.fnExactStartStore
