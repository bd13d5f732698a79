/-   FnExactReadStore: for every list of instructions and every text the program's ReadStore answers as its model, leaves its arguments alone, and its answer is memory of its own. The library's tables and error variables are read as the program's text lays them (the card). -/
import Derived.Test.YtbifkjmmhfnblaaDoorRows
import Derived.Test.YtbifkjmmhfnblaaDoorCards
import Derived.Test.YtbifkjmmhfnblaaDoorTie
import Derived.WalkKit
import Derived.ProofKit
import Derived.OpenShut
import Derived.ShutString
import Derived.ChangeOld
import Derived.Below
import Derived.Lib.SmallJoins
import Derived.Deep.Strs
import Derived.OpenVars
import Derived.ChangeMaps5
import Derived.LaidMore
import Derived.Lay
import Derived.LaidOnce
import Derived.SevenTiedAt
import Derived.Stop.Joined
import Derived.Handy
import Derived.Lib.Hide
import Derived.Deep.RegionHeld3
import Derived.Test.YtbifkjmmhfnblaaDoorRsI
import Derived.Test.YtbifkjmmhfnblaaDoorSto
import Derived.Test.YtbifkjmmhfnblaaDoorShw
namespace Go.Proofs.YtbifkjmmhfnblaaDoor.fnExactReadStore
open Go.ChangeShapes Go.WideShapes Go.ChangeAt Go.RowKit
set_option linter.unusedVariables false
set_option linter.unusedSimpArgs false

theorem own : ownKnob Tryd.prog.godebug = none := by kernel_rfl
theorem laidOut : laidOutB Tryd.prog = true := by kernel_rfl
open Ints

set_option maxHeartbeats 8000000 in
theorem walk (a0_0 : Option Addr) (len0_0 cap0_0 : Nat) (z0_0 : List Ins) (s1 : ByteArray) (w : World) (w0_0 : IsIns w a0_0 len0_0 cap0_0 z0_0) (w1 : s1.size ≤ maxLen) (her : ErrV w) (htab : TabV w) (hmax : MaxV w) :
    Calls Tryd.prog 5 #[.slice a0_0 len0_0 cap0_0, .string s1] w fun e w' => e = .returned (.bool true) ∧ Below w.heap.size w w' := by
  have HTab := Lib.hid htab
  have HEr := Lib.hid her
  have HMx := Lib.hid hmax
  clear htab her hmax
  by_cases hbs1 : s1.size ≤ 1048576
  rotate_left
  · have ds1_0 : decide ((1048576 : Int) < (s1.size : Int)) = true := decide_eq_true (by omega)
    have ds1_1 : decide (1048576 < s1.size) = true := decide_eq_true (by omega)
    have ds1_2 : (1048576 : Int) < (s1.size : Int) := by omega
    clear hbs1
    go_enter Tryd.func5, Tryd.ntmps5
    go_wp2
    go_ret
    exact ⟨rfl, Below.refl _ _⟩
  have ds1_0 : decide ((1048576 : Int) < (s1.size : Int)) = false := decide_eq_false (by omega)
  have ds1_1 : decide (1048576 < s1.size) = false := decide_eq_false (by omega)
  have ds1_2 : ¬ (1048576 : Int) < (s1.size : Int) := by omega
  have HSz1 := Lib.hid hbs1
  clear hbs1
  have hz0_0 := w0_0.le
  obtain ⟨l0_0, hl0_0⟩ : ∃ l : Int, l = 1048576 - (len0_0 : Int) := ⟨_, rfl⟩
  by_cases hn0_0 : 0 ≤ l0_0
  rotate_left
  · have hm0_0 : l0_0 < 0 := by omega
    have HB0 : Hid (Below w.heap.size w w) := Lib.hid (Below.refl _ _)
    have HL0_0 := Lib.hid hl0_0
    clear hl0_0
    go_enter Tryd.func5, Tryd.ntmps5
    go_wp2_with fail
    have HT : Hid (Below w.heap.size w w) := Lib.hid (Below.refl _ _)
    refine (szIns_bad0  _ _ _ _ (by have := HL0_0.out; omega) HL0_0.out hm0_0 hz0_0).mono ?_
    rintro e vz0 ⟨rfl, bz⟩
    replace HT := Lib.hid (HT.out.trans (bz.mono HT.out.size))
    clear bz
    go_wp2
    go_ret
    exact ⟨rfl, HB0.out.trans (HT.out.mono HB0.out.size)⟩
  have hm0_0 : ¬ l0_0 < 0 := by omega
  obtain ⟨y0_0, hy0_0⟩ : ∃ y, y = z0_0.take len0_0 := ⟨_, rfl⟩
  have R0_0 : Hid (RdIns w (.slice a0_0 len0_0 cap0_0) y0_0) := Lib.hid (by rw [hy0_0]; exact rdIns_of_row w0_0 (by omega))
  clear hy0_0 w0_0
  have HB0 : Hid (Below w.heap.size w w) := Lib.hid (Below.refl _ _)
  have HL0_0 := Lib.hid hl0_0
  clear hl0_0
  replace R0_0 := Lib.hid (R0_0.out.below HB0.out (Nat.le_refl _))
  have HT : Hid (Below w.heap.size w w) := Lib.hid (Below.refl _ _)
  go_enter Tryd.func5, Tryd.ntmps5
  go_wp2_with fail
  have HT : Hid (Below w.heap.size w w) := Lib.hid (Below.refl _ _)
  refine (szIns  _ _ _ _ (by have := HL0_0.out; omega) HL0_0.out hn0_0 hz0_0).mono ?_
  rintro e vz0 ⟨rfl, bz⟩
  replace HT := Lib.hid (HT.out.trans (bz.mono HT.out.size))
  clear bz
  clear HL0_0 hn0_0 hz0_0
  go_wp2_with fail
  refine (toIns  _ y0_0 _ (R0_0.out.below HT.out (Nat.le_refl _))).mono ?_
  rintro e v1 ⟨us0_0, rfl, os0_0, b1⟩
  have Ls0_0 := Lib.hid HT.out.size
  replace HT := Lib.hid (HT.out.trans (b1.mono HT.out.size))
  have Xs0_0 := Lib.hid os0_0
  obtain ⟨gas0_0, gcs0_0, hus0_0⟩ := os0_0.shape
  subst hus0_0
  clear os0_0
  clear b1
  go_wp2_with fail
  refine (specReadSt _ y0_0 s1 _ Xs0_0.out.rd HSz1.out).mono ?_
  rintro e v2 ⟨uw0_0, rfl, ow0_0, b2⟩
  have Ss0_0_w0_0 := Lib.hid (sep_of Xs0_0.out.top ow0_0.row.lt Xs0_0.out.size)
  have Lw0_0 := Lib.hid HT.out.size
  replace Xs0_0 := Lib.hid (Xs0_0.out.below b2 Xs0_0.out.size)
  replace HT := Lib.hid (HT.out.trans (b2.mono HT.out.size))
  have Xw0_0 := Lib.hid ow0_0
  obtain ⟨gaw0_0, gcw0_0, huw0_0⟩ := ow0_0.shape
  subst huw0_0
  clear ow0_0
  clear b2
  clear Xs0_0
  have q1 : Below v2.heap.size v2 (v2.alloc (Obj.cells #[.int .i64 (rsX y0_0 s1.data.toList), .slice gaw0_0 (rsL y0_0 s1.data.toList).length gcw0_0] 36)) := (Below.refl _ _).alloc (Nat.le_refl _) _
  have Kw0 : Hid (Cels (v2.alloc (Obj.cells #[.int .i64 (rsX y0_0 s1.data.toList), .slice gaw0_0 (rsL y0_0 s1.data.toList).length gcw0_0] 36)) v2.heap.size 36 [.int .i64 (rsX y0_0 s1.data.toList), .slice gaw0_0 (rsL y0_0 s1.data.toList).length gcw0_0]) := Lib.hid (Cels.new _ _ _)
  replace Xw0_0 := Lib.hid (Xw0_0.out.below q1 Xw0_0.out.size)
  replace HT := Lib.hid (HT.out.trans (q1.mono HT.out.size))
  clear q1
  go_wp2_with fail
  refine (toIns  _ y0_0 _ (R0_0.out.below HT.out (Nat.le_refl _))).mono ?_
  rintro e v3 ⟨ux0_0, rfl, ox0_0, b3⟩
  have Sw0_0_x0_0 := Lib.hid (sep_of Xw0_0.out.top ox0_0.row.lt Xw0_0.out.size)
  have Lx0_0 := Lib.hid HT.out.size
  replace Xw0_0 := Lib.hid (Xw0_0.out.below b3 Xw0_0.out.size)
  replace Kw0 := Lib.hid (Kw0.out.below b3 Kw0.out.lt)
  replace HT := Lib.hid (HT.out.trans (b3.mono HT.out.size))
  have Xx0_0 := Lib.hid ox0_0
  obtain ⟨gax0_0, gcx0_0, hux0_0⟩ := ox0_0.shape
  subst hux0_0
  clear ox0_0
  clear b3
  go_wp2_with fail
  refine (implReadSt _ y0_0 s1 _ Xx0_0.out.rd HSz1.out (HTab.out.below HT.out (Nat.le_refl _)) (HEr.out.below HT.out (Nat.le_refl _)) (HMx.out.below HT.out (Nat.le_refl _))).mono ?_
  rintro e v4 ⟨ug0_0, rfl, og0_0, b4⟩
  have Sw0_0_g0_0 := Lib.hid (sep_of Xw0_0.out.top og0_0.row.lt Xw0_0.out.size)
  have Sx0_0_g0_0 := Lib.hid (sep_of Xx0_0.out.top og0_0.row.lt Xx0_0.out.size)
  have Lg0_0 := Lib.hid HT.out.size
  replace Xw0_0 := Lib.hid (Xw0_0.out.below b4 Xw0_0.out.size)
  replace Xx0_0 := Lib.hid (Xx0_0.out.below b4 Xx0_0.out.size)
  replace Kw0 := Lib.hid (Kw0.out.below b4 Kw0.out.lt)
  replace HT := Lib.hid (HT.out.trans (b4.mono HT.out.size))
  have Xg0_0 := Lib.hid og0_0
  obtain ⟨gag0_0, gcg0_0, hug0_0⟩ := og0_0.shape
  subst hug0_0
  clear og0_0
  clear b4
  have q2 : Below v4.heap.size v4 (v4.alloc (Obj.cells #[.int .i64 (rsX y0_0 s1.data.toList), .slice gag0_0 (rsL y0_0 s1.data.toList).length gcg0_0] 36)) := (Below.refl _ _).alloc (Nat.le_refl _) _
  have Kg0 : Hid (Cels (v4.alloc (Obj.cells #[.int .i64 (rsX y0_0 s1.data.toList), .slice gag0_0 (rsL y0_0 s1.data.toList).length gcg0_0] 36)) v4.heap.size 36 [.int .i64 (rsX y0_0 s1.data.toList), .slice gag0_0 (rsL y0_0 s1.data.toList).length gcg0_0]) := Lib.hid (Cels.new _ _ _)
  replace Xw0_0 := Lib.hid (Xw0_0.out.below q2 Xw0_0.out.size)
  replace Xx0_0 := Lib.hid (Xx0_0.out.below q2 Xx0_0.out.size)
  replace Xg0_0 := Lib.hid (Xg0_0.out.below q2 Xg0_0.out.size)
  replace Kw0 := Lib.hid (Kw0.out.below q2 Kw0.out.lt)
  replace HT := Lib.hid (HT.out.trans (q2.mono HT.out.size))
  clear q2
  have zzKg0_0 := Kg0.out.cell 0 rfl
  have zzKg0_1 := Kg0.out.cell 1 rfl
  have zzKw0_0 := Kw0.out.cell 0 rfl
  have zzKw0_1 := Kw0.out.cell 1 rfl
  go_wp2_with fail
  refine (eqSto _ _ _ _ _ Xg0_0.out.rd Xw0_0.out.rd).mono ?_
  rintro e v5 ⟨rfl, b5⟩
  replace Xw0_0 := Lib.hid (Xw0_0.out.below b5 Xw0_0.out.size)
  replace Xx0_0 := Lib.hid (Xx0_0.out.below b5 Xx0_0.out.size)
  replace Xg0_0 := Lib.hid (Xg0_0.out.below b5 Xg0_0.out.size)
  replace Kw0 := Lib.hid (Kw0.out.below b5 Kw0.out.lt)
  replace Kg0 := Lib.hid (Kg0.out.below b5 Kg0.out.lt)
  replace HT := Lib.hid (HT.out.trans (b5.mono HT.out.size))
  clear b5
  clear zzKg0_0 zzKg0_1 zzKw0_0 zzKw0_1
  go_wp2_with fail
  refine (toIns  _ y0_0 _ (R0_0.out.below HT.out (Nat.le_refl _))).mono ?_
  rintro e v6 ⟨uc0_0, rfl, oc0_0, b6⟩
  have Sw0_0_c0_0 := Lib.hid (sep_of Xw0_0.out.top oc0_0.row.lt Xw0_0.out.size)
  have Sx0_0_c0_0 := Lib.hid (sep_of Xx0_0.out.top oc0_0.row.lt Xx0_0.out.size)
  have Sg0_0_c0_0 := Lib.hid (sep_of Xg0_0.out.top oc0_0.row.lt Xg0_0.out.size)
  have Lc0_0 := Lib.hid HT.out.size
  replace Xw0_0 := Lib.hid (Xw0_0.out.below b6 Xw0_0.out.size)
  replace Xx0_0 := Lib.hid (Xx0_0.out.below b6 Xx0_0.out.size)
  replace Xg0_0 := Lib.hid (Xg0_0.out.below b6 Xg0_0.out.size)
  replace Kw0 := Lib.hid (Kw0.out.below b6 Kw0.out.lt)
  replace Kg0 := Lib.hid (Kg0.out.below b6 Kg0.out.lt)
  replace HT := Lib.hid (HT.out.trans (b6.mono HT.out.size))
  have Xc0_0 := Lib.hid oc0_0
  obtain ⟨gac0_0, gcc0_0, huc0_0⟩ := oc0_0.shape
  subst huc0_0
  clear oc0_0
  clear b6
  go_wp2_with fail
  refine (eqIns  _ _ _ _ Xx0_0.out.rd Xc0_0.out.rd).mono ?_
  rintro e v7 ⟨rfl, b7⟩
  replace Xw0_0 := Lib.hid (Xw0_0.out.below b7 Xw0_0.out.size)
  replace Xx0_0 := Lib.hid (Xx0_0.out.below b7 Xx0_0.out.size)
  replace Xg0_0 := Lib.hid (Xg0_0.out.below b7 Xg0_0.out.size)
  replace Xc0_0 := Lib.hid (Xc0_0.out.below b7 Xc0_0.out.size)
  replace Kw0 := Lib.hid (Kw0.out.below b7 Kw0.out.lt)
  replace Kg0 := Lib.hid (Kg0.out.below b7 Kg0.out.lt)
  replace HT := Lib.hid (HT.out.trans (b7.mono HT.out.size))
  clear b7
  clear Xc0_0
  go_wp2_with fail
  refine (markIns  _ _ (1) _ _ _ Xx0_0.out (by have r0_0 := R0_0.out.len; omega) (by have r0_0 := R0_0.out.len; omega)).mono ?_
  rintro e v8 ⟨rfl, o8, g8⟩
  replace Xw0_0 := Lib.hid (Xw0_0.out.grown g8 Sw0_0_x0_0.out.1)
  replace Xg0_0 := Lib.hid (Xg0_0.out.grown g8 Sx0_0_g0_0.out.2)
  replace Kw0 := Lib.hid (Kw0.out.grown g8 (Xx0_0.out.nblk Kw0.out (by decide)))
  replace Kg0 := Lib.hid (Kg0.out.grown g8 (Xx0_0.out.nblk Kg0.out (by decide)))
  replace HT := Lib.hid (HT.out.trans ((Xx0_0.out.gb g8).mono Lx0_0.out))
  replace Xx0_0 := Lib.hid o8
  clear o8 g8
  have zzKg0_0 := Kg0.out.cell 0 rfl
  have zzKg0_1 := Kg0.out.cell 1 rfl
  have zzKw0_0 := Kw0.out.cell 0 rfl
  have zzKw0_1 := Kw0.out.cell 1 rfl
  go_wp2_with fail
  refine (eqSto _ _ _ _ _ Xg0_0.out.rd Xw0_0.out.rd).mono ?_
  rintro e v9 ⟨rfl, b9⟩
  replace Xw0_0 := Lib.hid (Xw0_0.out.below b9 Xw0_0.out.size)
  replace Xx0_0 := Lib.hid (Xx0_0.out.below b9 Xx0_0.out.size)
  replace Xg0_0 := Lib.hid (Xg0_0.out.below b9 Xg0_0.out.size)
  replace Kw0 := Lib.hid (Kw0.out.below b9 Kw0.out.lt)
  replace Kg0 := Lib.hid (Kg0.out.below b9 Kg0.out.lt)
  replace HT := Lib.hid (HT.out.trans (b9.mono HT.out.size))
  clear b9
  clear Xx0_0
  have N0_0 := Xg0_0.out.len
  clear zzKg0_0 zzKg0_1 zzKw0_0 zzKw0_1
  have zzKg0_0 := Kg0.out.cell 0 rfl
  have zzKg0_1 := Kg0.out.cell 1 rfl
  go_wp2_with fail
  refine (markSto _ _ _ 1 _ _ _ Xg0_0.out (by omega) (by omega)).mono ?_
  rintro e v10 ⟨rfl, o10, g10⟩
  replace Xw0_0 := Lib.hid (Xw0_0.out.grown g10 Sw0_0_g0_0.out.1)
  replace Kw0 := Lib.hid (Kw0.out.grown g10 (Xg0_0.out.nblk Kw0.out (by decide)))
  replace Kg0 := Lib.hid (Kg0.out.grown g10 (Xg0_0.out.nblk Kg0.out (by decide)))
  replace HT := Lib.hid (HT.out.trans ((Xg0_0.out.gb g10).mono Lg0_0.out))
  replace Xg0_0 := Lib.hid o10
  clear o10 g10
  clear zzKg0_0 zzKg0_1
  have zzKg0_0 := Kg0.out.cell 0 rfl
  have zzKg0_1 := Kg0.out.cell 1 rfl
  go_wp2_with fail
  refine (heldSto _ _ _ 1 _ Xg0_0.out.rd (by omega) (by omega) (by omega)).mono ?_
  rintro e v11 ⟨rfl, b11⟩
  replace Xw0_0 := Lib.hid (Xw0_0.out.below b11 Xw0_0.out.size)
  replace Xg0_0 := Lib.hid (Xg0_0.out.below b11 Xg0_0.out.size)
  replace Kw0 := Lib.hid (Kw0.out.below b11 Kw0.out.lt)
  replace Kg0 := Lib.hid (Kg0.out.below b11 Kg0.out.lt)
  replace HT := Lib.hid (HT.out.trans (b11.mono HT.out.size))
  clear b11
  clear zzKg0_0 zzKg0_1
  go_wp2_with fail
  refine (toIns  _ y0_0 _ (R0_0.out.below HT.out (Nat.le_refl _))).mono ?_
  rintro e v12 ⟨ud0_0, rfl, od0_0, b12⟩
  have Sw0_0_d0_0 := Lib.hid (sep_of Xw0_0.out.top od0_0.row.lt Xw0_0.out.size)
  have Sg0_0_d0_0 := Lib.hid (sep_of Xg0_0.out.top od0_0.row.lt Xg0_0.out.size)
  have Ld0_0 := Lib.hid HT.out.size
  replace Xw0_0 := Lib.hid (Xw0_0.out.below b12 Xw0_0.out.size)
  replace Xg0_0 := Lib.hid (Xg0_0.out.below b12 Xg0_0.out.size)
  replace Kw0 := Lib.hid (Kw0.out.below b12 Kw0.out.lt)
  replace Kg0 := Lib.hid (Kg0.out.below b12 Kg0.out.lt)
  replace HT := Lib.hid (HT.out.trans (b12.mono HT.out.size))
  have Xd0_0 := Lib.hid od0_0
  obtain ⟨gad0_0, gcd0_0, hud0_0⟩ := od0_0.shape
  subst hud0_0
  clear od0_0
  clear b12
  go_wp2_with fail
  refine (implReadSt _ y0_0 s1 _ Xd0_0.out.rd HSz1.out (HTab.out.below HT.out (Nat.le_refl _)) (HEr.out.below HT.out (Nat.le_refl _)) (HMx.out.below HT.out (Nat.le_refl _))).mono ?_
  rintro e v13 ⟨uh0_0, rfl, oh0_0, b13⟩
  have Sw0_0_h0_0 := Lib.hid (sep_of Xw0_0.out.top oh0_0.row.lt Xw0_0.out.size)
  have Sg0_0_h0_0 := Lib.hid (sep_of Xg0_0.out.top oh0_0.row.lt Xg0_0.out.size)
  have Sd0_0_h0_0 := Lib.hid (sep_of Xd0_0.out.top oh0_0.row.lt Xd0_0.out.size)
  have Lh0_0 := Lib.hid HT.out.size
  replace Xw0_0 := Lib.hid (Xw0_0.out.below b13 Xw0_0.out.size)
  replace Xg0_0 := Lib.hid (Xg0_0.out.below b13 Xg0_0.out.size)
  replace Xd0_0 := Lib.hid (Xd0_0.out.below b13 Xd0_0.out.size)
  replace Kw0 := Lib.hid (Kw0.out.below b13 Kw0.out.lt)
  replace Kg0 := Lib.hid (Kg0.out.below b13 Kg0.out.lt)
  replace HT := Lib.hid (HT.out.trans (b13.mono HT.out.size))
  have Xh0_0 := Lib.hid oh0_0
  obtain ⟨gah0_0, gch0_0, huh0_0⟩ := oh0_0.shape
  subst huh0_0
  clear oh0_0
  clear b13
  have q3 : Below v13.heap.size v13 (v13.alloc (Obj.cells #[.int .i64 (rsX y0_0 s1.data.toList), .slice gah0_0 (rsL y0_0 s1.data.toList).length gch0_0] 36)) := (Below.refl _ _).alloc (Nat.le_refl _) _
  have Kh0 : Hid (Cels (v13.alloc (Obj.cells #[.int .i64 (rsX y0_0 s1.data.toList), .slice gah0_0 (rsL y0_0 s1.data.toList).length gch0_0] 36)) v13.heap.size 36 [.int .i64 (rsX y0_0 s1.data.toList), .slice gah0_0 (rsL y0_0 s1.data.toList).length gch0_0]) := Lib.hid (Cels.new _ _ _)
  replace Xw0_0 := Lib.hid (Xw0_0.out.below q3 Xw0_0.out.size)
  replace Xg0_0 := Lib.hid (Xg0_0.out.below q3 Xg0_0.out.size)
  replace Xd0_0 := Lib.hid (Xd0_0.out.below q3 Xd0_0.out.size)
  replace Xh0_0 := Lib.hid (Xh0_0.out.below q3 Xh0_0.out.size)
  replace Kw0 := Lib.hid (Kw0.out.below q3 Kw0.out.lt)
  replace Kg0 := Lib.hid (Kg0.out.below q3 Kg0.out.lt)
  replace HT := Lib.hid (HT.out.trans (q3.mono HT.out.size))
  clear q3
  have zzKh0_0 := Kh0.out.cell 0 rfl
  have zzKh0_1 := Kh0.out.cell 1 rfl
  have zzKw0_0 := Kw0.out.cell 0 rfl
  have zzKw0_1 := Kw0.out.cell 1 rfl
  go_wp2_with fail
  refine (eqSto _ _ _ _ _ Xh0_0.out.rd Xw0_0.out.rd).mono ?_
  rintro e v14 ⟨rfl, b14⟩
  replace Xw0_0 := Lib.hid (Xw0_0.out.below b14 Xw0_0.out.size)
  replace Xg0_0 := Lib.hid (Xg0_0.out.below b14 Xg0_0.out.size)
  replace Xd0_0 := Lib.hid (Xd0_0.out.below b14 Xd0_0.out.size)
  replace Xh0_0 := Lib.hid (Xh0_0.out.below b14 Xh0_0.out.size)
  replace Kw0 := Lib.hid (Kw0.out.below b14 Kw0.out.lt)
  replace Kg0 := Lib.hid (Kg0.out.below b14 Kg0.out.lt)
  replace Kh0 := Lib.hid (Kh0.out.below b14 Kh0.out.lt)
  replace HT := Lib.hid (HT.out.trans (b14.mono HT.out.size))
  clear b14
  clear zzKh0_0 zzKh0_1 zzKw0_0 zzKw0_1
  have zzKg0_0 := Kg0.out.cell 0 rfl
  have zzKg0_1 := Kg0.out.cell 1 rfl
  go_wp2_with fail
  refine (heldSto _ _ _ 1 _ Xg0_0.out.rd (by omega) (by omega) (by omega)).mono ?_
  rintro e v15 ⟨rfl, b15⟩
  replace Xw0_0 := Lib.hid (Xw0_0.out.below b15 Xw0_0.out.size)
  replace Xg0_0 := Lib.hid (Xg0_0.out.below b15 Xg0_0.out.size)
  replace Xd0_0 := Lib.hid (Xd0_0.out.below b15 Xd0_0.out.size)
  replace Xh0_0 := Lib.hid (Xh0_0.out.below b15 Xh0_0.out.size)
  replace Kw0 := Lib.hid (Kw0.out.below b15 Kw0.out.lt)
  replace Kg0 := Lib.hid (Kg0.out.below b15 Kg0.out.lt)
  replace Kh0 := Lib.hid (Kh0.out.below b15 Kh0.out.lt)
  replace HT := Lib.hid (HT.out.trans (b15.mono HT.out.size))
  clear b15
  go_wp2
  go_ret
  exact ⟨rfl, HB0.out.trans (HT.out.mono HB0.out.size)⟩

set_option maxRecDepth 100000 in
theorem lifted (os : Os) (started : os.Started) (H : Type) (enc : TypeId × Value → H) :
    ReturnsInHanded {} Tryd.checked os 5 .any (fun w args => (Rows.fnExactReadStoreSpec.pre enc Tryd.prog Tryd.f5 [] false w args ∧ laidMetH Tryd.prog Rows.fnExactReadStoreRow.laid w) ∧ sizedMet enc Tryd.prog Tryd.f5 (OpenSpec.ofChange Rows.fnExactReadStoreSpec) false w args) (Rows.fnExactReadStoreSpec.post enc Tryd.prog Tryd.f5 false true false false) := by
  refine Ints.handed_and_shape (C := Tryd.checked) (X := fun w _ => laidMetH Tryd.prog Rows.fnExactReadStoreRow.laid w) (fun _ _ _ hh h => h.of_heap hh) own started (by kernel_rfl) Tryd.func5
    (ChangeSpec.witness_shaped (enc := enc) (C := Tryd.checked) (os := os) (X := fun w _ => laidMetH Tryd.prog Rows.fnExactReadStoreRow.laid w) false (World.laidAll Tryd.prog os Rows.fnExactReadStoreRow.laid) #[.slice none 0 0, .string ⟨#[]⟩] 8 (World.laidAll_os _ _ _) (World.shaped_of_ZipB (by kernel_rfl) (by kernel_rfl)) (by kernel_rfl) (by kernel_rfl) (by kernel_rfl)
      (by rw [MakeChecks.laidMetH_plain _ _ _ (by kernel_rfl)]; exact laidMet_laidAll _ (by kernel_rfl) (by kernel_rfl))) ?_
  intro W base args ds gs before hval0 hW hL hsh
  have hval : ∀ (j : Nat) t v, Tryd.f5.params[j]? = some t → args[j]? = some v → Value.okWide Tryd.prog W .any base t v := hval0
  have hW' := hW
  obtain ⟨p, q, hA0, hV, rfl, hfz, hnd⟩ := hW
  have hA : DataW.TrodAll enc Tryd.prog W 0 (fun _ => true) true Tryd.f5.params.toList args.toList ds p := hA0
  rw [Tryd.params5] at hA hval
  obtain ⟨v0, vs0, d0, ds0, p0, q0, hargs, rfl, rfl, h0, r0⟩ := trodAll_cons hA
  obtain ⟨v1, vs1, d1, ds1, p1, q1, rfl, rfl, rfl, h1, r1⟩ := trodAll_cons r0
  obtain ⟨rfl, rfl, rfl⟩ := trodAll_nil r1
  obtain rfl : args = #[v0, v1] := by cases args; simp_all
  obtain ⟨rfl, rfl⟩ := trodVars_none hV
  have k0 := h0
  have lt0 : ∀ x ∈ p0, x.block < W.heap.size := by obtain ⟨m, hm⟩ := k0; exact DataW.trod_lt m _ _ _ hm
  obtain ⟨a0_0, len0_0, cap0_0, rfl⟩ := okWide_slice Tryd.underlying33 (hval 0 33 v0 rfl rfl)
  obtain ⟨z0_0, w0_0⟩ : ∃ zs, IsIns W a0_0 len0_0 cap0_0 zs := by
    obtain ⟨fuel, hf⟩ := h0
    obtain ⟨a', len', cap', z', e', w'⟩ := open_Ins hf
    simp [Value.cells] at e'
    obtain ⟨rfl, rfl, rfl⟩ := e'
    exact ⟨z', w'⟩
  obtain ⟨s1, rfl, rfl, rfl, w1⟩ := Go.ChangeMaps.open_string Tryd.underlying9 (hval 1 9 v1 rfl rfl) h1
  clear hA0 hval0
  refine (walk a0_0 len0_0 cap0_0 z0_0 s1 W w0_0 w1 (errV_of_laid7 hL) (tabV_of_laid7 hL) (maxV_of_shape hsh)).mono fun e W' ⟨he, bel⟩ => ?_
  subst he
  exact ⟨_, rfl, _, _, _, [], _, [], hW', trodAll_mk1 (shut_bool Tryd.underlying4 _), (trodAll_cons_mk (Below.trod laidOut (by kernel_rfl) (of_decide_eq_true (by kernel_rfl)) k0 bel lt0) (trodAll_cons_mk (Go.ChangeMaps.shut_string Tryd.underlying9 w1) trodAll_mk0)), rfl, bel.frame _, fun h => by cases h⟩

theorem over : Rows.fnExactReadStoreRow.holds Tryd.pinned (OpenSpec.ofChange Rows.fnExactReadStoreSpec) :=
  OpenClaim.holds_of_wide 5 Tryd.f5 rfl rfl rfl rfl rfl rfl rfl ⟨rfl, rfl, rfl, rfl, rfl⟩ rfl rfl rfl rfl rfl (by kernel_rfl) Tryd.func5 (by kernel_rfl)
    (of_decide_eq_true (by kernel_rfl)) (by unfold Func.isWrapper; first | (rw [if_pos (by decide +kernel)]; kernel_rfl) | (rw [if_neg (by decide +kernel)]; exact ⟨rfl, rfl⟩))
    (fun os started H enc _ => lifted os started H enc)

/-- The statement: the tied card. -/
theorem proved : Rows.FnExactReadStoreCardSaid :=
  Claim7.holds_tied_plain_at .later [] [.data, .data, .data, .data, .sentinel, .sentinel, .pinned] true (true, "4e2cf49c081ec64d5ea40387efbaee9a4b7f99038ace6021cb6d1316c2683e05") true over (fun _ h => by cases h) (by kernel_rfl) (fun _ h => by cases h) fnExactReadStore_row_tie rfl ⟨rfl, rfl⟩ (by kernel_rfl) rfl
    (fun f fn hf hfn => by
      obtain rfl : f = 5 := Option.some.inj ((show Tryd.prog.funcNamed "loop.example/g01079/laws.FnExactReadStore" = some 5 by kernel_rfl).symm.trans hf) |>.symm
      obtain rfl : fn = Tryd.f5 := (Option.some.inj (Tryd.func5.symm.trans hfn)).symm
      exact ⟨by kernel_rfl, fun j t ht => by
        rw [Tryd.params5] at ht
        have hm : t ∈ [33, 9] := by simpa using Array.mem_of_getElem? ht
        have hall : ([33, 9].all fun u => !Tryd.prog.wantsStandIn u) = true := by kernel_rfl
        exact (show Tryd.prog.wantsStandIn t = false by simpa using List.all_eq_true.1 hall t hm)⟩)
    (by kernel_rfl)
#print axioms proved
end Go.Proofs.YtbifkjmmhfnblaaDoor.fnExactReadStore
