/-   FnArithmetic: for all bytes, the two naturals that they choose: what is added is taken away again, quotient times divisor plus rest is the dividend, the rest is less, and the greatest common divisor divides both. No condition. -/
import Derived.Test.YtfnopnaaahkklaaRows
import Derived.WalkKit
import Derived.ProofKit
import Derived.OpenShut
import Derived.ShutString
import Derived.ChangeOld
import Derived.Below
import Derived.Lib.SmallJoins
import Derived.Deep.Strs
import Derived.OpenVars
import Derived.ChangeMaps5
import Derived.Handy
import Derived.Lib.Hide
import Derived.Test.YtfnopnaaahkklaaB1l
namespace Go.Proofs.Ytfnopnaaahkklaa.fnArithmetic
open Go.ChangeShapes Go.WideShapes Go.ChangeAt Go.RowKit
set_option linter.unusedVariables false
set_option linter.unusedSimpArgs false

theorem own : ownKnob Try.prog.godebug = none := by kernel_rfl
theorem laidOut : laidOutB Try.prog = true := by kernel_rfl
open Ints

set_option maxRecDepth 100000 in
set_option maxHeartbeats 16000000 in
theorem walk (a0_0 : Option Addr) (len0_0 cap0_0 : Nat) (z0_0 : List Int) (w : World) (w0_0 : IsBts w a0_0 len0_0 cap0_0 z0_0) :
    Calls Try.prog 9 #[.slice a0_0 len0_0 cap0_0] w fun e w' => e = .returned (.bool true) ∧ Below w.heap.size w w' := by
  by_cases hb : 1048576 < len0_0
  · have hc : (1048576 : Int) < (len0_0 : Int) := by omega
    go_enter Try.func9, Try.ntmps9
    go_wp2_with (go_at_call 29; go_in)
    go_ret
    exact ⟨rfl, Below.refl _ _⟩
  have hc : ¬ (1048576 : Int) < (len0_0 : Int) := by omega
  have R0 := Lib.hid (rdb_of_row w0_0 (by omega))
  clear w0_0 hb
  go_enter Try.func9, Try.ntmps9
  go_wp2_with (go_at_call 29; go_in)
  refine (b10Nat _ len0_0 _ R0.out).mono ?_
  rintro e w1 ⟨u1, u2, xs, ys, rfl, hx, hy, r1, r2, b1⟩
  have HT := Lib.hid b1
  have HX := Lib.hid r1
  have HY := Lib.hid r2
  obtain ⟨_, _, ax, cx, rfl, _, _⟩ := r1
  obtain ⟨_, _, ay, cy, rfl, _, _⟩ := r2
  clear b1
  have hsum := ar_sum hx hy
  by_cases hp : 0 < ys.length
  · obtain ⟨q, r, p, g, a1, a2, a3, a4, a5, a6, a7, a8, a8b, a8c, a9, a10, a11, a12, a13, a14, a15⟩ := ar_spec hx hy hp
    have A1 := Lib.hid a1
    have A2 := Lib.hid a2
    have A3 := Lib.hid a3
    have A4 := Lib.hid a4
    have A5 := Lib.hid a5
    have A6 := Lib.hid a6
    have A7 := Lib.hid a7
    have A9 := Lib.hid a9
    have A10 := Lib.hid a10
    have A12 := Lib.hid a12
    have A13 := Lib.hid a13
    have A14 := Lib.hid a14
    have A15 := Lib.hid a15
    have A8 := Lib.hid (And.intro a8 (And.intro a8b a8c))
    have z1 : ((ys.length : Int) == 0) = false := by rw [beq_eq_false_iff_ne]; omega
    have z2 : ¬ (ys.length : Int) = 0 := by omega
    have z3 : (0 : Int) < (g.length : Int) := by omega
    clear a1 a2 a3 a4 a5 a6 a7 a8 a8b a8c a9 a10 a11 a12 a13 a14 a15 hx hy hp
    rcases hsum with ⟨c0, d0, dl⟩ | ⟨c0, _⟩
    · have HC0 := Lib.hid c0
      have HD0 := Lib.hid d0
      have HDL := Lib.hid dl
      clear c0 d0 dl
      go_wp2_with fail
      refine (implAddNaturals _ xs _ ys _ HX.out HY.out).mono ?_
      rintro e v1 ⟨r1, rfl, o1, b1⟩
      replace HX := Lib.hid (HX.out.below b1 (Nat.le_refl _))
      replace HY := Lib.hid (HY.out.below b1 (Nat.le_refl _))
      replace HT := Lib.hid (HT.out.trans (b1.mono HT.out.size))
      clear b1
      rw [HC0.out]
      obtain ⟨aS, cS, huS⟩ := o1.shape
      subst huS
      have S := Lib.hid o1.rd
      clear o1
      go_wp2_with fail
      refine (implSubtractNaturals _ (addL xs ys) _ ys _ S.out HY.out).mono ?_
      rintro e v2 ⟨r2, rfl, o2, b2⟩
      replace HX := Lib.hid (HX.out.below b2 (Nat.le_refl _))
      replace HY := Lib.hid (HY.out.below b2 (Nat.le_refl _))
      replace S := Lib.hid (S.out.below b2 (Nat.le_refl _))
      replace HT := Lib.hid (HT.out.trans (b2.mono HT.out.size))
      clear b2
      rw [HD0.out]
      rw [HDL.out] at o2
      obtain ⟨aD, cD, huD⟩ := o2.shape
      subst huD
      have D := Lib.hid o2.rd
      clear o2
      go_wp2_with fail
      refine (b10Nums _ _ xs _ D.out HX.out).mono ?_
      rintro e v3 ⟨rfl, b3⟩
      replace HX := Lib.hid (HX.out.below b3 (Nat.le_refl _))
      replace HY := Lib.hid (HY.out.below b3 (Nat.le_refl _))
      replace S := Lib.hid (S.out.below b3 (Nat.le_refl _))
      replace D := Lib.hid (D.out.below b3 (Nat.le_refl _))
      replace HT := Lib.hid (HT.out.trans (b3.mono HT.out.size))
      clear b3
      go_wp2_with fail
      refine (implDivideNaturals _ xs _ ys _ HX.out HY.out).mono ?_
      rintro e v4 ⟨r3, r4, rfl, o3, o4, sp, b4⟩
      replace HX := Lib.hid (HX.out.below b4 (Nat.le_refl _))
      replace HY := Lib.hid (HY.out.below b4 (Nat.le_refl _))
      replace S := Lib.hid (S.out.below b4 (Nat.le_refl _))
      replace D := Lib.hid (D.out.below b4 (Nat.le_refl _))
      replace HT := Lib.hid (HT.out.trans (b4.mono HT.out.size))
      clear b4
      clear sp
      rw [A3.out]
      rw [A1.out] at o3
      obtain ⟨aQ, cQ, huQ⟩ := o3.shape
      subst huQ
      have Q := Lib.hid o3.rd
      clear o3
      rw [A2.out] at o4
      obtain ⟨aR, cR, huR⟩ := o4.shape
      subst huR
      have R := Lib.hid o4.rd
      clear o4
      go_wp2_with fail
      refine (implMultiplyNaturals _ q _ ys _ Q.out HY.out).mono ?_
      rintro e v5 ⟨r5, rfl, o5, b5⟩
      replace HX := Lib.hid (HX.out.below b5 (Nat.le_refl _))
      replace HY := Lib.hid (HY.out.below b5 (Nat.le_refl _))
      replace S := Lib.hid (S.out.below b5 (Nat.le_refl _))
      replace D := Lib.hid (D.out.below b5 (Nat.le_refl _))
      replace Q := Lib.hid (Q.out.below b5 (Nat.le_refl _))
      replace R := Lib.hid (R.out.below b5 (Nat.le_refl _))
      replace HT := Lib.hid (HT.out.trans (b5.mono HT.out.size))
      clear b5
      rw [A5.out]
      rw [A4.out] at o5
      obtain ⟨aM, cM, huM⟩ := o5.shape
      subst huM
      have M := Lib.hid o5.rd
      clear o5
      go_wp2_with fail
      refine (implAddNaturals _ p _ r _ M.out R.out).mono ?_
      rintro e v6 ⟨r6, rfl, o6, b6⟩
      replace HX := Lib.hid (HX.out.below b6 (Nat.le_refl _))
      replace HY := Lib.hid (HY.out.below b6 (Nat.le_refl _))
      replace S := Lib.hid (S.out.below b6 (Nat.le_refl _))
      replace D := Lib.hid (D.out.below b6 (Nat.le_refl _))
      replace Q := Lib.hid (Q.out.below b6 (Nat.le_refl _))
      replace R := Lib.hid (R.out.below b6 (Nat.le_refl _))
      replace M := Lib.hid (M.out.below b6 (Nat.le_refl _))
      replace HT := Lib.hid (HT.out.trans (b6.mono HT.out.size))
      clear b6
      rw [A7.out]
      rw [A6.out] at o6
      obtain ⟨aT, cT, huT⟩ := o6.shape
      subst huT
      have T := Lib.hid o6.rd
      clear o6
      go_wp2_with fail
      refine (b10Nums _ _ xs _ T.out HX.out).mono ?_
      rintro e v7 ⟨rfl, b7⟩
      replace HX := Lib.hid (HX.out.below b7 (Nat.le_refl _))
      replace HY := Lib.hid (HY.out.below b7 (Nat.le_refl _))
      replace S := Lib.hid (S.out.below b7 (Nat.le_refl _))
      replace D := Lib.hid (D.out.below b7 (Nat.le_refl _))
      replace Q := Lib.hid (Q.out.below b7 (Nat.le_refl _))
      replace R := Lib.hid (R.out.below b7 (Nat.le_refl _))
      replace M := Lib.hid (M.out.below b7 (Nat.le_refl _))
      replace T := Lib.hid (T.out.below b7 (Nat.le_refl _))
      replace HT := Lib.hid (HT.out.trans (b7.mono HT.out.size))
      clear b7
      go_wp2_with fail
      refine (b10Less _ _ r ys _ R.out HY.out A8.out.1 A8.out.2.1 A8.out.2.2).mono ?_
      rintro e v8 ⟨rfl, b8⟩
      replace HX := Lib.hid (HX.out.below b8 (Nat.le_refl _))
      replace HY := Lib.hid (HY.out.below b8 (Nat.le_refl _))
      replace S := Lib.hid (S.out.below b8 (Nat.le_refl _))
      replace D := Lib.hid (D.out.below b8 (Nat.le_refl _))
      replace Q := Lib.hid (Q.out.below b8 (Nat.le_refl _))
      replace R := Lib.hid (R.out.below b8 (Nat.le_refl _))
      replace M := Lib.hid (M.out.below b8 (Nat.le_refl _))
      replace T := Lib.hid (T.out.below b8 (Nat.le_refl _))
      replace HT := Lib.hid (HT.out.trans (b8.mono HT.out.size))
      clear b8
      go_wp2_with fail
      refine (implGcdNaturals _ xs _ ys _ HX.out HY.out).mono ?_
      rintro e v9 ⟨r7, rfl, o7, b9⟩
      replace HX := Lib.hid (HX.out.below b9 (Nat.le_refl _))
      replace HY := Lib.hid (HY.out.below b9 (Nat.le_refl _))
      replace S := Lib.hid (S.out.below b9 (Nat.le_refl _))
      replace D := Lib.hid (D.out.below b9 (Nat.le_refl _))
      replace Q := Lib.hid (Q.out.below b9 (Nat.le_refl _))
      replace R := Lib.hid (R.out.below b9 (Nat.le_refl _))
      replace M := Lib.hid (M.out.below b9 (Nat.le_refl _))
      replace T := Lib.hid (T.out.below b9 (Nat.le_refl _))
      replace HT := Lib.hid (HT.out.trans (b9.mono HT.out.size))
      clear b9
      rw [A10.out]
      rw [A9.out] at o7
      obtain ⟨aG, cG, huG⟩ := o7.shape
      subst huG
      have G := Lib.hid o7.rd
      clear o7
      go_wp2_with fail
      refine (implDivideNaturals _ xs _ g _ HX.out G.out).mono ?_
      rintro e v10 ⟨r8, t8, rfl, o8, p8, sp, b10⟩
      replace HX := Lib.hid (HX.out.below b10 (Nat.le_refl _))
      replace HY := Lib.hid (HY.out.below b10 (Nat.le_refl _))
      replace S := Lib.hid (S.out.below b10 (Nat.le_refl _))
      replace D := Lib.hid (D.out.below b10 (Nat.le_refl _))
      replace Q := Lib.hid (Q.out.below b10 (Nat.le_refl _))
      replace R := Lib.hid (R.out.below b10 (Nat.le_refl _))
      replace M := Lib.hid (M.out.below b10 (Nat.le_refl _))
      replace T := Lib.hid (T.out.below b10 (Nat.le_refl _))
      replace G := Lib.hid (G.out.below b10 (Nat.le_refl _))
      replace HT := Lib.hid (HT.out.trans (b10.mono HT.out.size))
      clear b10
      clear sp
      rw [A13.out]
      obtain ⟨aU8, cU8, huU8⟩ := o8.shape
      subst huU8
      have U8 := Lib.hid o8.rd
      clear o8
      rw [A12.out] at p8
      obtain ⟨aV8, cV8, huV8⟩ := p8.shape
      subst huV8
      have V8 := Lib.hid p8.rd
      clear p8
      go_wp2_with fail
      refine (implDivideNaturals _ ys _ g _ HY.out G.out).mono ?_
      rintro e v11 ⟨r9, t9, rfl, o9, p9, sp, b11⟩
      replace HX := Lib.hid (HX.out.below b11 (Nat.le_refl _))
      replace HY := Lib.hid (HY.out.below b11 (Nat.le_refl _))
      replace S := Lib.hid (S.out.below b11 (Nat.le_refl _))
      replace D := Lib.hid (D.out.below b11 (Nat.le_refl _))
      replace Q := Lib.hid (Q.out.below b11 (Nat.le_refl _))
      replace R := Lib.hid (R.out.below b11 (Nat.le_refl _))
      replace M := Lib.hid (M.out.below b11 (Nat.le_refl _))
      replace T := Lib.hid (T.out.below b11 (Nat.le_refl _))
      replace G := Lib.hid (G.out.below b11 (Nat.le_refl _))
      replace U8 := Lib.hid (U8.out.below b11 (Nat.le_refl _))
      replace V8 := Lib.hid (V8.out.below b11 (Nat.le_refl _))
      replace HT := Lib.hid (HT.out.trans (b11.mono HT.out.size))
      clear b11
      clear sp
      rw [A15.out]
      obtain ⟨aU9, cU9, huU9⟩ := o9.shape
      subst huU9
      have U9 := Lib.hid o9.rd
      clear o9
      rw [A14.out] at p9
      obtain ⟨aV9, cV9, huV9⟩ := p9.shape
      subst huV9
      have V9 := Lib.hid p9.rd
      clear p9
      go_wp2
      go_ret
      exact ⟨by first | rfl | (simp; omega) | simp, HT.out⟩
    · have HC0 := Lib.hid c0
      clear c0
      go_wp2_with fail
      refine (implAddNaturals _ xs _ ys _ HX.out HY.out).mono ?_
      rintro e v12 ⟨r1, rfl, o1, b12⟩
      replace HX := Lib.hid (HX.out.below b12 (Nat.le_refl _))
      replace HY := Lib.hid (HY.out.below b12 (Nat.le_refl _))
      replace HT := Lib.hid (HT.out.trans (b12.mono HT.out.size))
      clear b12
      rw [HC0.out]
      obtain ⟨aS, cS, huS⟩ := o1.shape
      subst huS
      have S := Lib.hid o1.rd
      clear o1
      go_wp2_with fail
      refine (implDivideNaturals _ xs _ ys _ HX.out HY.out).mono ?_
      rintro e v13 ⟨r3, r4, rfl, o3, o4, sp, b13⟩
      replace HX := Lib.hid (HX.out.below b13 (Nat.le_refl _))
      replace HY := Lib.hid (HY.out.below b13 (Nat.le_refl _))
      replace S := Lib.hid (S.out.below b13 (Nat.le_refl _))
      replace HT := Lib.hid (HT.out.trans (b13.mono HT.out.size))
      clear b13
      clear sp
      rw [A3.out]
      rw [A1.out] at o3
      obtain ⟨aQ, cQ, huQ⟩ := o3.shape
      subst huQ
      have Q := Lib.hid o3.rd
      clear o3
      rw [A2.out] at o4
      obtain ⟨aR, cR, huR⟩ := o4.shape
      subst huR
      have R := Lib.hid o4.rd
      clear o4
      go_wp2_with fail
      refine (implMultiplyNaturals _ q _ ys _ Q.out HY.out).mono ?_
      rintro e v14 ⟨r5, rfl, o5, b14⟩
      replace HX := Lib.hid (HX.out.below b14 (Nat.le_refl _))
      replace HY := Lib.hid (HY.out.below b14 (Nat.le_refl _))
      replace S := Lib.hid (S.out.below b14 (Nat.le_refl _))
      replace Q := Lib.hid (Q.out.below b14 (Nat.le_refl _))
      replace R := Lib.hid (R.out.below b14 (Nat.le_refl _))
      replace HT := Lib.hid (HT.out.trans (b14.mono HT.out.size))
      clear b14
      rw [A5.out]
      rw [A4.out] at o5
      obtain ⟨aM, cM, huM⟩ := o5.shape
      subst huM
      have M := Lib.hid o5.rd
      clear o5
      go_wp2_with fail
      refine (implAddNaturals _ p _ r _ M.out R.out).mono ?_
      rintro e v15 ⟨r6, rfl, o6, b15⟩
      replace HX := Lib.hid (HX.out.below b15 (Nat.le_refl _))
      replace HY := Lib.hid (HY.out.below b15 (Nat.le_refl _))
      replace S := Lib.hid (S.out.below b15 (Nat.le_refl _))
      replace Q := Lib.hid (Q.out.below b15 (Nat.le_refl _))
      replace R := Lib.hid (R.out.below b15 (Nat.le_refl _))
      replace M := Lib.hid (M.out.below b15 (Nat.le_refl _))
      replace HT := Lib.hid (HT.out.trans (b15.mono HT.out.size))
      clear b15
      rw [A7.out]
      rw [A6.out] at o6
      obtain ⟨aT, cT, huT⟩ := o6.shape
      subst huT
      have T := Lib.hid o6.rd
      clear o6
      go_wp2_with fail
      refine (b10Nums _ _ xs _ T.out HX.out).mono ?_
      rintro e v16 ⟨rfl, b16⟩
      replace HX := Lib.hid (HX.out.below b16 (Nat.le_refl _))
      replace HY := Lib.hid (HY.out.below b16 (Nat.le_refl _))
      replace S := Lib.hid (S.out.below b16 (Nat.le_refl _))
      replace Q := Lib.hid (Q.out.below b16 (Nat.le_refl _))
      replace R := Lib.hid (R.out.below b16 (Nat.le_refl _))
      replace M := Lib.hid (M.out.below b16 (Nat.le_refl _))
      replace T := Lib.hid (T.out.below b16 (Nat.le_refl _))
      replace HT := Lib.hid (HT.out.trans (b16.mono HT.out.size))
      clear b16
      go_wp2_with fail
      refine (b10Less _ _ r ys _ R.out HY.out A8.out.1 A8.out.2.1 A8.out.2.2).mono ?_
      rintro e v17 ⟨rfl, b17⟩
      replace HX := Lib.hid (HX.out.below b17 (Nat.le_refl _))
      replace HY := Lib.hid (HY.out.below b17 (Nat.le_refl _))
      replace S := Lib.hid (S.out.below b17 (Nat.le_refl _))
      replace Q := Lib.hid (Q.out.below b17 (Nat.le_refl _))
      replace R := Lib.hid (R.out.below b17 (Nat.le_refl _))
      replace M := Lib.hid (M.out.below b17 (Nat.le_refl _))
      replace T := Lib.hid (T.out.below b17 (Nat.le_refl _))
      replace HT := Lib.hid (HT.out.trans (b17.mono HT.out.size))
      clear b17
      go_wp2_with fail
      refine (implGcdNaturals _ xs _ ys _ HX.out HY.out).mono ?_
      rintro e v18 ⟨r7, rfl, o7, b18⟩
      replace HX := Lib.hid (HX.out.below b18 (Nat.le_refl _))
      replace HY := Lib.hid (HY.out.below b18 (Nat.le_refl _))
      replace S := Lib.hid (S.out.below b18 (Nat.le_refl _))
      replace Q := Lib.hid (Q.out.below b18 (Nat.le_refl _))
      replace R := Lib.hid (R.out.below b18 (Nat.le_refl _))
      replace M := Lib.hid (M.out.below b18 (Nat.le_refl _))
      replace T := Lib.hid (T.out.below b18 (Nat.le_refl _))
      replace HT := Lib.hid (HT.out.trans (b18.mono HT.out.size))
      clear b18
      rw [A10.out]
      rw [A9.out] at o7
      obtain ⟨aG, cG, huG⟩ := o7.shape
      subst huG
      have G := Lib.hid o7.rd
      clear o7
      go_wp2_with fail
      refine (implDivideNaturals _ xs _ g _ HX.out G.out).mono ?_
      rintro e v19 ⟨r8, t8, rfl, o8, p8, sp, b19⟩
      replace HX := Lib.hid (HX.out.below b19 (Nat.le_refl _))
      replace HY := Lib.hid (HY.out.below b19 (Nat.le_refl _))
      replace S := Lib.hid (S.out.below b19 (Nat.le_refl _))
      replace Q := Lib.hid (Q.out.below b19 (Nat.le_refl _))
      replace R := Lib.hid (R.out.below b19 (Nat.le_refl _))
      replace M := Lib.hid (M.out.below b19 (Nat.le_refl _))
      replace T := Lib.hid (T.out.below b19 (Nat.le_refl _))
      replace G := Lib.hid (G.out.below b19 (Nat.le_refl _))
      replace HT := Lib.hid (HT.out.trans (b19.mono HT.out.size))
      clear b19
      clear sp
      rw [A13.out]
      obtain ⟨aU8, cU8, huU8⟩ := o8.shape
      subst huU8
      have U8 := Lib.hid o8.rd
      clear o8
      rw [A12.out] at p8
      obtain ⟨aV8, cV8, huV8⟩ := p8.shape
      subst huV8
      have V8 := Lib.hid p8.rd
      clear p8
      go_wp2_with fail
      refine (implDivideNaturals _ ys _ g _ HY.out G.out).mono ?_
      rintro e v20 ⟨r9, t9, rfl, o9, p9, sp, b20⟩
      replace HX := Lib.hid (HX.out.below b20 (Nat.le_refl _))
      replace HY := Lib.hid (HY.out.below b20 (Nat.le_refl _))
      replace S := Lib.hid (S.out.below b20 (Nat.le_refl _))
      replace Q := Lib.hid (Q.out.below b20 (Nat.le_refl _))
      replace R := Lib.hid (R.out.below b20 (Nat.le_refl _))
      replace M := Lib.hid (M.out.below b20 (Nat.le_refl _))
      replace T := Lib.hid (T.out.below b20 (Nat.le_refl _))
      replace G := Lib.hid (G.out.below b20 (Nat.le_refl _))
      replace U8 := Lib.hid (U8.out.below b20 (Nat.le_refl _))
      replace V8 := Lib.hid (V8.out.below b20 (Nat.le_refl _))
      replace HT := Lib.hid (HT.out.trans (b20.mono HT.out.size))
      clear b20
      clear sp
      rw [A15.out]
      obtain ⟨aU9, cU9, huU9⟩ := o9.shape
      subst huU9
      have U9 := Lib.hid o9.rd
      clear o9
      rw [A14.out] at p9
      obtain ⟨aV9, cV9, huV9⟩ := p9.shape
      subst huV9
      have V9 := Lib.hid p9.rd
      clear p9
      go_wp2
      go_ret
      exact ⟨by first | rfl | (simp; omega) | simp, HT.out⟩
  · rcases hsum with ⟨c0, d0, dl⟩ | ⟨c0, h0⟩
    rotate_left
    · exact absurd h0 hp
    have z1 : ((ys.length : Int) == 0) = true := by rw [beq_iff_eq]; omega
    have z2 : (ys.length : Int) = 0 := by omega
    have HC0 := Lib.hid c0
    have HD0 := Lib.hid d0
    have HDL := Lib.hid dl
    clear c0 d0 dl hx hy hp
    go_wp2_with fail
    refine (implAddNaturals _ xs _ ys _ HX.out HY.out).mono ?_
    rintro e v21 ⟨r1, rfl, o1, b21⟩
    replace HX := Lib.hid (HX.out.below b21 (Nat.le_refl _))
    replace HY := Lib.hid (HY.out.below b21 (Nat.le_refl _))
    replace HT := Lib.hid (HT.out.trans (b21.mono HT.out.size))
    clear b21
    rw [HC0.out]
    obtain ⟨aS, cS, huS⟩ := o1.shape
    subst huS
    have S := Lib.hid o1.rd
    clear o1
    go_wp2_with fail
    refine (implSubtractNaturals _ (addL xs ys) _ ys _ S.out HY.out).mono ?_
    rintro e v22 ⟨r2, rfl, o2, b22⟩
    replace HX := Lib.hid (HX.out.below b22 (Nat.le_refl _))
    replace HY := Lib.hid (HY.out.below b22 (Nat.le_refl _))
    replace S := Lib.hid (S.out.below b22 (Nat.le_refl _))
    replace HT := Lib.hid (HT.out.trans (b22.mono HT.out.size))
    clear b22
    rw [HD0.out]
    rw [HDL.out] at o2
    obtain ⟨aD, cD, huD⟩ := o2.shape
    subst huD
    have D := Lib.hid o2.rd
    clear o2
    go_wp2_with fail
    refine (b10Nums _ _ xs _ D.out HX.out).mono ?_
    rintro e v23 ⟨rfl, b23⟩
    replace HX := Lib.hid (HX.out.below b23 (Nat.le_refl _))
    replace HY := Lib.hid (HY.out.below b23 (Nat.le_refl _))
    replace S := Lib.hid (S.out.below b23 (Nat.le_refl _))
    replace D := Lib.hid (D.out.below b23 (Nat.le_refl _))
    replace HT := Lib.hid (HT.out.trans (b23.mono HT.out.size))
    clear b23
    go_wp2
    go_ret
    exact ⟨by first | rfl | (simp; omega) | simp, HT.out⟩

set_option maxRecDepth 100000 in
theorem lifted (os : Os) (started : os.Started) (H : Type) (enc : TypeId × Value → H) :
    ReturnsInHanded {} Try.checked os 9 .any (Rows.fnArithmeticSpec.pre6 enc Try.prog Try.f9 Rows.fnArithmeticRow.domain false) (Rows.fnArithmeticSpec.post enc Try.prog Try.f9 false true false false) := by
  refine returnsInHanded_of_change (C := Try.checked) own started (by kernel_rfl) Try.func9
    (ChangeSpec.witness6 (enc := enc) (C := Try.checked) false ⟨#[], #[.slice none 0 0], []⟩ 8 (by kernel_rfl) (by kernel_rfl) (by kernel_rfl) (by kernel_rfl)) ?_
  intro W base args ds gs before hval0 hW hcnd _
  have hval : ∀ (j : Nat) t v, Try.f9.params[j]? = some t → args[j]? = some v → Value.okWide Try.prog W .any base t v := hval0
  have hW' := hW
  obtain ⟨p, q, hA0, hV, rfl, hfz, hnd⟩ := hW
  have hA : DataW.TrodAll enc Try.prog W 0 (fun _ => true) true Try.f9.params.toList args.toList ds p := hA0
  rw [Try.params9] at hA hval
  obtain ⟨v0, vs0, d0, ds0, p0, q0, hargs, rfl, rfl, h0, r0⟩ := trodAll_cons hA
  obtain ⟨rfl, rfl, rfl⟩ := trodAll_nil r0
  obtain rfl : args = #[v0] := by cases args; simp_all
  obtain ⟨rfl, rfl⟩ := trodVars_none hV
  have k0 := h0
  have lt0 : ∀ x ∈ p0, x.block < W.heap.size := by obtain ⟨m, hm⟩ := k0; exact DataW.trod_lt m _ _ _ hm
  obtain ⟨a0_0, len0_0, cap0_0, rfl⟩ := okWide_slice Try.underlying40 (hval 0 40 v0 rfl rfl)
  obtain ⟨z0_0, w0_0⟩ : ∃ zs, IsBts W a0_0 len0_0 cap0_0 zs := by
    obtain ⟨fuel, hf⟩ := h0
    obtain ⟨a', len', cap', z', e', w'⟩ := open_bts hf
    simp [Value.cells] at e'
    obtain ⟨rfl, rfl, rfl⟩ := e'
    exact ⟨z', w'⟩
  clear hA0 hval0
  refine (walk a0_0 len0_0 cap0_0 z0_0 W w0_0).mono fun e W' ⟨he, bel⟩ => ?_
  subst he
  exact ⟨_, rfl, _, _, _, [], _, [], hW', trodAll_mk1 (shut_bool Try.underlying4 _), (trodAll_cons_mk (Below.trod laidOut (by kernel_rfl) (of_decide_eq_true (by kernel_rfl)) k0 bel lt0) trodAll_mk0), rfl, bel.frame _, fun h => by cases h⟩

theorem over : Rows.fnArithmeticRow.holds Try.pinned (OpenSpec.ofChange Rows.fnArithmeticSpec) :=
  OpenClaim.holds_of_wide 9 Try.f9 rfl rfl rfl rfl rfl rfl rfl ⟨rfl, rfl, rfl, rfl, rfl⟩ rfl rfl rfl rfl rfl (by kernel_rfl) Try.func9 (by kernel_rfl)
    (of_decide_eq_true (by kernel_rfl)) (by unfold Func.isWrapper; first | (rw [if_pos (by decide +kernel)]; kernel_rfl) | (rw [if_neg (by decide +kernel)]; exact ⟨rfl, rfl⟩))
    (fun os started H enc _ => lifted os started H enc)

/-- The statement. -/
theorem proved : Rows.FnArithmeticSaid := over
#print axioms proved
end Go.Proofs.Ytfnopnaaahkklaa.fnArithmetic
