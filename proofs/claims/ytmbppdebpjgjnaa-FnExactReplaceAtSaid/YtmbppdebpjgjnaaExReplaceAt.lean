/-   FnExactReplaceAt: for any three lists and every index the program's ReplaceAt answers as its model, list and code, leaves its arguments alone, and its answer is its own. No condition. -/
import Derived.Test.YtmbppdebpjgjnaaRows
import Derived.WalkKit
import Derived.ProofKit
import Derived.OpenShut
import Derived.ShutString
import Derived.ChangeOld
import Derived.Below
import Derived.Handy
import Derived.Lib.Hide
import Derived.Test.YtmbppdebpjgjnaaRepN
namespace Go.Proofs.Ytmbppdebpjgjnaa.fnExactReplaceAt
open Go.ChangeShapes Go.WideShapes Go.ChangeAt Go.RowKit
open Go.ChangeMaps (open_string shut_string)
set_option linter.unusedVariables false

theorem own : ownKnob Try.prog.godebug = none := by kernel_rfl
theorem laidOut : laidOutB Try.prog = true := by kernel_rfl

/-- WHAT THE WALK IS TOLD OF A SLICE OF INTEGERS THAT CAME IN: it is nil; or it leads to a row of 'cap' cells, the numbers 'zs' (the first 'len' are its elements, the rest its spare room), each fitting its kind. -/
def IsRow (k : IntKind) (w : World) (a : Option Addr) (len cap : Nat) (zs : List Int) : Prop :=
  (a = none ∧ len = 0 ∧ cap = 0 ∧ zs = []) ∨
  ∃ x, a = some x ∧ len ≤ cap ∧ cap ≤ maxLen ∧ zs.length = cap ∧ (∀ i, i < zs.length → w.cell? (x.add i) = some (.int k (zs.getD i 0))) ∧ ∀ n ∈ zs, (Lit.int k n).wf = true

open Ints

set_option maxHeartbeats 4000000 in
theorem walk (a0 : Option Addr) (len0 cap0 : Nat) (z0 : List Int) (a1 : Int) (a2 : Option Addr) (len2 cap2 : Nat) (z2 : List Int) (a3 : Option Addr) (len3 cap3 : Nat) (z3 : List Int) (w : World) (w0 : IsRow .i64 w a0 len0 cap0 z0) (w1 : (Lit.int .i64 a1).wf = true) (w2 : IsRow .i64 w a2 len2 cap2 z2) (w3 : IsRow .i64 w a3 len3 cap3 z3) :
    Calls Try.prog 11 #[.slice a0 len0 cap0, .int .i64 a1, .slice a2 len2 cap2, .slice a3 len3 cap3] w fun e w' => e = .returned (.bool true) ∧ Below w.heap.size w w' := by
  by_cases hb0 : len0 ≤ 1048576
  rotate_left
  · have hc0 : (1048576 : Int) < (len0 : Int) := by omega
    go_enter Try.func11, Try.ntmps11
    go_wp2
    go_ret
    exact ⟨rfl, Below.refl _ _⟩
  by_cases hb2 : len2 ≤ 1048576
  rotate_left
  · have hc2 : (1048576 : Int) < (len2 : Int) := by omega
    have hd0 : ¬ (1048576 : Int) < (len0 : Int) := by omega
    go_enter Try.func11, Try.ntmps11
    go_wp2
    go_ret
    exact ⟨rfl, Below.refl _ _⟩
  by_cases hb3 : len3 ≤ 1048576
  rotate_left
  · have hc3 : (1048576 : Int) < (len3 : Int) := by omega
    have hd0 : ¬ (1048576 : Int) < (len0 : Int) := by omega
    have hd2 : ¬ (1048576 : Int) < (len2 : Int) := by omega
    go_enter Try.func11, Try.ntmps11
    go_wp2
    go_ret
    exact ⟨rfl, Below.refl _ _⟩
  have hd0 : ¬ (1048576 : Int) < (len0 : Int) := by omega
  have hd2 : ¬ (1048576 : Int) < (len2 : Int) := by omega
  have hd3 : ¬ (1048576 : Int) < (len3 : Int) := by omega
  obtain ⟨y0, hy0⟩ : ∃ y, y = z0.take len0 := ⟨_, rfl⟩
  have R0 : Hid (Rd w (.slice a0 len0 cap0) y0) := Lib.hid (by rw [hy0]; exact rd_of_row w0 hb0)
  clear hy0 w0 hb0
  obtain ⟨y2, hy2⟩ : ∃ y, y = z2.take len2 := ⟨_, rfl⟩
  have R2 : Hid (Rd w (.slice a2 len2 cap2) y2) := Lib.hid (by rw [hy2]; exact rd_of_row w2 hb2)
  clear hy2 w2 hb2
  obtain ⟨y3, hy3⟩ : ∃ y, y = z3.take len3 := ⟨_, rfl⟩
  have R3 : Hid (Rd w (.slice a3 len3 cap3) y3) := Lib.hid (by rw [hy3]; exact rd_of_row w3 hb3)
  clear hy3 w3 hb3
  have HT : Hid (Below w.heap.size w w) := Lib.hid (Below.refl _ _)
  go_enter Try.func11, Try.ntmps11
  have Ls0 := Lib.hid HT.out.size
  go_wp2_with fail
  refine (toInts _ y0 _ (R0.out.below HT.out (Nat.le_refl _))).mono ?_
  rintro e v1 ⟨us0, rfl, os0, b1⟩
  replace HT := Lib.hid (HT.out.trans (b1.mono HT.out.size))
  have Xs0 := Lib.hid os0
  clear os0
  clear b1
  have Ls2 := Lib.hid HT.out.size
  have Ts2_s0 := Lib.hid Xs0.out.size
  go_wp2_with fail
  refine (toInts _ y2 _ (R2.out.below HT.out (Nat.le_refl _))).mono ?_
  rintro e v2 ⟨us2, rfl, os2, b2⟩
  replace Xs0 := Lib.hid (Xs0.out.below b2 Xs0.out.size)
  replace HT := Lib.hid (HT.out.trans (b2.mono HT.out.size))
  have Xs2 := Lib.hid os2
  clear os2
  clear b2
  have Ls3 := Lib.hid HT.out.size
  have Ts3_s0 := Lib.hid Xs0.out.size
  have Ts3_s2 := Lib.hid Xs2.out.size
  go_wp2_with fail
  refine (toInts _ y3 _ (R3.out.below HT.out (Nat.le_refl _))).mono ?_
  rintro e v3 ⟨us3, rfl, os3, b3⟩
  replace Xs0 := Lib.hid (Xs0.out.below b3 Xs0.out.size)
  replace Xs2 := Lib.hid (Xs2.out.below b3 Xs2.out.size)
  replace HT := Lib.hid (HT.out.trans (b3.mono HT.out.size))
  have Xs3 := Lib.hid os3
  clear os3
  clear b3
  have Lw0 := Lib.hid HT.out.size
  have Tw0_s0 := Lib.hid Xs0.out.size
  have Tw0_s2 := Lib.hid Xs2.out.size
  have Tw0_s3 := Lib.hid Xs3.out.size
  go_wp2_with fail
  refine (specReplaceAt _ y0 a1 _ y2 _ y3 _ Xs0.out.rd Xs2.out.rd Xs3.out.rd).mono ?_
  rintro e v4 ⟨uw0, rfl, ow0, b4⟩
  replace Xs0 := Lib.hid (Xs0.out.below b4 Xs0.out.size)
  replace Xs2 := Lib.hid (Xs2.out.below b4 Xs2.out.size)
  replace Xs3 := Lib.hid (Xs3.out.below b4 Xs3.out.size)
  replace HT := Lib.hid (HT.out.trans (b4.mono HT.out.size))
  have Xw0 := Lib.hid ow0
  clear ow0
  clear b4
  have Lx0 := Lib.hid HT.out.size
  have Tx0_s0 := Lib.hid Xs0.out.size
  have Tx0_s2 := Lib.hid Xs2.out.size
  have Tx0_s3 := Lib.hid Xs3.out.size
  have Tx0_w0 := Lib.hid Xw0.out.size
  go_wp2_with fail
  refine (toInts _ y0 _ (R0.out.below HT.out (Nat.le_refl _))).mono ?_
  rintro e v5 ⟨ux0, rfl, ox0, b5⟩
  replace Xs0 := Lib.hid (Xs0.out.below b5 Xs0.out.size)
  replace Xs2 := Lib.hid (Xs2.out.below b5 Xs2.out.size)
  replace Xs3 := Lib.hid (Xs3.out.below b5 Xs3.out.size)
  replace Xw0 := Lib.hid (Xw0.out.below b5 Xw0.out.size)
  replace HT := Lib.hid (HT.out.trans (b5.mono HT.out.size))
  have Xx0 := Lib.hid ox0
  clear ox0
  clear b5
  have Lx2 := Lib.hid HT.out.size
  have Tx2_s0 := Lib.hid Xs0.out.size
  have Tx2_s2 := Lib.hid Xs2.out.size
  have Tx2_s3 := Lib.hid Xs3.out.size
  have Tx2_w0 := Lib.hid Xw0.out.size
  have Tx2_x0 := Lib.hid Xx0.out.size
  go_wp2_with fail
  refine (toInts _ y2 _ (R2.out.below HT.out (Nat.le_refl _))).mono ?_
  rintro e v6 ⟨ux2, rfl, ox2, b6⟩
  replace Xs0 := Lib.hid (Xs0.out.below b6 Xs0.out.size)
  replace Xs2 := Lib.hid (Xs2.out.below b6 Xs2.out.size)
  replace Xs3 := Lib.hid (Xs3.out.below b6 Xs3.out.size)
  replace Xw0 := Lib.hid (Xw0.out.below b6 Xw0.out.size)
  replace Xx0 := Lib.hid (Xx0.out.below b6 Xx0.out.size)
  replace HT := Lib.hid (HT.out.trans (b6.mono HT.out.size))
  have Xx2 := Lib.hid ox2
  clear ox2
  clear b6
  have Lx3 := Lib.hid HT.out.size
  have Tx3_s0 := Lib.hid Xs0.out.size
  have Tx3_s2 := Lib.hid Xs2.out.size
  have Tx3_s3 := Lib.hid Xs3.out.size
  have Tx3_w0 := Lib.hid Xw0.out.size
  have Tx3_x0 := Lib.hid Xx0.out.size
  have Tx3_x2 := Lib.hid Xx2.out.size
  go_wp2_with fail
  refine (toInts _ y3 _ (R3.out.below HT.out (Nat.le_refl _))).mono ?_
  rintro e v7 ⟨ux3, rfl, ox3, b7⟩
  replace Xs0 := Lib.hid (Xs0.out.below b7 Xs0.out.size)
  replace Xs2 := Lib.hid (Xs2.out.below b7 Xs2.out.size)
  replace Xs3 := Lib.hid (Xs3.out.below b7 Xs3.out.size)
  replace Xw0 := Lib.hid (Xw0.out.below b7 Xw0.out.size)
  replace Xx0 := Lib.hid (Xx0.out.below b7 Xx0.out.size)
  replace Xx2 := Lib.hid (Xx2.out.below b7 Xx2.out.size)
  replace HT := Lib.hid (HT.out.trans (b7.mono HT.out.size))
  have Xx3 := Lib.hid ox3
  clear ox3
  clear b7
  have Lg0 := Lib.hid HT.out.size
  have Tg0_s0 := Lib.hid Xs0.out.size
  have Tg0_s2 := Lib.hid Xs2.out.size
  have Tg0_s3 := Lib.hid Xs3.out.size
  have Tg0_w0 := Lib.hid Xw0.out.size
  have Tg0_x0 := Lib.hid Xx0.out.size
  have Tg0_x2 := Lib.hid Xx2.out.size
  have Tg0_x3 := Lib.hid Xx3.out.size
  go_wp2_with fail
  refine (implReplaceAt _ y0 a1 _ y2 _ y3 _ Xx0.out.rd Xx2.out.rd Xx3.out.rd).mono ?_
  rintro e v8 ⟨ug0, rfl, og0, b8⟩
  replace Xs0 := Lib.hid (Xs0.out.below b8 Xs0.out.size)
  replace Xs2 := Lib.hid (Xs2.out.below b8 Xs2.out.size)
  replace Xs3 := Lib.hid (Xs3.out.below b8 Xs3.out.size)
  replace Xw0 := Lib.hid (Xw0.out.below b8 Xw0.out.size)
  replace Xx0 := Lib.hid (Xx0.out.below b8 Xx0.out.size)
  replace Xx2 := Lib.hid (Xx2.out.below b8 Xx2.out.size)
  replace Xx3 := Lib.hid (Xx3.out.below b8 Xx3.out.size)
  replace HT := Lib.hid (HT.out.trans (b8.mono HT.out.size))
  have Xg0 := Lib.hid og0
  clear og0
  clear b8
  go_wp2_with fail
  refine (eqInts _ _ _ _ Xg0.out.rd Xw0.out.rd).mono ?_
  rintro e v9 ⟨rfl, b9⟩
  replace Xs0 := Lib.hid (Xs0.out.below b9 Xs0.out.size)
  replace Xs2 := Lib.hid (Xs2.out.below b9 Xs2.out.size)
  replace Xs3 := Lib.hid (Xs3.out.below b9 Xs3.out.size)
  replace Xw0 := Lib.hid (Xw0.out.below b9 Xw0.out.size)
  replace Xx0 := Lib.hid (Xx0.out.below b9 Xx0.out.size)
  replace Xx2 := Lib.hid (Xx2.out.below b9 Xx2.out.size)
  replace Xx3 := Lib.hid (Xx3.out.below b9 Xx3.out.size)
  replace Xg0 := Lib.hid (Xg0.out.below b9 Xg0.out.size)
  replace HT := Lib.hid (HT.out.trans (b9.mono HT.out.size))
  clear b9
  have Lc0 := Lib.hid HT.out.size
  have Tc0_s0 := Lib.hid Xs0.out.size
  have Tc0_s2 := Lib.hid Xs2.out.size
  have Tc0_s3 := Lib.hid Xs3.out.size
  have Tc0_w0 := Lib.hid Xw0.out.size
  have Tc0_x0 := Lib.hid Xx0.out.size
  have Tc0_x2 := Lib.hid Xx2.out.size
  have Tc0_x3 := Lib.hid Xx3.out.size
  have Tc0_g0 := Lib.hid Xg0.out.size
  go_wp2_with fail
  refine (toInts _ y0 _ (R0.out.below HT.out (Nat.le_refl _))).mono ?_
  rintro e v10 ⟨uc0, rfl, oc0, b10⟩
  replace Xs0 := Lib.hid (Xs0.out.below b10 Xs0.out.size)
  replace Xs2 := Lib.hid (Xs2.out.below b10 Xs2.out.size)
  replace Xs3 := Lib.hid (Xs3.out.below b10 Xs3.out.size)
  replace Xw0 := Lib.hid (Xw0.out.below b10 Xw0.out.size)
  replace Xx0 := Lib.hid (Xx0.out.below b10 Xx0.out.size)
  replace Xx2 := Lib.hid (Xx2.out.below b10 Xx2.out.size)
  replace Xx3 := Lib.hid (Xx3.out.below b10 Xx3.out.size)
  replace Xg0 := Lib.hid (Xg0.out.below b10 Xg0.out.size)
  replace HT := Lib.hid (HT.out.trans (b10.mono HT.out.size))
  have Xc0 := Lib.hid oc0
  clear oc0
  clear b10
  go_wp2_with fail
  refine (eqInts _ _ _ _ Xx0.out.rd Xc0.out.rd).mono ?_
  rintro e v11 ⟨rfl, b11⟩
  replace Xs0 := Lib.hid (Xs0.out.below b11 Xs0.out.size)
  replace Xs2 := Lib.hid (Xs2.out.below b11 Xs2.out.size)
  replace Xs3 := Lib.hid (Xs3.out.below b11 Xs3.out.size)
  replace Xw0 := Lib.hid (Xw0.out.below b11 Xw0.out.size)
  replace Xx0 := Lib.hid (Xx0.out.below b11 Xx0.out.size)
  replace Xx2 := Lib.hid (Xx2.out.below b11 Xx2.out.size)
  replace Xx3 := Lib.hid (Xx3.out.below b11 Xx3.out.size)
  replace Xg0 := Lib.hid (Xg0.out.below b11 Xg0.out.size)
  replace Xc0 := Lib.hid (Xc0.out.below b11 Xc0.out.size)
  replace HT := Lib.hid (HT.out.trans (b11.mono HT.out.size))
  clear b11
  have Lc2 := Lib.hid HT.out.size
  have Tc2_s0 := Lib.hid Xs0.out.size
  have Tc2_s2 := Lib.hid Xs2.out.size
  have Tc2_s3 := Lib.hid Xs3.out.size
  have Tc2_w0 := Lib.hid Xw0.out.size
  have Tc2_x0 := Lib.hid Xx0.out.size
  have Tc2_x2 := Lib.hid Xx2.out.size
  have Tc2_x3 := Lib.hid Xx3.out.size
  have Tc2_g0 := Lib.hid Xg0.out.size
  have Tc2_c0 := Lib.hid Xc0.out.size
  go_wp2_with fail
  refine (toInts _ y2 _ (R2.out.below HT.out (Nat.le_refl _))).mono ?_
  rintro e v12 ⟨uc2, rfl, oc2, b12⟩
  replace Xs0 := Lib.hid (Xs0.out.below b12 Xs0.out.size)
  replace Xs2 := Lib.hid (Xs2.out.below b12 Xs2.out.size)
  replace Xs3 := Lib.hid (Xs3.out.below b12 Xs3.out.size)
  replace Xw0 := Lib.hid (Xw0.out.below b12 Xw0.out.size)
  replace Xx0 := Lib.hid (Xx0.out.below b12 Xx0.out.size)
  replace Xx2 := Lib.hid (Xx2.out.below b12 Xx2.out.size)
  replace Xx3 := Lib.hid (Xx3.out.below b12 Xx3.out.size)
  replace Xg0 := Lib.hid (Xg0.out.below b12 Xg0.out.size)
  replace Xc0 := Lib.hid (Xc0.out.below b12 Xc0.out.size)
  replace HT := Lib.hid (HT.out.trans (b12.mono HT.out.size))
  have Xc2 := Lib.hid oc2
  clear oc2
  clear b12
  go_wp2_with fail
  refine (eqInts _ _ _ _ Xx2.out.rd Xc2.out.rd).mono ?_
  rintro e v13 ⟨rfl, b13⟩
  replace Xs0 := Lib.hid (Xs0.out.below b13 Xs0.out.size)
  replace Xs2 := Lib.hid (Xs2.out.below b13 Xs2.out.size)
  replace Xs3 := Lib.hid (Xs3.out.below b13 Xs3.out.size)
  replace Xw0 := Lib.hid (Xw0.out.below b13 Xw0.out.size)
  replace Xx0 := Lib.hid (Xx0.out.below b13 Xx0.out.size)
  replace Xx2 := Lib.hid (Xx2.out.below b13 Xx2.out.size)
  replace Xx3 := Lib.hid (Xx3.out.below b13 Xx3.out.size)
  replace Xg0 := Lib.hid (Xg0.out.below b13 Xg0.out.size)
  replace Xc0 := Lib.hid (Xc0.out.below b13 Xc0.out.size)
  replace Xc2 := Lib.hid (Xc2.out.below b13 Xc2.out.size)
  replace HT := Lib.hid (HT.out.trans (b13.mono HT.out.size))
  clear b13
  have Lc3 := Lib.hid HT.out.size
  have Tc3_s0 := Lib.hid Xs0.out.size
  have Tc3_s2 := Lib.hid Xs2.out.size
  have Tc3_s3 := Lib.hid Xs3.out.size
  have Tc3_w0 := Lib.hid Xw0.out.size
  have Tc3_x0 := Lib.hid Xx0.out.size
  have Tc3_x2 := Lib.hid Xx2.out.size
  have Tc3_x3 := Lib.hid Xx3.out.size
  have Tc3_g0 := Lib.hid Xg0.out.size
  have Tc3_c0 := Lib.hid Xc0.out.size
  have Tc3_c2 := Lib.hid Xc2.out.size
  go_wp2_with fail
  refine (toInts _ y3 _ (R3.out.below HT.out (Nat.le_refl _))).mono ?_
  rintro e v14 ⟨uc3, rfl, oc3, b14⟩
  replace Xs0 := Lib.hid (Xs0.out.below b14 Xs0.out.size)
  replace Xs2 := Lib.hid (Xs2.out.below b14 Xs2.out.size)
  replace Xs3 := Lib.hid (Xs3.out.below b14 Xs3.out.size)
  replace Xw0 := Lib.hid (Xw0.out.below b14 Xw0.out.size)
  replace Xx0 := Lib.hid (Xx0.out.below b14 Xx0.out.size)
  replace Xx2 := Lib.hid (Xx2.out.below b14 Xx2.out.size)
  replace Xx3 := Lib.hid (Xx3.out.below b14 Xx3.out.size)
  replace Xg0 := Lib.hid (Xg0.out.below b14 Xg0.out.size)
  replace Xc0 := Lib.hid (Xc0.out.below b14 Xc0.out.size)
  replace Xc2 := Lib.hid (Xc2.out.below b14 Xc2.out.size)
  replace HT := Lib.hid (HT.out.trans (b14.mono HT.out.size))
  have Xc3 := Lib.hid oc3
  clear oc3
  clear b14
  go_wp2_with fail
  refine (eqInts _ _ _ _ Xx3.out.rd Xc3.out.rd).mono ?_
  rintro e v15 ⟨rfl, b15⟩
  replace Xs0 := Lib.hid (Xs0.out.below b15 Xs0.out.size)
  replace Xs2 := Lib.hid (Xs2.out.below b15 Xs2.out.size)
  replace Xs3 := Lib.hid (Xs3.out.below b15 Xs3.out.size)
  replace Xw0 := Lib.hid (Xw0.out.below b15 Xw0.out.size)
  replace Xx0 := Lib.hid (Xx0.out.below b15 Xx0.out.size)
  replace Xx2 := Lib.hid (Xx2.out.below b15 Xx2.out.size)
  replace Xx3 := Lib.hid (Xx3.out.below b15 Xx3.out.size)
  replace Xg0 := Lib.hid (Xg0.out.below b15 Xg0.out.size)
  replace Xc0 := Lib.hid (Xc0.out.below b15 Xc0.out.size)
  replace Xc2 := Lib.hid (Xc2.out.below b15 Xc2.out.size)
  replace Xc3 := Lib.hid (Xc3.out.below b15 Xc3.out.size)
  replace HT := Lib.hid (HT.out.trans (b15.mono HT.out.size))
  clear b15
  clear Xs0
  clear Xs2
  clear Xs3
  clear Xc0
  clear Xc2
  clear Xc3
  have s16w0 := (Xw0.out.apart Xx0.out (by have := Tx0_w0.out; omega)).1
  have s16x2 := (Xx0.out.apart Xx2.out (by have := Tx2_x0.out; omega)).2
  have s16x3 := (Xx0.out.apart Xx3.out (by have := Tx3_x0.out; omega)).2
  have s16g0 := (Xx0.out.apart Xg0.out (by have := Tg0_x0.out; omega)).2
  go_wp2_with fail
  refine (markInts _ _ 1 _ _ _ Xx0.out (by have r0 := R0.out.len; have r2 := R2.out.len; have r3 := R3.out.len; omega) (by have r0 := R0.out.len; have r2 := R2.out.len; have r3 := R3.out.len; omega)).mono ?_
  rintro e v16 ⟨rfl, o16, g16⟩
  replace Xw0 := Lib.hid (Xw0.out.grown g16 s16w0)
  clear s16w0
  replace Xx2 := Lib.hid (Xx2.out.grown g16 s16x2)
  clear s16x2
  replace Xx3 := Lib.hid (Xx3.out.grown g16 s16x3)
  clear s16x3
  replace Xg0 := Lib.hid (Xg0.out.grown g16 s16g0)
  clear s16g0
  replace HT := Lib.hid (HT.out.trans ((grown_below Xx0.out g16).mono (by have := Lx0.out; omega)))
  replace Xx0 := Lib.hid o16
  clear o16 g16
  have s17w0 := (Xw0.out.apart Xx2.out (by have := Tx2_w0.out; omega)).1
  have s17x0 := (Xx0.out.apart Xx2.out (by have := Tx2_x0.out; omega)).1
  have s17x3 := (Xx2.out.apart Xx3.out (by have := Tx3_x2.out; omega)).2
  have s17g0 := (Xx2.out.apart Xg0.out (by have := Tg0_x2.out; omega)).2
  go_wp2_with fail
  refine (markInts _ _ (1 + (y0.length : Int)) _ _ _ Xx2.out (by have r0 := R0.out.len; have r2 := R2.out.len; have r3 := R3.out.len; omega) (by have r0 := R0.out.len; have r2 := R2.out.len; have r3 := R3.out.len; omega)).mono ?_
  rintro e v17 ⟨rfl, o17, g17⟩
  replace Xw0 := Lib.hid (Xw0.out.grown g17 s17w0)
  clear s17w0
  replace Xx0 := Lib.hid (Xx0.out.grown g17 s17x0)
  clear s17x0
  replace Xx3 := Lib.hid (Xx3.out.grown g17 s17x3)
  clear s17x3
  replace Xg0 := Lib.hid (Xg0.out.grown g17 s17g0)
  clear s17g0
  replace HT := Lib.hid (HT.out.trans ((grown_below Xx2.out g17).mono (by have := Lx2.out; omega)))
  replace Xx2 := Lib.hid o17
  clear o17 g17
  have s18w0 := (Xw0.out.apart Xx3.out (by have := Tx3_w0.out; omega)).1
  have s18x0 := (Xx0.out.apart Xx3.out (by have := Tx3_x0.out; omega)).1
  have s18x2 := (Xx2.out.apart Xx3.out (by have := Tx3_x2.out; omega)).1
  have s18g0 := (Xx3.out.apart Xg0.out (by have := Tg0_x3.out; omega)).2
  go_wp2_with fail
  refine (markInts _ _ ((1 + (y0.length : Int)) + (y2.length : Int)) _ _ _ Xx3.out (by have r0 := R0.out.len; have r2 := R2.out.len; have r3 := R3.out.len; omega) (by have r0 := R0.out.len; have r2 := R2.out.len; have r3 := R3.out.len; omega)).mono ?_
  rintro e v18 ⟨rfl, o18, g18⟩
  replace Xw0 := Lib.hid (Xw0.out.grown g18 s18w0)
  clear s18w0
  replace Xx0 := Lib.hid (Xx0.out.grown g18 s18x0)
  clear s18x0
  replace Xx2 := Lib.hid (Xx2.out.grown g18 s18x2)
  clear s18x2
  replace Xg0 := Lib.hid (Xg0.out.grown g18 s18g0)
  clear s18g0
  replace HT := Lib.hid (HT.out.trans ((grown_below Xx3.out g18).mono (by have := Lx3.out; omega)))
  replace Xx3 := Lib.hid o18
  clear o18 g18
  go_wp2_with fail
  refine (eqInts _ _ _ _ Xg0.out.rd Xw0.out.rd).mono ?_
  rintro e v19 ⟨rfl, b19⟩
  replace Xw0 := Lib.hid (Xw0.out.below b19 Xw0.out.size)
  replace Xx0 := Lib.hid (Xx0.out.below b19 Xx0.out.size)
  replace Xx2 := Lib.hid (Xx2.out.below b19 Xx2.out.size)
  replace Xx3 := Lib.hid (Xx3.out.below b19 Xx3.out.size)
  replace Xg0 := Lib.hid (Xg0.out.below b19 Xg0.out.size)
  replace HT := Lib.hid (HT.out.trans (b19.mono HT.out.size))
  clear b19
  clear Xx0
  clear Xx2
  clear Xx3
  have s20w0 := (Xw0.out.apart Xg0.out (by have := Tg0_w0.out; omega)).1
  go_wp2_with fail
  refine (markInts _ _ 1 _ _ _ Xg0.out (by have r0 := R0.out.len; have r2 := R2.out.len; have r3 := R3.out.len; omega) (by have r0 := R0.out.len; have r2 := R2.out.len; have r3 := R3.out.len; omega)).mono ?_
  rintro e v20 ⟨rfl, o20, g20⟩
  replace Xw0 := Lib.hid (Xw0.out.grown g20 s20w0)
  clear s20w0
  replace HT := Lib.hid (HT.out.trans ((grown_below Xg0.out g20).mono (by have := Lg0.out; omega)))
  replace Xg0 := Lib.hid o20
  clear o20 g20
  go_wp2_with fail
  refine (heldInts _ _ 1 _ Xg0.out.rd (by omega) (by omega)).mono ?_
  rintro e v21 ⟨rfl, rfl⟩
  have Ld0 := Lib.hid HT.out.size
  have Td0_w0 := Lib.hid Xw0.out.size
  have Td0_g0 := Lib.hid Xg0.out.size
  go_wp2_with fail
  refine (toInts _ y0 _ (R0.out.below HT.out (Nat.le_refl _))).mono ?_
  rintro e v22 ⟨ud0, rfl, od0, b22⟩
  replace Xw0 := Lib.hid (Xw0.out.below b22 Xw0.out.size)
  replace Xg0 := Lib.hid (Xg0.out.below b22 Xg0.out.size)
  replace HT := Lib.hid (HT.out.trans (b22.mono HT.out.size))
  have Xd0 := Lib.hid od0
  clear od0
  clear b22
  have Ld2 := Lib.hid HT.out.size
  have Td2_w0 := Lib.hid Xw0.out.size
  have Td2_g0 := Lib.hid Xg0.out.size
  have Td2_d0 := Lib.hid Xd0.out.size
  go_wp2_with fail
  refine (toInts _ y2 _ (R2.out.below HT.out (Nat.le_refl _))).mono ?_
  rintro e v23 ⟨ud2, rfl, od2, b23⟩
  replace Xw0 := Lib.hid (Xw0.out.below b23 Xw0.out.size)
  replace Xg0 := Lib.hid (Xg0.out.below b23 Xg0.out.size)
  replace Xd0 := Lib.hid (Xd0.out.below b23 Xd0.out.size)
  replace HT := Lib.hid (HT.out.trans (b23.mono HT.out.size))
  have Xd2 := Lib.hid od2
  clear od2
  clear b23
  have Ld3 := Lib.hid HT.out.size
  have Td3_w0 := Lib.hid Xw0.out.size
  have Td3_g0 := Lib.hid Xg0.out.size
  have Td3_d0 := Lib.hid Xd0.out.size
  have Td3_d2 := Lib.hid Xd2.out.size
  go_wp2_with fail
  refine (toInts _ y3 _ (R3.out.below HT.out (Nat.le_refl _))).mono ?_
  rintro e v24 ⟨ud3, rfl, od3, b24⟩
  replace Xw0 := Lib.hid (Xw0.out.below b24 Xw0.out.size)
  replace Xg0 := Lib.hid (Xg0.out.below b24 Xg0.out.size)
  replace Xd0 := Lib.hid (Xd0.out.below b24 Xd0.out.size)
  replace Xd2 := Lib.hid (Xd2.out.below b24 Xd2.out.size)
  replace HT := Lib.hid (HT.out.trans (b24.mono HT.out.size))
  have Xd3 := Lib.hid od3
  clear od3
  clear b24
  have Lh0 := Lib.hid HT.out.size
  have Th0_w0 := Lib.hid Xw0.out.size
  have Th0_g0 := Lib.hid Xg0.out.size
  have Th0_d0 := Lib.hid Xd0.out.size
  have Th0_d2 := Lib.hid Xd2.out.size
  have Th0_d3 := Lib.hid Xd3.out.size
  go_wp2_with fail
  refine (implReplaceAt _ y0 a1 _ y2 _ y3 _ Xd0.out.rd Xd2.out.rd Xd3.out.rd).mono ?_
  rintro e v25 ⟨uh0, rfl, oh0, b25⟩
  replace Xw0 := Lib.hid (Xw0.out.below b25 Xw0.out.size)
  replace Xg0 := Lib.hid (Xg0.out.below b25 Xg0.out.size)
  replace Xd0 := Lib.hid (Xd0.out.below b25 Xd0.out.size)
  replace Xd2 := Lib.hid (Xd2.out.below b25 Xd2.out.size)
  replace Xd3 := Lib.hid (Xd3.out.below b25 Xd3.out.size)
  replace HT := Lib.hid (HT.out.trans (b25.mono HT.out.size))
  have Xh0 := Lib.hid oh0
  clear oh0
  clear b25
  go_wp2_with fail
  refine (eqInts _ _ _ _ Xh0.out.rd Xw0.out.rd).mono ?_
  rintro e v26 ⟨rfl, b26⟩
  replace Xw0 := Lib.hid (Xw0.out.below b26 Xw0.out.size)
  replace Xg0 := Lib.hid (Xg0.out.below b26 Xg0.out.size)
  replace Xd0 := Lib.hid (Xd0.out.below b26 Xd0.out.size)
  replace Xd2 := Lib.hid (Xd2.out.below b26 Xd2.out.size)
  replace Xd3 := Lib.hid (Xd3.out.below b26 Xd3.out.size)
  replace Xh0 := Lib.hid (Xh0.out.below b26 Xh0.out.size)
  replace HT := Lib.hid (HT.out.trans (b26.mono HT.out.size))
  clear b26
  go_wp2_with fail
  refine (heldInts _ _ 1 _ Xg0.out.rd (by omega) (by omega)).mono ?_
  rintro e v27 ⟨rfl, rfl⟩
  go_wp2
  go_ret
  exact ⟨rfl, HT.out⟩

/-! ### THE ROW's STEP: WRITTEN OUT: LEAVE IT -/
set_option maxRecDepth 100000 in
theorem lifted (os : Os) (started : os.Started) (H : Type) (enc : TypeId × Value → H) :
    ReturnsInHanded {} Try.checked os 11 .any (Rows.fnExactReplaceAtSpec.pre6 enc Try.prog Try.f11 Rows.fnExactReplaceAtRow.domain false) (Rows.fnExactReplaceAtSpec.post enc Try.prog Try.f11 false true false false) := by
  refine returnsInHanded_of_change (C := Try.checked) own started (by kernel_rfl) Try.func11
    (ChangeSpec.witness6 (enc := enc) (C := Try.checked) false ⟨#[], #[.slice none 0 0, .int .i64 0, .slice none 0 0, .slice none 0 0], []⟩ 8 (by kernel_rfl) (by kernel_rfl) (by kernel_rfl) (by kernel_rfl)) ?_
  intro W base args ds gs before hval0 hW hcnd _
  have hval : ∀ (j : Nat) t v, Try.f11.params[j]? = some t → args[j]? = some v → Value.okWide Try.prog W .any base t v := hval0
  have hW' := hW
  obtain ⟨p, q, hA0, hV, rfl, hfz, hnd⟩ := hW
  have hA : DataW.TrodAll enc Try.prog W 0 (fun _ => true) true Try.f11.params.toList args.toList ds p := hA0
  rw [Try.params11] at hA hval
  obtain ⟨v0, vs0, d0, ds0, p0, q0, hargs, rfl, rfl, h0, r0⟩ := trodAll_cons hA
  obtain ⟨v1, vs1, d1, ds1, p1, q1, rfl, rfl, rfl, h1, r1⟩ := trodAll_cons r0
  obtain ⟨v2, vs2, d2, ds2, p2, q2, rfl, rfl, rfl, h2, r2⟩ := trodAll_cons r1
  obtain ⟨v3, vs3, d3, ds3, p3, q3, rfl, rfl, rfl, h3, r3⟩ := trodAll_cons r2
  obtain ⟨rfl, rfl, rfl⟩ := trodAll_nil r3
  obtain rfl : args = #[v0, v1, v2, v3] := by cases args; simp_all
  obtain ⟨rfl, rfl⟩ := trodVars_none hV
  obtain ⟨a0, len0, cap0, rfl⟩ := okWide_slice Try.underlying22 (hval 0 22 v0 rfl rfl)
  have k0 := h0
  have lt0 : ∀ x ∈ p0, x.block < W.heap.size := by obtain ⟨m, hm⟩ := k0; exact DataW.trod_lt m _ _ _ hm
  obtain ⟨z0, w0⟩ : ∃ zs, IsRow .i64 W a0 len0 cap0 zs := by
    obtain ⟨fuel, hf⟩ := h0
    rcases open_ints Try.underlying22 Try.underlying2 (by kernel_rfl) hf with ⟨hcs, _⟩ | ⟨x, l, c, zs, hcs, _, hl, hm, hz, _, hcell, hwz⟩
    · simp [Value.cells] at hcs
      obtain ⟨rfl, rfl, rfl⟩ := hcs
      exact ⟨[], .inl ⟨rfl, rfl, rfl, rfl⟩⟩
    · simp [Value.cells] at hcs
      obtain ⟨rfl, rfl, rfl⟩ := hcs
      exact ⟨zs, .inr ⟨_, rfl, hl, hm, by simpa using hz, hcell, hwz⟩⟩
  obtain ⟨a1, rfl, rfl, rfl, w1⟩ := open_int Try.underlying2 (hval 1 2 v1 rfl rfl) h1
  obtain ⟨a2, len2, cap2, rfl⟩ := okWide_slice Try.underlying22 (hval 2 22 v2 rfl rfl)
  have k2 := h2
  have lt2 : ∀ x ∈ p2, x.block < W.heap.size := by obtain ⟨m, hm⟩ := k2; exact DataW.trod_lt m _ _ _ hm
  obtain ⟨z2, w2⟩ : ∃ zs, IsRow .i64 W a2 len2 cap2 zs := by
    obtain ⟨fuel, hf⟩ := h2
    rcases open_ints Try.underlying22 Try.underlying2 (by kernel_rfl) hf with ⟨hcs, _⟩ | ⟨x, l, c, zs, hcs, _, hl, hm, hz, _, hcell, hwz⟩
    · simp [Value.cells] at hcs
      obtain ⟨rfl, rfl, rfl⟩ := hcs
      exact ⟨[], .inl ⟨rfl, rfl, rfl, rfl⟩⟩
    · simp [Value.cells] at hcs
      obtain ⟨rfl, rfl, rfl⟩ := hcs
      exact ⟨zs, .inr ⟨_, rfl, hl, hm, by simpa using hz, hcell, hwz⟩⟩
  obtain ⟨a3, len3, cap3, rfl⟩ := okWide_slice Try.underlying22 (hval 3 22 v3 rfl rfl)
  have k3 := h3
  have lt3 : ∀ x ∈ p3, x.block < W.heap.size := by obtain ⟨m, hm⟩ := k3; exact DataW.trod_lt m _ _ _ hm
  obtain ⟨z3, w3⟩ : ∃ zs, IsRow .i64 W a3 len3 cap3 zs := by
    obtain ⟨fuel, hf⟩ := h3
    rcases open_ints Try.underlying22 Try.underlying2 (by kernel_rfl) hf with ⟨hcs, _⟩ | ⟨x, l, c, zs, hcs, _, hl, hm, hz, _, hcell, hwz⟩
    · simp [Value.cells] at hcs
      obtain ⟨rfl, rfl, rfl⟩ := hcs
      exact ⟨[], .inl ⟨rfl, rfl, rfl, rfl⟩⟩
    · simp [Value.cells] at hcs
      obtain ⟨rfl, rfl, rfl⟩ := hcs
      exact ⟨zs, .inr ⟨_, rfl, hl, hm, by simpa using hz, hcell, hwz⟩⟩
  clear hA0 hval0
  refine (walk a0 len0 cap0 z0 a1 a2 len2 cap2 z2 a3 len3 cap3 z3 W w0 w1 w2 w3).mono fun e W' ⟨he, bel⟩ => ?_
  subst he
  exact ⟨_, rfl, _, _, _, [], _, [], hW', trodAll_mk1 (shut_bool Try.underlying4 _), (trodAll_cons_mk (Below.trod laidOut (by kernel_rfl) (of_decide_eq_true (by kernel_rfl)) k0 bel lt0) (trodAll_cons_mk (shut_int Try.underlying2 w1) (trodAll_cons_mk (Below.trod laidOut (by kernel_rfl) (of_decide_eq_true (by kernel_rfl)) k2 bel lt2) (trodAll_cons_mk (Below.trod laidOut (by kernel_rfl) (of_decide_eq_true (by kernel_rfl)) k3 bel lt3) trodAll_mk0)))), rfl, bel.frame _, fun h => by cases h⟩

theorem over : Rows.fnExactReplaceAtRow.holds Try.pinned (OpenSpec.ofChange Rows.fnExactReplaceAtSpec) :=
  OpenClaim.holds_of_wide 11 Try.f11 rfl rfl rfl rfl rfl rfl rfl ⟨rfl, rfl, rfl, rfl, rfl⟩ rfl rfl rfl rfl rfl (by kernel_rfl) Try.func11 (by kernel_rfl)
    (of_decide_eq_true (by kernel_rfl)) (by unfold Func.isWrapper; first | (rw [if_pos (by decide +kernel)]; kernel_rfl) | (rw [if_neg (by decide +kernel)]; exact ⟨rfl, rfl⟩))
    (fun os started H enc _ => lifted os started H enc)

/-- ████ THE STATEMENT ████ -/
theorem proved : Rows.FnExactReplaceAtSaid := over
#print axioms proved
end Go.Proofs.Ytmbppdebpjgjnaa.fnExactReplaceAt
