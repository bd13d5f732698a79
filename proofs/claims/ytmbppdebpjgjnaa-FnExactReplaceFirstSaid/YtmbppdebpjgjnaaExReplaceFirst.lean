/-   FnExactReplaceFirst: for any three lists the program's ReplaceFirst answers as its model, list and code, leaves its arguments alone, and its answer is its own. No condition. -/
import Derived.Test.YtmbppdebpjgjnaaRows
import Derived.WalkKit
import Derived.ProofKit
import Derived.OpenShut
import Derived.ShutString
import Derived.ChangeOld
import Derived.Below
import Derived.Handy
import Derived.Lib.Hide
import Derived.Test.YtmbppdebpjgjnaaRepN
namespace Go.Proofs.Ytmbppdebpjgjnaa.fnExactReplaceFirst
open Go.ChangeShapes Go.WideShapes Go.ChangeAt Go.RowKit
open Go.ChangeMaps (open_string shut_string)
set_option linter.unusedVariables false

theorem own : ownKnob Try.prog.godebug = none := by kernel_rfl
theorem laidOut : laidOutB Try.prog = true := by kernel_rfl

/-- WHAT THE WALK IS TOLD OF A SLICE OF INTEGERS THAT CAME IN: it is nil; or it leads to a row of 'cap' cells, the numbers 'zs' (the first 'len' are its elements, the rest its spare room), each fitting its kind. -/
def IsRow (k : IntKind) (w : World) (a : Option Addr) (len cap : Nat) (zs : List Int) : Prop :=
  (a = none ∧ len = 0 ∧ cap = 0 ∧ zs = []) ∨
  ∃ x, a = some x ∧ len ≤ cap ∧ cap ≤ maxLen ∧ zs.length = cap ∧ (∀ i, i < zs.length → w.cell? (x.add i) = some (.int k (zs.getD i 0))) ∧ ∀ n ∈ zs, (Lit.int k n).wf = true

open Ints

set_option maxHeartbeats 4000000 in
theorem walk (a0 : Option Addr) (len0 cap0 : Nat) (z0 : List Int) (a1 : Option Addr) (len1 cap1 : Nat) (z1 : List Int) (a2 : Option Addr) (len2 cap2 : Nat) (z2 : List Int) (w : World) (w0 : IsRow .i64 w a0 len0 cap0 z0) (w1 : IsRow .i64 w a1 len1 cap1 z1) (w2 : IsRow .i64 w a2 len2 cap2 z2) :
    Calls Try.prog 12 #[.slice a0 len0 cap0, .slice a1 len1 cap1, .slice a2 len2 cap2] w fun e w' => e = .returned (.bool true) ∧ Below w.heap.size w w' := by
  by_cases hb0 : len0 ≤ 1048576
  rotate_left
  · have hc0 : (1048576 : Int) < (len0 : Int) := by omega
    go_enter Try.func12, Try.ntmps12
    go_wp2
    go_ret
    exact ⟨rfl, Below.refl _ _⟩
  by_cases hb1 : len1 ≤ 1048576
  rotate_left
  · have hc1 : (1048576 : Int) < (len1 : Int) := by omega
    have hd0 : ¬ (1048576 : Int) < (len0 : Int) := by omega
    go_enter Try.func12, Try.ntmps12
    go_wp2
    go_ret
    exact ⟨rfl, Below.refl _ _⟩
  by_cases hb2 : len2 ≤ 1048576
  rotate_left
  · have hc2 : (1048576 : Int) < (len2 : Int) := by omega
    have hd0 : ¬ (1048576 : Int) < (len0 : Int) := by omega
    have hd1 : ¬ (1048576 : Int) < (len1 : Int) := by omega
    go_enter Try.func12, Try.ntmps12
    go_wp2
    go_ret
    exact ⟨rfl, Below.refl _ _⟩
  have hd0 : ¬ (1048576 : Int) < (len0 : Int) := by omega
  have hd1 : ¬ (1048576 : Int) < (len1 : Int) := by omega
  have hd2 : ¬ (1048576 : Int) < (len2 : Int) := by omega
  obtain ⟨y0, hy0⟩ : ∃ y, y = z0.take len0 := ⟨_, rfl⟩
  have R0 : Hid (Rd w (.slice a0 len0 cap0) y0) := Lib.hid (by rw [hy0]; exact rd_of_row w0 hb0)
  clear hy0 w0 hb0
  obtain ⟨y1, hy1⟩ : ∃ y, y = z1.take len1 := ⟨_, rfl⟩
  have R1 : Hid (Rd w (.slice a1 len1 cap1) y1) := Lib.hid (by rw [hy1]; exact rd_of_row w1 hb1)
  clear hy1 w1 hb1
  obtain ⟨y2, hy2⟩ : ∃ y, y = z2.take len2 := ⟨_, rfl⟩
  have R2 : Hid (Rd w (.slice a2 len2 cap2) y2) := Lib.hid (by rw [hy2]; exact rd_of_row w2 hb2)
  clear hy2 w2 hb2
  have HT : Hid (Below w.heap.size w w) := Lib.hid (Below.refl _ _)
  go_enter Try.func12, Try.ntmps12
  have Ls0 := Lib.hid HT.out.size
  go_wp2_with fail
  refine (toInts _ y0 _ (R0.out.below HT.out (Nat.le_refl _))).mono ?_
  rintro e v1 ⟨us0, rfl, os0, b1⟩
  replace HT := Lib.hid (HT.out.trans (b1.mono HT.out.size))
  have Xs0 := Lib.hid os0
  clear os0
  clear b1
  have Ls1 := Lib.hid HT.out.size
  have Ts1_s0 := Lib.hid Xs0.out.size
  go_wp2_with fail
  refine (toInts _ y1 _ (R1.out.below HT.out (Nat.le_refl _))).mono ?_
  rintro e v2 ⟨us1, rfl, os1, b2⟩
  replace Xs0 := Lib.hid (Xs0.out.below b2 Xs0.out.size)
  replace HT := Lib.hid (HT.out.trans (b2.mono HT.out.size))
  have Xs1 := Lib.hid os1
  clear os1
  clear b2
  have Ls2 := Lib.hid HT.out.size
  have Ts2_s0 := Lib.hid Xs0.out.size
  have Ts2_s1 := Lib.hid Xs1.out.size
  go_wp2_with fail
  refine (toInts _ y2 _ (R2.out.below HT.out (Nat.le_refl _))).mono ?_
  rintro e v3 ⟨us2, rfl, os2, b3⟩
  replace Xs0 := Lib.hid (Xs0.out.below b3 Xs0.out.size)
  replace Xs1 := Lib.hid (Xs1.out.below b3 Xs1.out.size)
  replace HT := Lib.hid (HT.out.trans (b3.mono HT.out.size))
  have Xs2 := Lib.hid os2
  clear os2
  clear b3
  have Lw0 := Lib.hid HT.out.size
  have Tw0_s0 := Lib.hid Xs0.out.size
  have Tw0_s1 := Lib.hid Xs1.out.size
  have Tw0_s2 := Lib.hid Xs2.out.size
  go_wp2_with fail
  refine (specReplaceFirst _ y0 _ y1 _ y2 _ Xs0.out.rd Xs1.out.rd Xs2.out.rd).mono ?_
  rintro e v4 ⟨uw0, rfl, ow0, b4⟩
  replace Xs0 := Lib.hid (Xs0.out.below b4 Xs0.out.size)
  replace Xs1 := Lib.hid (Xs1.out.below b4 Xs1.out.size)
  replace Xs2 := Lib.hid (Xs2.out.below b4 Xs2.out.size)
  replace HT := Lib.hid (HT.out.trans (b4.mono HT.out.size))
  have Xw0 := Lib.hid ow0
  clear ow0
  clear b4
  have Lx0 := Lib.hid HT.out.size
  have Tx0_s0 := Lib.hid Xs0.out.size
  have Tx0_s1 := Lib.hid Xs1.out.size
  have Tx0_s2 := Lib.hid Xs2.out.size
  have Tx0_w0 := Lib.hid Xw0.out.size
  go_wp2_with fail
  refine (toInts _ y0 _ (R0.out.below HT.out (Nat.le_refl _))).mono ?_
  rintro e v5 ⟨ux0, rfl, ox0, b5⟩
  replace Xs0 := Lib.hid (Xs0.out.below b5 Xs0.out.size)
  replace Xs1 := Lib.hid (Xs1.out.below b5 Xs1.out.size)
  replace Xs2 := Lib.hid (Xs2.out.below b5 Xs2.out.size)
  replace Xw0 := Lib.hid (Xw0.out.below b5 Xw0.out.size)
  replace HT := Lib.hid (HT.out.trans (b5.mono HT.out.size))
  have Xx0 := Lib.hid ox0
  clear ox0
  clear b5
  have Lx1 := Lib.hid HT.out.size
  have Tx1_s0 := Lib.hid Xs0.out.size
  have Tx1_s1 := Lib.hid Xs1.out.size
  have Tx1_s2 := Lib.hid Xs2.out.size
  have Tx1_w0 := Lib.hid Xw0.out.size
  have Tx1_x0 := Lib.hid Xx0.out.size
  go_wp2_with fail
  refine (toInts _ y1 _ (R1.out.below HT.out (Nat.le_refl _))).mono ?_
  rintro e v6 ⟨ux1, rfl, ox1, b6⟩
  replace Xs0 := Lib.hid (Xs0.out.below b6 Xs0.out.size)
  replace Xs1 := Lib.hid (Xs1.out.below b6 Xs1.out.size)
  replace Xs2 := Lib.hid (Xs2.out.below b6 Xs2.out.size)
  replace Xw0 := Lib.hid (Xw0.out.below b6 Xw0.out.size)
  replace Xx0 := Lib.hid (Xx0.out.below b6 Xx0.out.size)
  replace HT := Lib.hid (HT.out.trans (b6.mono HT.out.size))
  have Xx1 := Lib.hid ox1
  clear ox1
  clear b6
  have Lx2 := Lib.hid HT.out.size
  have Tx2_s0 := Lib.hid Xs0.out.size
  have Tx2_s1 := Lib.hid Xs1.out.size
  have Tx2_s2 := Lib.hid Xs2.out.size
  have Tx2_w0 := Lib.hid Xw0.out.size
  have Tx2_x0 := Lib.hid Xx0.out.size
  have Tx2_x1 := Lib.hid Xx1.out.size
  go_wp2_with fail
  refine (toInts _ y2 _ (R2.out.below HT.out (Nat.le_refl _))).mono ?_
  rintro e v7 ⟨ux2, rfl, ox2, b7⟩
  replace Xs0 := Lib.hid (Xs0.out.below b7 Xs0.out.size)
  replace Xs1 := Lib.hid (Xs1.out.below b7 Xs1.out.size)
  replace Xs2 := Lib.hid (Xs2.out.below b7 Xs2.out.size)
  replace Xw0 := Lib.hid (Xw0.out.below b7 Xw0.out.size)
  replace Xx0 := Lib.hid (Xx0.out.below b7 Xx0.out.size)
  replace Xx1 := Lib.hid (Xx1.out.below b7 Xx1.out.size)
  replace HT := Lib.hid (HT.out.trans (b7.mono HT.out.size))
  have Xx2 := Lib.hid ox2
  clear ox2
  clear b7
  have Lg0 := Lib.hid HT.out.size
  have Tg0_s0 := Lib.hid Xs0.out.size
  have Tg0_s1 := Lib.hid Xs1.out.size
  have Tg0_s2 := Lib.hid Xs2.out.size
  have Tg0_w0 := Lib.hid Xw0.out.size
  have Tg0_x0 := Lib.hid Xx0.out.size
  have Tg0_x1 := Lib.hid Xx1.out.size
  have Tg0_x2 := Lib.hid Xx2.out.size
  go_wp2_with fail
  refine (implReplaceFirst _ y0 _ y1 _ y2 _ Xx0.out.rd Xx1.out.rd Xx2.out.rd).mono ?_
  rintro e v8 ⟨ug0, rfl, og0, b8⟩
  replace Xs0 := Lib.hid (Xs0.out.below b8 Xs0.out.size)
  replace Xs1 := Lib.hid (Xs1.out.below b8 Xs1.out.size)
  replace Xs2 := Lib.hid (Xs2.out.below b8 Xs2.out.size)
  replace Xw0 := Lib.hid (Xw0.out.below b8 Xw0.out.size)
  replace Xx0 := Lib.hid (Xx0.out.below b8 Xx0.out.size)
  replace Xx1 := Lib.hid (Xx1.out.below b8 Xx1.out.size)
  replace Xx2 := Lib.hid (Xx2.out.below b8 Xx2.out.size)
  replace HT := Lib.hid (HT.out.trans (b8.mono HT.out.size))
  have Xg0 := Lib.hid og0
  clear og0
  clear b8
  go_wp2_with fail
  refine (eqInts _ _ _ _ Xg0.out.rd Xw0.out.rd).mono ?_
  rintro e v9 ⟨rfl, b9⟩
  replace Xs0 := Lib.hid (Xs0.out.below b9 Xs0.out.size)
  replace Xs1 := Lib.hid (Xs1.out.below b9 Xs1.out.size)
  replace Xs2 := Lib.hid (Xs2.out.below b9 Xs2.out.size)
  replace Xw0 := Lib.hid (Xw0.out.below b9 Xw0.out.size)
  replace Xx0 := Lib.hid (Xx0.out.below b9 Xx0.out.size)
  replace Xx1 := Lib.hid (Xx1.out.below b9 Xx1.out.size)
  replace Xx2 := Lib.hid (Xx2.out.below b9 Xx2.out.size)
  replace Xg0 := Lib.hid (Xg0.out.below b9 Xg0.out.size)
  replace HT := Lib.hid (HT.out.trans (b9.mono HT.out.size))
  clear b9
  have Lc0 := Lib.hid HT.out.size
  have Tc0_s0 := Lib.hid Xs0.out.size
  have Tc0_s1 := Lib.hid Xs1.out.size
  have Tc0_s2 := Lib.hid Xs2.out.size
  have Tc0_w0 := Lib.hid Xw0.out.size
  have Tc0_x0 := Lib.hid Xx0.out.size
  have Tc0_x1 := Lib.hid Xx1.out.size
  have Tc0_x2 := Lib.hid Xx2.out.size
  have Tc0_g0 := Lib.hid Xg0.out.size
  go_wp2_with fail
  refine (toInts _ y0 _ (R0.out.below HT.out (Nat.le_refl _))).mono ?_
  rintro e v10 ⟨uc0, rfl, oc0, b10⟩
  replace Xs0 := Lib.hid (Xs0.out.below b10 Xs0.out.size)
  replace Xs1 := Lib.hid (Xs1.out.below b10 Xs1.out.size)
  replace Xs2 := Lib.hid (Xs2.out.below b10 Xs2.out.size)
  replace Xw0 := Lib.hid (Xw0.out.below b10 Xw0.out.size)
  replace Xx0 := Lib.hid (Xx0.out.below b10 Xx0.out.size)
  replace Xx1 := Lib.hid (Xx1.out.below b10 Xx1.out.size)
  replace Xx2 := Lib.hid (Xx2.out.below b10 Xx2.out.size)
  replace Xg0 := Lib.hid (Xg0.out.below b10 Xg0.out.size)
  replace HT := Lib.hid (HT.out.trans (b10.mono HT.out.size))
  have Xc0 := Lib.hid oc0
  clear oc0
  clear b10
  go_wp2_with fail
  refine (eqInts _ _ _ _ Xx0.out.rd Xc0.out.rd).mono ?_
  rintro e v11 ⟨rfl, b11⟩
  replace Xs0 := Lib.hid (Xs0.out.below b11 Xs0.out.size)
  replace Xs1 := Lib.hid (Xs1.out.below b11 Xs1.out.size)
  replace Xs2 := Lib.hid (Xs2.out.below b11 Xs2.out.size)
  replace Xw0 := Lib.hid (Xw0.out.below b11 Xw0.out.size)
  replace Xx0 := Lib.hid (Xx0.out.below b11 Xx0.out.size)
  replace Xx1 := Lib.hid (Xx1.out.below b11 Xx1.out.size)
  replace Xx2 := Lib.hid (Xx2.out.below b11 Xx2.out.size)
  replace Xg0 := Lib.hid (Xg0.out.below b11 Xg0.out.size)
  replace Xc0 := Lib.hid (Xc0.out.below b11 Xc0.out.size)
  replace HT := Lib.hid (HT.out.trans (b11.mono HT.out.size))
  clear b11
  have Lc1 := Lib.hid HT.out.size
  have Tc1_s0 := Lib.hid Xs0.out.size
  have Tc1_s1 := Lib.hid Xs1.out.size
  have Tc1_s2 := Lib.hid Xs2.out.size
  have Tc1_w0 := Lib.hid Xw0.out.size
  have Tc1_x0 := Lib.hid Xx0.out.size
  have Tc1_x1 := Lib.hid Xx1.out.size
  have Tc1_x2 := Lib.hid Xx2.out.size
  have Tc1_g0 := Lib.hid Xg0.out.size
  have Tc1_c0 := Lib.hid Xc0.out.size
  go_wp2_with fail
  refine (toInts _ y1 _ (R1.out.below HT.out (Nat.le_refl _))).mono ?_
  rintro e v12 ⟨uc1, rfl, oc1, b12⟩
  replace Xs0 := Lib.hid (Xs0.out.below b12 Xs0.out.size)
  replace Xs1 := Lib.hid (Xs1.out.below b12 Xs1.out.size)
  replace Xs2 := Lib.hid (Xs2.out.below b12 Xs2.out.size)
  replace Xw0 := Lib.hid (Xw0.out.below b12 Xw0.out.size)
  replace Xx0 := Lib.hid (Xx0.out.below b12 Xx0.out.size)
  replace Xx1 := Lib.hid (Xx1.out.below b12 Xx1.out.size)
  replace Xx2 := Lib.hid (Xx2.out.below b12 Xx2.out.size)
  replace Xg0 := Lib.hid (Xg0.out.below b12 Xg0.out.size)
  replace Xc0 := Lib.hid (Xc0.out.below b12 Xc0.out.size)
  replace HT := Lib.hid (HT.out.trans (b12.mono HT.out.size))
  have Xc1 := Lib.hid oc1
  clear oc1
  clear b12
  go_wp2_with fail
  refine (eqInts _ _ _ _ Xx1.out.rd Xc1.out.rd).mono ?_
  rintro e v13 ⟨rfl, b13⟩
  replace Xs0 := Lib.hid (Xs0.out.below b13 Xs0.out.size)
  replace Xs1 := Lib.hid (Xs1.out.below b13 Xs1.out.size)
  replace Xs2 := Lib.hid (Xs2.out.below b13 Xs2.out.size)
  replace Xw0 := Lib.hid (Xw0.out.below b13 Xw0.out.size)
  replace Xx0 := Lib.hid (Xx0.out.below b13 Xx0.out.size)
  replace Xx1 := Lib.hid (Xx1.out.below b13 Xx1.out.size)
  replace Xx2 := Lib.hid (Xx2.out.below b13 Xx2.out.size)
  replace Xg0 := Lib.hid (Xg0.out.below b13 Xg0.out.size)
  replace Xc0 := Lib.hid (Xc0.out.below b13 Xc0.out.size)
  replace Xc1 := Lib.hid (Xc1.out.below b13 Xc1.out.size)
  replace HT := Lib.hid (HT.out.trans (b13.mono HT.out.size))
  clear b13
  have Lc2 := Lib.hid HT.out.size
  have Tc2_s0 := Lib.hid Xs0.out.size
  have Tc2_s1 := Lib.hid Xs1.out.size
  have Tc2_s2 := Lib.hid Xs2.out.size
  have Tc2_w0 := Lib.hid Xw0.out.size
  have Tc2_x0 := Lib.hid Xx0.out.size
  have Tc2_x1 := Lib.hid Xx1.out.size
  have Tc2_x2 := Lib.hid Xx2.out.size
  have Tc2_g0 := Lib.hid Xg0.out.size
  have Tc2_c0 := Lib.hid Xc0.out.size
  have Tc2_c1 := Lib.hid Xc1.out.size
  go_wp2_with fail
  refine (toInts _ y2 _ (R2.out.below HT.out (Nat.le_refl _))).mono ?_
  rintro e v14 ⟨uc2, rfl, oc2, b14⟩
  replace Xs0 := Lib.hid (Xs0.out.below b14 Xs0.out.size)
  replace Xs1 := Lib.hid (Xs1.out.below b14 Xs1.out.size)
  replace Xs2 := Lib.hid (Xs2.out.below b14 Xs2.out.size)
  replace Xw0 := Lib.hid (Xw0.out.below b14 Xw0.out.size)
  replace Xx0 := Lib.hid (Xx0.out.below b14 Xx0.out.size)
  replace Xx1 := Lib.hid (Xx1.out.below b14 Xx1.out.size)
  replace Xx2 := Lib.hid (Xx2.out.below b14 Xx2.out.size)
  replace Xg0 := Lib.hid (Xg0.out.below b14 Xg0.out.size)
  replace Xc0 := Lib.hid (Xc0.out.below b14 Xc0.out.size)
  replace Xc1 := Lib.hid (Xc1.out.below b14 Xc1.out.size)
  replace HT := Lib.hid (HT.out.trans (b14.mono HT.out.size))
  have Xc2 := Lib.hid oc2
  clear oc2
  clear b14
  go_wp2_with fail
  refine (eqInts _ _ _ _ Xx2.out.rd Xc2.out.rd).mono ?_
  rintro e v15 ⟨rfl, b15⟩
  replace Xs0 := Lib.hid (Xs0.out.below b15 Xs0.out.size)
  replace Xs1 := Lib.hid (Xs1.out.below b15 Xs1.out.size)
  replace Xs2 := Lib.hid (Xs2.out.below b15 Xs2.out.size)
  replace Xw0 := Lib.hid (Xw0.out.below b15 Xw0.out.size)
  replace Xx0 := Lib.hid (Xx0.out.below b15 Xx0.out.size)
  replace Xx1 := Lib.hid (Xx1.out.below b15 Xx1.out.size)
  replace Xx2 := Lib.hid (Xx2.out.below b15 Xx2.out.size)
  replace Xg0 := Lib.hid (Xg0.out.below b15 Xg0.out.size)
  replace Xc0 := Lib.hid (Xc0.out.below b15 Xc0.out.size)
  replace Xc1 := Lib.hid (Xc1.out.below b15 Xc1.out.size)
  replace Xc2 := Lib.hid (Xc2.out.below b15 Xc2.out.size)
  replace HT := Lib.hid (HT.out.trans (b15.mono HT.out.size))
  clear b15
  clear Xs0
  clear Xs1
  clear Xs2
  clear Xc0
  clear Xc1
  clear Xc2
  have s16w0 := (Xw0.out.apart Xx0.out (by have := Tx0_w0.out; omega)).1
  have s16x1 := (Xx0.out.apart Xx1.out (by have := Tx1_x0.out; omega)).2
  have s16x2 := (Xx0.out.apart Xx2.out (by have := Tx2_x0.out; omega)).2
  have s16g0 := (Xx0.out.apart Xg0.out (by have := Tg0_x0.out; omega)).2
  go_wp2_with fail
  refine (markInts _ _ 1 _ _ _ Xx0.out (by have r0 := R0.out.len; have r1 := R1.out.len; have r2 := R2.out.len; omega) (by have r0 := R0.out.len; have r1 := R1.out.len; have r2 := R2.out.len; omega)).mono ?_
  rintro e v16 ⟨rfl, o16, g16⟩
  replace Xw0 := Lib.hid (Xw0.out.grown g16 s16w0)
  clear s16w0
  replace Xx1 := Lib.hid (Xx1.out.grown g16 s16x1)
  clear s16x1
  replace Xx2 := Lib.hid (Xx2.out.grown g16 s16x2)
  clear s16x2
  replace Xg0 := Lib.hid (Xg0.out.grown g16 s16g0)
  clear s16g0
  replace HT := Lib.hid (HT.out.trans ((grown_below Xx0.out g16).mono (by have := Lx0.out; omega)))
  replace Xx0 := Lib.hid o16
  clear o16 g16
  have s17w0 := (Xw0.out.apart Xx1.out (by have := Tx1_w0.out; omega)).1
  have s17x0 := (Xx0.out.apart Xx1.out (by have := Tx1_x0.out; omega)).1
  have s17x2 := (Xx1.out.apart Xx2.out (by have := Tx2_x1.out; omega)).2
  have s17g0 := (Xx1.out.apart Xg0.out (by have := Tg0_x1.out; omega)).2
  go_wp2_with fail
  refine (markInts _ _ (1 + (y0.length : Int)) _ _ _ Xx1.out (by have r0 := R0.out.len; have r1 := R1.out.len; have r2 := R2.out.len; omega) (by have r0 := R0.out.len; have r1 := R1.out.len; have r2 := R2.out.len; omega)).mono ?_
  rintro e v17 ⟨rfl, o17, g17⟩
  replace Xw0 := Lib.hid (Xw0.out.grown g17 s17w0)
  clear s17w0
  replace Xx0 := Lib.hid (Xx0.out.grown g17 s17x0)
  clear s17x0
  replace Xx2 := Lib.hid (Xx2.out.grown g17 s17x2)
  clear s17x2
  replace Xg0 := Lib.hid (Xg0.out.grown g17 s17g0)
  clear s17g0
  replace HT := Lib.hid (HT.out.trans ((grown_below Xx1.out g17).mono (by have := Lx1.out; omega)))
  replace Xx1 := Lib.hid o17
  clear o17 g17
  have s18w0 := (Xw0.out.apart Xx2.out (by have := Tx2_w0.out; omega)).1
  have s18x0 := (Xx0.out.apart Xx2.out (by have := Tx2_x0.out; omega)).1
  have s18x1 := (Xx1.out.apart Xx2.out (by have := Tx2_x1.out; omega)).1
  have s18g0 := (Xx2.out.apart Xg0.out (by have := Tg0_x2.out; omega)).2
  go_wp2_with fail
  refine (markInts _ _ ((1 + (y0.length : Int)) + (y1.length : Int)) _ _ _ Xx2.out (by have r0 := R0.out.len; have r1 := R1.out.len; have r2 := R2.out.len; omega) (by have r0 := R0.out.len; have r1 := R1.out.len; have r2 := R2.out.len; omega)).mono ?_
  rintro e v18 ⟨rfl, o18, g18⟩
  replace Xw0 := Lib.hid (Xw0.out.grown g18 s18w0)
  clear s18w0
  replace Xx0 := Lib.hid (Xx0.out.grown g18 s18x0)
  clear s18x0
  replace Xx1 := Lib.hid (Xx1.out.grown g18 s18x1)
  clear s18x1
  replace Xg0 := Lib.hid (Xg0.out.grown g18 s18g0)
  clear s18g0
  replace HT := Lib.hid (HT.out.trans ((grown_below Xx2.out g18).mono (by have := Lx2.out; omega)))
  replace Xx2 := Lib.hid o18
  clear o18 g18
  go_wp2_with fail
  refine (eqInts _ _ _ _ Xg0.out.rd Xw0.out.rd).mono ?_
  rintro e v19 ⟨rfl, b19⟩
  replace Xw0 := Lib.hid (Xw0.out.below b19 Xw0.out.size)
  replace Xx0 := Lib.hid (Xx0.out.below b19 Xx0.out.size)
  replace Xx1 := Lib.hid (Xx1.out.below b19 Xx1.out.size)
  replace Xx2 := Lib.hid (Xx2.out.below b19 Xx2.out.size)
  replace Xg0 := Lib.hid (Xg0.out.below b19 Xg0.out.size)
  replace HT := Lib.hid (HT.out.trans (b19.mono HT.out.size))
  clear b19
  clear Xx0
  clear Xx1
  clear Xx2
  have s20w0 := (Xw0.out.apart Xg0.out (by have := Tg0_w0.out; omega)).1
  go_wp2_with fail
  refine (markInts _ _ 1 _ _ _ Xg0.out (by have r0 := R0.out.len; have r1 := R1.out.len; have r2 := R2.out.len; omega) (by have r0 := R0.out.len; have r1 := R1.out.len; have r2 := R2.out.len; omega)).mono ?_
  rintro e v20 ⟨rfl, o20, g20⟩
  replace Xw0 := Lib.hid (Xw0.out.grown g20 s20w0)
  clear s20w0
  replace HT := Lib.hid (HT.out.trans ((grown_below Xg0.out g20).mono (by have := Lg0.out; omega)))
  replace Xg0 := Lib.hid o20
  clear o20 g20
  go_wp2_with fail
  refine (heldInts _ _ 1 _ Xg0.out.rd (by omega) (by omega)).mono ?_
  rintro e v21 ⟨rfl, rfl⟩
  have Ld0 := Lib.hid HT.out.size
  have Td0_w0 := Lib.hid Xw0.out.size
  have Td0_g0 := Lib.hid Xg0.out.size
  go_wp2_with fail
  refine (toInts _ y0 _ (R0.out.below HT.out (Nat.le_refl _))).mono ?_
  rintro e v22 ⟨ud0, rfl, od0, b22⟩
  replace Xw0 := Lib.hid (Xw0.out.below b22 Xw0.out.size)
  replace Xg0 := Lib.hid (Xg0.out.below b22 Xg0.out.size)
  replace HT := Lib.hid (HT.out.trans (b22.mono HT.out.size))
  have Xd0 := Lib.hid od0
  clear od0
  clear b22
  have Ld1 := Lib.hid HT.out.size
  have Td1_w0 := Lib.hid Xw0.out.size
  have Td1_g0 := Lib.hid Xg0.out.size
  have Td1_d0 := Lib.hid Xd0.out.size
  go_wp2_with fail
  refine (toInts _ y1 _ (R1.out.below HT.out (Nat.le_refl _))).mono ?_
  rintro e v23 ⟨ud1, rfl, od1, b23⟩
  replace Xw0 := Lib.hid (Xw0.out.below b23 Xw0.out.size)
  replace Xg0 := Lib.hid (Xg0.out.below b23 Xg0.out.size)
  replace Xd0 := Lib.hid (Xd0.out.below b23 Xd0.out.size)
  replace HT := Lib.hid (HT.out.trans (b23.mono HT.out.size))
  have Xd1 := Lib.hid od1
  clear od1
  clear b23
  have Ld2 := Lib.hid HT.out.size
  have Td2_w0 := Lib.hid Xw0.out.size
  have Td2_g0 := Lib.hid Xg0.out.size
  have Td2_d0 := Lib.hid Xd0.out.size
  have Td2_d1 := Lib.hid Xd1.out.size
  go_wp2_with fail
  refine (toInts _ y2 _ (R2.out.below HT.out (Nat.le_refl _))).mono ?_
  rintro e v24 ⟨ud2, rfl, od2, b24⟩
  replace Xw0 := Lib.hid (Xw0.out.below b24 Xw0.out.size)
  replace Xg0 := Lib.hid (Xg0.out.below b24 Xg0.out.size)
  replace Xd0 := Lib.hid (Xd0.out.below b24 Xd0.out.size)
  replace Xd1 := Lib.hid (Xd1.out.below b24 Xd1.out.size)
  replace HT := Lib.hid (HT.out.trans (b24.mono HT.out.size))
  have Xd2 := Lib.hid od2
  clear od2
  clear b24
  have Lh0 := Lib.hid HT.out.size
  have Th0_w0 := Lib.hid Xw0.out.size
  have Th0_g0 := Lib.hid Xg0.out.size
  have Th0_d0 := Lib.hid Xd0.out.size
  have Th0_d1 := Lib.hid Xd1.out.size
  have Th0_d2 := Lib.hid Xd2.out.size
  go_wp2_with fail
  refine (implReplaceFirst _ y0 _ y1 _ y2 _ Xd0.out.rd Xd1.out.rd Xd2.out.rd).mono ?_
  rintro e v25 ⟨uh0, rfl, oh0, b25⟩
  replace Xw0 := Lib.hid (Xw0.out.below b25 Xw0.out.size)
  replace Xg0 := Lib.hid (Xg0.out.below b25 Xg0.out.size)
  replace Xd0 := Lib.hid (Xd0.out.below b25 Xd0.out.size)
  replace Xd1 := Lib.hid (Xd1.out.below b25 Xd1.out.size)
  replace Xd2 := Lib.hid (Xd2.out.below b25 Xd2.out.size)
  replace HT := Lib.hid (HT.out.trans (b25.mono HT.out.size))
  have Xh0 := Lib.hid oh0
  clear oh0
  clear b25
  go_wp2_with fail
  refine (eqInts _ _ _ _ Xh0.out.rd Xw0.out.rd).mono ?_
  rintro e v26 ⟨rfl, b26⟩
  replace Xw0 := Lib.hid (Xw0.out.below b26 Xw0.out.size)
  replace Xg0 := Lib.hid (Xg0.out.below b26 Xg0.out.size)
  replace Xd0 := Lib.hid (Xd0.out.below b26 Xd0.out.size)
  replace Xd1 := Lib.hid (Xd1.out.below b26 Xd1.out.size)
  replace Xd2 := Lib.hid (Xd2.out.below b26 Xd2.out.size)
  replace Xh0 := Lib.hid (Xh0.out.below b26 Xh0.out.size)
  replace HT := Lib.hid (HT.out.trans (b26.mono HT.out.size))
  clear b26
  go_wp2_with fail
  refine (heldInts _ _ 1 _ Xg0.out.rd (by omega) (by omega)).mono ?_
  rintro e v27 ⟨rfl, rfl⟩
  go_wp2
  go_ret
  exact ⟨rfl, HT.out⟩

/-! ### THE ROW's STEP: WRITTEN OUT: LEAVE IT -/
set_option maxRecDepth 100000 in
theorem lifted (os : Os) (started : os.Started) (H : Type) (enc : TypeId × Value → H) :
    ReturnsInHanded {} Try.checked os 12 .any (Rows.fnExactReplaceFirstSpec.pre6 enc Try.prog Try.f12 Rows.fnExactReplaceFirstRow.domain false) (Rows.fnExactReplaceFirstSpec.post enc Try.prog Try.f12 false true false false) := by
  refine returnsInHanded_of_change (C := Try.checked) own started (by kernel_rfl) Try.func12
    (ChangeSpec.witness6 (enc := enc) (C := Try.checked) false ⟨#[], #[.slice none 0 0, .slice none 0 0, .slice none 0 0], []⟩ 8 (by kernel_rfl) (by kernel_rfl) (by kernel_rfl) (by kernel_rfl)) ?_
  intro W base args ds gs before hval0 hW hcnd _
  have hval : ∀ (j : Nat) t v, Try.f12.params[j]? = some t → args[j]? = some v → Value.okWide Try.prog W .any base t v := hval0
  have hW' := hW
  obtain ⟨p, q, hA0, hV, rfl, hfz, hnd⟩ := hW
  have hA : DataW.TrodAll enc Try.prog W 0 (fun _ => true) true Try.f12.params.toList args.toList ds p := hA0
  rw [Try.params12] at hA hval
  obtain ⟨v0, vs0, d0, ds0, p0, q0, hargs, rfl, rfl, h0, r0⟩ := trodAll_cons hA
  obtain ⟨v1, vs1, d1, ds1, p1, q1, rfl, rfl, rfl, h1, r1⟩ := trodAll_cons r0
  obtain ⟨v2, vs2, d2, ds2, p2, q2, rfl, rfl, rfl, h2, r2⟩ := trodAll_cons r1
  obtain ⟨rfl, rfl, rfl⟩ := trodAll_nil r2
  obtain rfl : args = #[v0, v1, v2] := by cases args; simp_all
  obtain ⟨rfl, rfl⟩ := trodVars_none hV
  obtain ⟨a0, len0, cap0, rfl⟩ := okWide_slice Try.underlying22 (hval 0 22 v0 rfl rfl)
  have k0 := h0
  have lt0 : ∀ x ∈ p0, x.block < W.heap.size := by obtain ⟨m, hm⟩ := k0; exact DataW.trod_lt m _ _ _ hm
  obtain ⟨z0, w0⟩ : ∃ zs, IsRow .i64 W a0 len0 cap0 zs := by
    obtain ⟨fuel, hf⟩ := h0
    rcases open_ints Try.underlying22 Try.underlying2 (by kernel_rfl) hf with ⟨hcs, _⟩ | ⟨x, l, c, zs, hcs, _, hl, hm, hz, _, hcell, hwz⟩
    · simp [Value.cells] at hcs
      obtain ⟨rfl, rfl, rfl⟩ := hcs
      exact ⟨[], .inl ⟨rfl, rfl, rfl, rfl⟩⟩
    · simp [Value.cells] at hcs
      obtain ⟨rfl, rfl, rfl⟩ := hcs
      exact ⟨zs, .inr ⟨_, rfl, hl, hm, by simpa using hz, hcell, hwz⟩⟩
  obtain ⟨a1, len1, cap1, rfl⟩ := okWide_slice Try.underlying22 (hval 1 22 v1 rfl rfl)
  have k1 := h1
  have lt1 : ∀ x ∈ p1, x.block < W.heap.size := by obtain ⟨m, hm⟩ := k1; exact DataW.trod_lt m _ _ _ hm
  obtain ⟨z1, w1⟩ : ∃ zs, IsRow .i64 W a1 len1 cap1 zs := by
    obtain ⟨fuel, hf⟩ := h1
    rcases open_ints Try.underlying22 Try.underlying2 (by kernel_rfl) hf with ⟨hcs, _⟩ | ⟨x, l, c, zs, hcs, _, hl, hm, hz, _, hcell, hwz⟩
    · simp [Value.cells] at hcs
      obtain ⟨rfl, rfl, rfl⟩ := hcs
      exact ⟨[], .inl ⟨rfl, rfl, rfl, rfl⟩⟩
    · simp [Value.cells] at hcs
      obtain ⟨rfl, rfl, rfl⟩ := hcs
      exact ⟨zs, .inr ⟨_, rfl, hl, hm, by simpa using hz, hcell, hwz⟩⟩
  obtain ⟨a2, len2, cap2, rfl⟩ := okWide_slice Try.underlying22 (hval 2 22 v2 rfl rfl)
  have k2 := h2
  have lt2 : ∀ x ∈ p2, x.block < W.heap.size := by obtain ⟨m, hm⟩ := k2; exact DataW.trod_lt m _ _ _ hm
  obtain ⟨z2, w2⟩ : ∃ zs, IsRow .i64 W a2 len2 cap2 zs := by
    obtain ⟨fuel, hf⟩ := h2
    rcases open_ints Try.underlying22 Try.underlying2 (by kernel_rfl) hf with ⟨hcs, _⟩ | ⟨x, l, c, zs, hcs, _, hl, hm, hz, _, hcell, hwz⟩
    · simp [Value.cells] at hcs
      obtain ⟨rfl, rfl, rfl⟩ := hcs
      exact ⟨[], .inl ⟨rfl, rfl, rfl, rfl⟩⟩
    · simp [Value.cells] at hcs
      obtain ⟨rfl, rfl, rfl⟩ := hcs
      exact ⟨zs, .inr ⟨_, rfl, hl, hm, by simpa using hz, hcell, hwz⟩⟩
  clear hA0 hval0
  refine (walk a0 len0 cap0 z0 a1 len1 cap1 z1 a2 len2 cap2 z2 W w0 w1 w2).mono fun e W' ⟨he, bel⟩ => ?_
  subst he
  exact ⟨_, rfl, _, _, _, [], _, [], hW', trodAll_mk1 (shut_bool Try.underlying4 _), (trodAll_cons_mk (Below.trod laidOut (by kernel_rfl) (of_decide_eq_true (by kernel_rfl)) k0 bel lt0) (trodAll_cons_mk (Below.trod laidOut (by kernel_rfl) (of_decide_eq_true (by kernel_rfl)) k1 bel lt1) (trodAll_cons_mk (Below.trod laidOut (by kernel_rfl) (of_decide_eq_true (by kernel_rfl)) k2 bel lt2) trodAll_mk0))), rfl, bel.frame _, fun h => by cases h⟩

theorem over : Rows.fnExactReplaceFirstRow.holds Try.pinned (OpenSpec.ofChange Rows.fnExactReplaceFirstSpec) :=
  OpenClaim.holds_of_wide 12 Try.f12 rfl rfl rfl rfl rfl rfl rfl ⟨rfl, rfl, rfl, rfl, rfl⟩ rfl rfl rfl rfl rfl (by kernel_rfl) Try.func12 (by kernel_rfl)
    (of_decide_eq_true (by kernel_rfl)) (by unfold Func.isWrapper; first | (rw [if_pos (by decide +kernel)]; kernel_rfl) | (rw [if_neg (by decide +kernel)]; exact ⟨rfl, rfl⟩))
    (fun os started H enc _ => lifted os started H enc)

/-- ████ THE STATEMENT ████ -/
theorem proved : Rows.FnExactReplaceFirstSaid := over
#print axioms proved
end Go.Proofs.Ytmbppdebpjgjnaa.fnExactReplaceFirst
