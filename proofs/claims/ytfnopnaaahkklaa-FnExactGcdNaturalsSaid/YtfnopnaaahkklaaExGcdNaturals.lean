/-   FnExactGcdNaturals: for all lists the program's GcdNaturals answers as its model, leaves its arguments alone, and its answer is memory of its own. No condition. -/
import Derived.Test.YtfnopnaaahkklaaRows
import Derived.WalkKit
import Derived.ProofKit
import Derived.OpenShut
import Derived.ShutString
import Derived.ChangeOld
import Derived.Below
import Derived.Handy
import Derived.Lib.Hide
import Derived.Test.YtfnopnaaahkklaaDvN
namespace Go.Proofs.Ytfnopnaaahkklaa.fnExactGcdNaturals
open Go.ChangeShapes Go.WideShapes Go.ChangeAt Go.RowKit
open Go.ChangeMaps (open_string shut_string)
set_option linter.unusedVariables false

theorem own : ownKnob Try.prog.godebug = none := by kernel_rfl
theorem laidOut : laidOutB Try.prog = true := by kernel_rfl

/-- WHAT THE WALK IS TOLD OF A SLICE OF INTEGERS THAT CAME IN: it is nil; or it leads to a row of 'cap' cells, the numbers 'zs' (the first 'len' are its elements, the rest its spare room), each fitting its kind. -/
def IsRow (k : IntKind) (w : World) (a : Option Addr) (len cap : Nat) (zs : List Int) : Prop :=
  (a = none ∧ len = 0 ∧ cap = 0 ∧ zs = []) ∨
  ∃ x, a = some x ∧ len ≤ cap ∧ cap ≤ maxLen ∧ zs.length = cap ∧ (∀ i, i < zs.length → w.cell? (x.add i) = some (.int k (zs.getD i 0))) ∧ ∀ n ∈ zs, (Lit.int k n).wf = true

open Ints

set_option maxHeartbeats 4000000 in
theorem walk (a0 : Option Addr) (len0 cap0 : Nat) (z0 : List Int) (a1 : Option Addr) (len1 cap1 : Nat) (z1 : List Int) (w : World) (w0 : IsRow .i64 w a0 len0 cap0 z0) (w1 : IsRow .i64 w a1 len1 cap1 z1) :
    Calls Try.prog 4 #[.slice a0 len0 cap0, .slice a1 len1 cap1] w fun e w' => e = .returned (.bool true) ∧ Below w.heap.size w w' := by
  by_cases hb0 : len0 ≤ 1048576
  rotate_left
  · have hc0 : (1048576 : Int) < (len0 : Int) := by omega
    go_enter Try.func4, Try.ntmps4
    go_wp2
    go_ret
    exact ⟨rfl, Below.refl _ _⟩
  by_cases hb1 : len1 ≤ 1048576
  rotate_left
  · have hc1 : (1048576 : Int) < (len1 : Int) := by omega
    have hd0 : ¬ (1048576 : Int) < (len0 : Int) := by omega
    go_enter Try.func4, Try.ntmps4
    go_wp2
    go_ret
    exact ⟨rfl, Below.refl _ _⟩
  have hd0 : ¬ (1048576 : Int) < (len0 : Int) := by omega
  have hd1 : ¬ (1048576 : Int) < (len1 : Int) := by omega
  obtain ⟨y0, hy0⟩ : ∃ y, y = z0.take len0 := ⟨_, rfl⟩
  have R0 : Hid (Rd w (.slice a0 len0 cap0) y0) := Lib.hid (by rw [hy0]; exact rd_of_row w0 hb0)
  clear hy0 w0 hb0
  obtain ⟨y1, hy1⟩ : ∃ y, y = z1.take len1 := ⟨_, rfl⟩
  have R1 : Hid (Rd w (.slice a1 len1 cap1) y1) := Lib.hid (by rw [hy1]; exact rd_of_row w1 hb1)
  clear hy1 w1 hb1
  have HT : Hid (Below w.heap.size w w) := Lib.hid (Below.refl _ _)
  go_enter Try.func4, Try.ntmps4
  have Ls0 := Lib.hid HT.out.size
  go_wp2_with fail
  refine (toInts _ y0 _ (R0.out.below HT.out (Nat.le_refl _))).mono ?_
  rintro e v1 ⟨us0, rfl, os0, b1⟩
  replace HT := Lib.hid (HT.out.trans (b1.mono HT.out.size))
  have Xs0 := Lib.hid os0
  clear os0
  clear b1
  have Ls1 := Lib.hid HT.out.size
  have Ts1_s0 := Lib.hid Xs0.out.size
  go_wp2_with fail
  refine (toInts _ y1 _ (R1.out.below HT.out (Nat.le_refl _))).mono ?_
  rintro e v2 ⟨us1, rfl, os1, b2⟩
  replace Xs0 := Lib.hid (Xs0.out.below b2 Xs0.out.size)
  replace HT := Lib.hid (HT.out.trans (b2.mono HT.out.size))
  have Xs1 := Lib.hid os1
  clear os1
  clear b2
  have Lw0 := Lib.hid HT.out.size
  have Tw0_s0 := Lib.hid Xs0.out.size
  have Tw0_s1 := Lib.hid Xs1.out.size
  go_wp2_with fail
  refine (specGcdNaturals _ y0 _ y1 _ Xs0.out.rd Xs1.out.rd).mono ?_
  rintro e v3 ⟨uw0, rfl, ow0, b3⟩
  replace Xs0 := Lib.hid (Xs0.out.below b3 Xs0.out.size)
  replace Xs1 := Lib.hid (Xs1.out.below b3 Xs1.out.size)
  replace HT := Lib.hid (HT.out.trans (b3.mono HT.out.size))
  have Xw0 := Lib.hid ow0
  clear ow0
  clear b3
  have Lx0 := Lib.hid HT.out.size
  have Tx0_s0 := Lib.hid Xs0.out.size
  have Tx0_s1 := Lib.hid Xs1.out.size
  have Tx0_w0 := Lib.hid Xw0.out.size
  go_wp2_with fail
  refine (toInts _ y0 _ (R0.out.below HT.out (Nat.le_refl _))).mono ?_
  rintro e v4 ⟨ux0, rfl, ox0, b4⟩
  replace Xs0 := Lib.hid (Xs0.out.below b4 Xs0.out.size)
  replace Xs1 := Lib.hid (Xs1.out.below b4 Xs1.out.size)
  replace Xw0 := Lib.hid (Xw0.out.below b4 Xw0.out.size)
  replace HT := Lib.hid (HT.out.trans (b4.mono HT.out.size))
  have Xx0 := Lib.hid ox0
  clear ox0
  clear b4
  have Lx1 := Lib.hid HT.out.size
  have Tx1_s0 := Lib.hid Xs0.out.size
  have Tx1_s1 := Lib.hid Xs1.out.size
  have Tx1_w0 := Lib.hid Xw0.out.size
  have Tx1_x0 := Lib.hid Xx0.out.size
  go_wp2_with fail
  refine (toInts _ y1 _ (R1.out.below HT.out (Nat.le_refl _))).mono ?_
  rintro e v5 ⟨ux1, rfl, ox1, b5⟩
  replace Xs0 := Lib.hid (Xs0.out.below b5 Xs0.out.size)
  replace Xs1 := Lib.hid (Xs1.out.below b5 Xs1.out.size)
  replace Xw0 := Lib.hid (Xw0.out.below b5 Xw0.out.size)
  replace Xx0 := Lib.hid (Xx0.out.below b5 Xx0.out.size)
  replace HT := Lib.hid (HT.out.trans (b5.mono HT.out.size))
  have Xx1 := Lib.hid ox1
  clear ox1
  clear b5
  have Lg0 := Lib.hid HT.out.size
  have Tg0_s0 := Lib.hid Xs0.out.size
  have Tg0_s1 := Lib.hid Xs1.out.size
  have Tg0_w0 := Lib.hid Xw0.out.size
  have Tg0_x0 := Lib.hid Xx0.out.size
  have Tg0_x1 := Lib.hid Xx1.out.size
  go_wp2_with fail
  refine (implGcdNaturals _ y0 _ y1 _ Xx0.out.rd Xx1.out.rd).mono ?_
  rintro e v6 ⟨ug0, rfl, og0, b6⟩
  replace Xs0 := Lib.hid (Xs0.out.below b6 Xs0.out.size)
  replace Xs1 := Lib.hid (Xs1.out.below b6 Xs1.out.size)
  replace Xw0 := Lib.hid (Xw0.out.below b6 Xw0.out.size)
  replace Xx0 := Lib.hid (Xx0.out.below b6 Xx0.out.size)
  replace Xx1 := Lib.hid (Xx1.out.below b6 Xx1.out.size)
  replace HT := Lib.hid (HT.out.trans (b6.mono HT.out.size))
  have Xg0 := Lib.hid og0
  clear og0
  clear b6
  go_wp2_with fail
  refine (eqInts _ _ _ _ Xg0.out.rd Xw0.out.rd).mono ?_
  rintro e v7 ⟨rfl, b7⟩
  replace Xs0 := Lib.hid (Xs0.out.below b7 Xs0.out.size)
  replace Xs1 := Lib.hid (Xs1.out.below b7 Xs1.out.size)
  replace Xw0 := Lib.hid (Xw0.out.below b7 Xw0.out.size)
  replace Xx0 := Lib.hid (Xx0.out.below b7 Xx0.out.size)
  replace Xx1 := Lib.hid (Xx1.out.below b7 Xx1.out.size)
  replace Xg0 := Lib.hid (Xg0.out.below b7 Xg0.out.size)
  replace HT := Lib.hid (HT.out.trans (b7.mono HT.out.size))
  clear b7
  have Lc0 := Lib.hid HT.out.size
  have Tc0_s0 := Lib.hid Xs0.out.size
  have Tc0_s1 := Lib.hid Xs1.out.size
  have Tc0_w0 := Lib.hid Xw0.out.size
  have Tc0_x0 := Lib.hid Xx0.out.size
  have Tc0_x1 := Lib.hid Xx1.out.size
  have Tc0_g0 := Lib.hid Xg0.out.size
  go_wp2_with fail
  refine (toInts _ y0 _ (R0.out.below HT.out (Nat.le_refl _))).mono ?_
  rintro e v8 ⟨uc0, rfl, oc0, b8⟩
  replace Xs0 := Lib.hid (Xs0.out.below b8 Xs0.out.size)
  replace Xs1 := Lib.hid (Xs1.out.below b8 Xs1.out.size)
  replace Xw0 := Lib.hid (Xw0.out.below b8 Xw0.out.size)
  replace Xx0 := Lib.hid (Xx0.out.below b8 Xx0.out.size)
  replace Xx1 := Lib.hid (Xx1.out.below b8 Xx1.out.size)
  replace Xg0 := Lib.hid (Xg0.out.below b8 Xg0.out.size)
  replace HT := Lib.hid (HT.out.trans (b8.mono HT.out.size))
  have Xc0 := Lib.hid oc0
  clear oc0
  clear b8
  go_wp2_with fail
  refine (eqInts _ _ _ _ Xx0.out.rd Xc0.out.rd).mono ?_
  rintro e v9 ⟨rfl, b9⟩
  replace Xs0 := Lib.hid (Xs0.out.below b9 Xs0.out.size)
  replace Xs1 := Lib.hid (Xs1.out.below b9 Xs1.out.size)
  replace Xw0 := Lib.hid (Xw0.out.below b9 Xw0.out.size)
  replace Xx0 := Lib.hid (Xx0.out.below b9 Xx0.out.size)
  replace Xx1 := Lib.hid (Xx1.out.below b9 Xx1.out.size)
  replace Xg0 := Lib.hid (Xg0.out.below b9 Xg0.out.size)
  replace Xc0 := Lib.hid (Xc0.out.below b9 Xc0.out.size)
  replace HT := Lib.hid (HT.out.trans (b9.mono HT.out.size))
  clear b9
  have Lc1 := Lib.hid HT.out.size
  have Tc1_s0 := Lib.hid Xs0.out.size
  have Tc1_s1 := Lib.hid Xs1.out.size
  have Tc1_w0 := Lib.hid Xw0.out.size
  have Tc1_x0 := Lib.hid Xx0.out.size
  have Tc1_x1 := Lib.hid Xx1.out.size
  have Tc1_g0 := Lib.hid Xg0.out.size
  have Tc1_c0 := Lib.hid Xc0.out.size
  go_wp2_with fail
  refine (toInts _ y1 _ (R1.out.below HT.out (Nat.le_refl _))).mono ?_
  rintro e v10 ⟨uc1, rfl, oc1, b10⟩
  replace Xs0 := Lib.hid (Xs0.out.below b10 Xs0.out.size)
  replace Xs1 := Lib.hid (Xs1.out.below b10 Xs1.out.size)
  replace Xw0 := Lib.hid (Xw0.out.below b10 Xw0.out.size)
  replace Xx0 := Lib.hid (Xx0.out.below b10 Xx0.out.size)
  replace Xx1 := Lib.hid (Xx1.out.below b10 Xx1.out.size)
  replace Xg0 := Lib.hid (Xg0.out.below b10 Xg0.out.size)
  replace Xc0 := Lib.hid (Xc0.out.below b10 Xc0.out.size)
  replace HT := Lib.hid (HT.out.trans (b10.mono HT.out.size))
  have Xc1 := Lib.hid oc1
  clear oc1
  clear b10
  go_wp2_with fail
  refine (eqInts _ _ _ _ Xx1.out.rd Xc1.out.rd).mono ?_
  rintro e v11 ⟨rfl, b11⟩
  replace Xs0 := Lib.hid (Xs0.out.below b11 Xs0.out.size)
  replace Xs1 := Lib.hid (Xs1.out.below b11 Xs1.out.size)
  replace Xw0 := Lib.hid (Xw0.out.below b11 Xw0.out.size)
  replace Xx0 := Lib.hid (Xx0.out.below b11 Xx0.out.size)
  replace Xx1 := Lib.hid (Xx1.out.below b11 Xx1.out.size)
  replace Xg0 := Lib.hid (Xg0.out.below b11 Xg0.out.size)
  replace Xc0 := Lib.hid (Xc0.out.below b11 Xc0.out.size)
  replace Xc1 := Lib.hid (Xc1.out.below b11 Xc1.out.size)
  replace HT := Lib.hid (HT.out.trans (b11.mono HT.out.size))
  clear b11
  clear Xs0
  clear Xs1
  clear Xc0
  clear Xc1
  have s12w0 := (Xw0.out.apart Xx0.out (by have := Tx0_w0.out; omega)).1
  have s12x1 := (Xx0.out.apart Xx1.out (by have := Tx1_x0.out; omega)).2
  have s12g0 := (Xx0.out.apart Xg0.out (by have := Tg0_x0.out; omega)).2
  go_wp2_with fail
  refine (markInts _ _ 1 _ _ _ Xx0.out (by have r0 := R0.out.len; have r1 := R1.out.len; omega) (by have r0 := R0.out.len; have r1 := R1.out.len; omega)).mono ?_
  rintro e v12 ⟨rfl, o12, g12⟩
  replace Xw0 := Lib.hid (Xw0.out.grown g12 s12w0)
  clear s12w0
  replace Xx1 := Lib.hid (Xx1.out.grown g12 s12x1)
  clear s12x1
  replace Xg0 := Lib.hid (Xg0.out.grown g12 s12g0)
  clear s12g0
  replace HT := Lib.hid (HT.out.trans ((grown_below Xx0.out g12).mono (by have := Lx0.out; omega)))
  replace Xx0 := Lib.hid o12
  clear o12 g12
  have s13w0 := (Xw0.out.apart Xx1.out (by have := Tx1_w0.out; omega)).1
  have s13x0 := (Xx0.out.apart Xx1.out (by have := Tx1_x0.out; omega)).1
  have s13g0 := (Xx1.out.apart Xg0.out (by have := Tg0_x1.out; omega)).2
  go_wp2_with fail
  refine (markInts _ _ (1 + (y0.length : Int)) _ _ _ Xx1.out (by have r0 := R0.out.len; have r1 := R1.out.len; omega) (by have r0 := R0.out.len; have r1 := R1.out.len; omega)).mono ?_
  rintro e v13 ⟨rfl, o13, g13⟩
  replace Xw0 := Lib.hid (Xw0.out.grown g13 s13w0)
  clear s13w0
  replace Xx0 := Lib.hid (Xx0.out.grown g13 s13x0)
  clear s13x0
  replace Xg0 := Lib.hid (Xg0.out.grown g13 s13g0)
  clear s13g0
  replace HT := Lib.hid (HT.out.trans ((grown_below Xx1.out g13).mono (by have := Lx1.out; omega)))
  replace Xx1 := Lib.hid o13
  clear o13 g13
  go_wp2_with fail
  refine (eqInts _ _ _ _ Xg0.out.rd Xw0.out.rd).mono ?_
  rintro e v14 ⟨rfl, b14⟩
  replace Xw0 := Lib.hid (Xw0.out.below b14 Xw0.out.size)
  replace Xx0 := Lib.hid (Xx0.out.below b14 Xx0.out.size)
  replace Xx1 := Lib.hid (Xx1.out.below b14 Xx1.out.size)
  replace Xg0 := Lib.hid (Xg0.out.below b14 Xg0.out.size)
  replace HT := Lib.hid (HT.out.trans (b14.mono HT.out.size))
  clear b14
  clear Xx0
  clear Xx1
  have s15w0 := (Xw0.out.apart Xg0.out (by have := Tg0_w0.out; omega)).1
  go_wp2_with fail
  refine (markInts _ _ 1 _ _ _ Xg0.out (by have r0 := R0.out.len; have r1 := R1.out.len; omega) (by have r0 := R0.out.len; have r1 := R1.out.len; omega)).mono ?_
  rintro e v15 ⟨rfl, o15, g15⟩
  replace Xw0 := Lib.hid (Xw0.out.grown g15 s15w0)
  clear s15w0
  replace HT := Lib.hid (HT.out.trans ((grown_below Xg0.out g15).mono (by have := Lg0.out; omega)))
  replace Xg0 := Lib.hid o15
  clear o15 g15
  go_wp2_with fail
  refine (heldInts _ _ 1 _ Xg0.out.rd (by omega) (by omega)).mono ?_
  rintro e v16 ⟨rfl, rfl⟩
  have Ld0 := Lib.hid HT.out.size
  have Td0_w0 := Lib.hid Xw0.out.size
  have Td0_g0 := Lib.hid Xg0.out.size
  go_wp2_with fail
  refine (toInts _ y0 _ (R0.out.below HT.out (Nat.le_refl _))).mono ?_
  rintro e v17 ⟨ud0, rfl, od0, b17⟩
  replace Xw0 := Lib.hid (Xw0.out.below b17 Xw0.out.size)
  replace Xg0 := Lib.hid (Xg0.out.below b17 Xg0.out.size)
  replace HT := Lib.hid (HT.out.trans (b17.mono HT.out.size))
  have Xd0 := Lib.hid od0
  clear od0
  clear b17
  have Ld1 := Lib.hid HT.out.size
  have Td1_w0 := Lib.hid Xw0.out.size
  have Td1_g0 := Lib.hid Xg0.out.size
  have Td1_d0 := Lib.hid Xd0.out.size
  go_wp2_with fail
  refine (toInts _ y1 _ (R1.out.below HT.out (Nat.le_refl _))).mono ?_
  rintro e v18 ⟨ud1, rfl, od1, b18⟩
  replace Xw0 := Lib.hid (Xw0.out.below b18 Xw0.out.size)
  replace Xg0 := Lib.hid (Xg0.out.below b18 Xg0.out.size)
  replace Xd0 := Lib.hid (Xd0.out.below b18 Xd0.out.size)
  replace HT := Lib.hid (HT.out.trans (b18.mono HT.out.size))
  have Xd1 := Lib.hid od1
  clear od1
  clear b18
  have Lh0 := Lib.hid HT.out.size
  have Th0_w0 := Lib.hid Xw0.out.size
  have Th0_g0 := Lib.hid Xg0.out.size
  have Th0_d0 := Lib.hid Xd0.out.size
  have Th0_d1 := Lib.hid Xd1.out.size
  go_wp2_with fail
  refine (implGcdNaturals _ y0 _ y1 _ Xd0.out.rd Xd1.out.rd).mono ?_
  rintro e v19 ⟨uh0, rfl, oh0, b19⟩
  replace Xw0 := Lib.hid (Xw0.out.below b19 Xw0.out.size)
  replace Xg0 := Lib.hid (Xg0.out.below b19 Xg0.out.size)
  replace Xd0 := Lib.hid (Xd0.out.below b19 Xd0.out.size)
  replace Xd1 := Lib.hid (Xd1.out.below b19 Xd1.out.size)
  replace HT := Lib.hid (HT.out.trans (b19.mono HT.out.size))
  have Xh0 := Lib.hid oh0
  clear oh0
  clear b19
  go_wp2_with fail
  refine (eqInts _ _ _ _ Xh0.out.rd Xw0.out.rd).mono ?_
  rintro e v20 ⟨rfl, b20⟩
  replace Xw0 := Lib.hid (Xw0.out.below b20 Xw0.out.size)
  replace Xg0 := Lib.hid (Xg0.out.below b20 Xg0.out.size)
  replace Xd0 := Lib.hid (Xd0.out.below b20 Xd0.out.size)
  replace Xd1 := Lib.hid (Xd1.out.below b20 Xd1.out.size)
  replace Xh0 := Lib.hid (Xh0.out.below b20 Xh0.out.size)
  replace HT := Lib.hid (HT.out.trans (b20.mono HT.out.size))
  clear b20
  go_wp2_with fail
  refine (heldInts _ _ 1 _ Xg0.out.rd (by omega) (by omega)).mono ?_
  rintro e v21 ⟨rfl, rfl⟩
  go_wp2
  go_ret
  exact ⟨rfl, HT.out⟩

/-! ### THE ROW's STEP: WRITTEN OUT: LEAVE IT -/
set_option maxRecDepth 100000 in
theorem lifted (os : Os) (started : os.Started) (H : Type) (enc : TypeId × Value → H) :
    ReturnsInHanded {} Try.checked os 4 .any (Rows.fnExactGcdNaturalsSpec.pre6 enc Try.prog Try.f4 Rows.fnExactGcdNaturalsRow.domain false) (Rows.fnExactGcdNaturalsSpec.post enc Try.prog Try.f4 false true false false) := by
  refine returnsInHanded_of_change (C := Try.checked) own started (by kernel_rfl) Try.func4
    (ChangeSpec.witness6 (enc := enc) (C := Try.checked) false ⟨#[], #[.slice none 0 0, .slice none 0 0], []⟩ 8 (by kernel_rfl) (by kernel_rfl) (by kernel_rfl) (by kernel_rfl)) ?_
  intro W base args ds gs before hval0 hW hcnd _
  have hval : ∀ (j : Nat) t v, Try.f4.params[j]? = some t → args[j]? = some v → Value.okWide Try.prog W .any base t v := hval0
  have hW' := hW
  obtain ⟨p, q, hA0, hV, rfl, hfz, hnd⟩ := hW
  have hA : DataW.TrodAll enc Try.prog W 0 (fun _ => true) true Try.f4.params.toList args.toList ds p := hA0
  rw [Try.params4] at hA hval
  obtain ⟨v0, vs0, d0, ds0, p0, q0, hargs, rfl, rfl, h0, r0⟩ := trodAll_cons hA
  obtain ⟨v1, vs1, d1, ds1, p1, q1, rfl, rfl, rfl, h1, r1⟩ := trodAll_cons r0
  obtain ⟨rfl, rfl, rfl⟩ := trodAll_nil r1
  obtain rfl : args = #[v0, v1] := by cases args; simp_all
  obtain ⟨rfl, rfl⟩ := trodVars_none hV
  obtain ⟨a0, len0, cap0, rfl⟩ := okWide_slice Try.underlying22 (hval 0 22 v0 rfl rfl)
  have k0 := h0
  have lt0 : ∀ x ∈ p0, x.block < W.heap.size := by obtain ⟨m, hm⟩ := k0; exact DataW.trod_lt m _ _ _ hm
  obtain ⟨z0, w0⟩ : ∃ zs, IsRow .i64 W a0 len0 cap0 zs := by
    obtain ⟨fuel, hf⟩ := h0
    rcases open_ints Try.underlying22 Try.underlying2 (by kernel_rfl) hf with ⟨hcs, _⟩ | ⟨x, l, c, zs, hcs, _, hl, hm, hz, _, hcell, hwz⟩
    · simp [Value.cells] at hcs
      obtain ⟨rfl, rfl, rfl⟩ := hcs
      exact ⟨[], .inl ⟨rfl, rfl, rfl, rfl⟩⟩
    · simp [Value.cells] at hcs
      obtain ⟨rfl, rfl, rfl⟩ := hcs
      exact ⟨zs, .inr ⟨_, rfl, hl, hm, by simpa using hz, hcell, hwz⟩⟩
  obtain ⟨a1, len1, cap1, rfl⟩ := okWide_slice Try.underlying22 (hval 1 22 v1 rfl rfl)
  have k1 := h1
  have lt1 : ∀ x ∈ p1, x.block < W.heap.size := by obtain ⟨m, hm⟩ := k1; exact DataW.trod_lt m _ _ _ hm
  obtain ⟨z1, w1⟩ : ∃ zs, IsRow .i64 W a1 len1 cap1 zs := by
    obtain ⟨fuel, hf⟩ := h1
    rcases open_ints Try.underlying22 Try.underlying2 (by kernel_rfl) hf with ⟨hcs, _⟩ | ⟨x, l, c, zs, hcs, _, hl, hm, hz, _, hcell, hwz⟩
    · simp [Value.cells] at hcs
      obtain ⟨rfl, rfl, rfl⟩ := hcs
      exact ⟨[], .inl ⟨rfl, rfl, rfl, rfl⟩⟩
    · simp [Value.cells] at hcs
      obtain ⟨rfl, rfl, rfl⟩ := hcs
      exact ⟨zs, .inr ⟨_, rfl, hl, hm, by simpa using hz, hcell, hwz⟩⟩
  clear hA0 hval0
  refine (walk a0 len0 cap0 z0 a1 len1 cap1 z1 W w0 w1).mono fun e W' ⟨he, bel⟩ => ?_
  subst he
  exact ⟨_, rfl, _, _, _, [], _, [], hW', trodAll_mk1 (shut_bool Try.underlying4 _), (trodAll_cons_mk (Below.trod laidOut (by kernel_rfl) (of_decide_eq_true (by kernel_rfl)) k0 bel lt0) (trodAll_cons_mk (Below.trod laidOut (by kernel_rfl) (of_decide_eq_true (by kernel_rfl)) k1 bel lt1) trodAll_mk0)), rfl, bel.frame _, fun h => by cases h⟩

theorem over : Rows.fnExactGcdNaturalsRow.holds Try.pinned (OpenSpec.ofChange Rows.fnExactGcdNaturalsSpec) :=
  OpenClaim.holds_of_wide 4 Try.f4 rfl rfl rfl rfl rfl rfl rfl ⟨rfl, rfl, rfl, rfl, rfl⟩ rfl rfl rfl rfl rfl (by kernel_rfl) Try.func4 (by kernel_rfl)
    (of_decide_eq_true (by kernel_rfl)) (by unfold Func.isWrapper; first | (rw [if_pos (by decide +kernel)]; kernel_rfl) | (rw [if_neg (by decide +kernel)]; exact ⟨rfl, rfl⟩))
    (fun os started H enc _ => lifted os started H enc)

/-- ████ THE STATEMENT ████ -/
theorem proved : Rows.FnExactGcdNaturalsSaid := over
#print axioms proved
end Go.Proofs.Ytfnopnaaahkklaa.fnExactGcdNaturals
