/-   FnExactSequenceOf: for every list the program's SequenceOf answers as its model, the numbers and the code, leaves its argument alone, and its answer is its own. No condition. -/
import Derived.Test.YtfnopnaaahkklaaRows
import Derived.WalkKit
import Derived.ProofKit
import Derived.OpenShut
import Derived.ShutString
import Derived.ChangeOld
import Derived.Below
import Derived.Lib.SmallJoins
import Derived.Deep.Strs
import Derived.OpenVars
import Derived.ChangeMaps5
import Derived.Handy
import Derived.Lib.Hide
import Derived.Deep.RegionHeld3
import Derived.Test.YtfnopnaaahkklaaSqO
namespace Go.Proofs.Ytfnopnaaahkklaa.fnExactSequenceOf
open Go.ChangeShapes Go.WideShapes Go.ChangeAt Go.RowKit
set_option linter.unusedVariables false
set_option linter.unusedSimpArgs false

theorem own : ownKnob Try.prog.godebug = none := by kernel_rfl
theorem laidOut : laidOutB Try.prog = true := by kernel_rfl
open Ints

set_option maxRecDepth 100000 in
set_option maxHeartbeats 16000000 in
theorem walk (a0_0 : Option Addr) (len0_0 cap0_0 : Nat) (z0_0 : List Int) (w : World) (w0_0 : IsList w a0_0 len0_0 cap0_0 z0_0) :
    Calls Try.prog 8 #[.slice a0_0 len0_0 cap0_0] w fun e w' => e = .returned (.bool true) ∧ Below w.heap.size w w' := by
  by_cases hb0_0 : len0_0 ≤ 1048576
  rotate_left
  · have hc0_0 : (1048576 : Int) < (len0_0 : Int) := by omega
    go_enter Try.func8, Try.ntmps8
    go_wp2
    go_ret
    exact ⟨rfl, Below.refl _ _⟩
  have hd0_0 : ¬ (1048576 : Int) < (len0_0 : Int) := by omega
  obtain ⟨y0, hy0⟩ : ∃ y, y = z0_0.take len0_0 := ⟨_, rfl⟩
  have R0 : Hid (Rd w (.slice a0_0 len0_0 cap0_0) y0) := Lib.hid (by rw [hy0]; exact rd_of_row w0_0 (by omega))
  have HYL : Hid (y0.length ≤ 1048576) := Lib.hid (by rw [hy0, List.length_take]; omega)
  clear hy0 w0_0
  have HT : Hid (Below w.heap.size w w) := Lib.hid (Below.refl _ _)
  have SZ0 := Lib.hid (Nat.le_refl w.heap.size)
  have HTB : Hid (w.heap.size ≤ w.heap.size) := Lib.hid (Nat.le_refl _)
  go_enter Try.func8, Try.ntmps8
  go_wp2_with fail
  refine (toInts _ y0 _ (R0.out.below HT.out (Nat.le_refl _))).mono ?_
  rintro e v1 ⟨us, rfl, os, b1⟩
  have SZ1 := Lib.hid b1.size
  replace HT := Lib.hid (HT.out.trans (b1.mono HT.out.size))
  clear b1
  obtain ⟨nas, ncs, hus⟩ := os.shape
  subst hus
  have Xs := Lib.hid os
  clear os
  go_wp2_with fail
  refine (specSequenceOf _ y0 _ Xs.out.rd).mono ?_
  rintro e v2 ⟨uw, rfl, ow, b2⟩
  have SZ2 := Lib.hid b2.size
  replace Xs := Lib.hid (Xs.out.below b2 Xs.out.size)
  replace HT := Lib.hid (HT.out.trans (b2.mono HT.out.size))
  clear b2
  obtain ⟨naw, ncw, huw⟩ := ow.shape
  subst huw
  have Xw := Lib.hid ow
  clear ow
  clear Xs
  go_wp2_with fail
  refine (toInts _ y0 _ (R0.out.below HT.out (Nat.le_refl _))).mono ?_
  rintro e v3 ⟨ux, rfl, ox, b3⟩
  have SZ3 := Lib.hid b3.size
  replace Xw := Lib.hid (Xw.out.below b3 Xw.out.size)
  replace HT := Lib.hid (HT.out.trans (b3.mono HT.out.size))
  clear b3
  obtain ⟨nax, ncx, hux⟩ := ox.shape
  subst hux
  have Xx := Lib.hid ox
  clear ox
  go_wp2_with fail
  refine (implSequenceOf _ y0 _ Xx.out.rd).mono ?_
  rintro e v4 ⟨ug, rfl, og, b4⟩
  have SZ4 := Lib.hid b4.size
  replace Xw := Lib.hid (Xw.out.below b4 Xw.out.size)
  replace Xx := Lib.hid (Xx.out.below b4 Xx.out.size)
  replace HT := Lib.hid (HT.out.trans (b4.mono HT.out.size))
  clear b4
  obtain ⟨nag, ncg, hug⟩ := og.shape
  subst hug
  have Xg := Lib.hid og
  clear og
  go_wp2_with fail
  refine (eqLists _ _ (soR y0).1 _ Xg.out.rdl Xw.out.rdl).mono ?_
  rintro e v5 ⟨rfl, b5⟩
  have SZ5 := Lib.hid b5.size
  replace Xw := Lib.hid (Xw.out.below b5 Xw.out.size)
  replace Xx := Lib.hid (Xx.out.below b5 Xx.out.size)
  replace Xg := Lib.hid (Xg.out.below b5 Xg.out.size)
  replace HT := Lib.hid (HT.out.trans (b5.mono HT.out.size))
  clear b5
  go_wp2_with fail
  refine (toInts _ y0 _ (R0.out.below HT.out (Nat.le_refl _))).mono ?_
  rintro e v6 ⟨uc, rfl, oc, b6⟩
  have SZ6 := Lib.hid b6.size
  replace Xw := Lib.hid (Xw.out.below b6 Xw.out.size)
  replace Xx := Lib.hid (Xx.out.below b6 Xx.out.size)
  replace Xg := Lib.hid (Xg.out.below b6 Xg.out.size)
  replace HT := Lib.hid (HT.out.trans (b6.mono HT.out.size))
  clear b6
  obtain ⟨nac, ncc, huc⟩ := oc.shape
  subst huc
  have Xc := Lib.hid oc
  clear oc
  go_wp2_with fail
  refine (eqInts _ _ y0 _ Xx.out.rd Xc.out.rd).mono ?_
  rintro e v7 ⟨rfl, b7⟩
  have SZ7 := Lib.hid b7.size
  replace Xw := Lib.hid (Xw.out.below b7 Xw.out.size)
  replace Xx := Lib.hid (Xx.out.below b7 Xx.out.size)
  replace Xg := Lib.hid (Xg.out.below b7 Xg.out.size)
  replace Xc := Lib.hid (Xc.out.below b7 Xc.out.size)
  replace HT := Lib.hid (HT.out.trans (b7.mono HT.out.size))
  clear b7
  clear Xc
  have HYX := HYL.out
  go_wp2_with fail
  refine (markInts _ y0 1 v2.heap.size v3.heap.size _ Xx.out (by omega) (by omega)).mono ?_
  rintro e v8 ⟨rfl, oo, hg⟩
  have ho : Only (fun b => v2.heap.size ≤ b ∧ b < v3.heap.size) v7 v8 := ⟨hg.os, hg.tape, hg.output, hg.size, fun b hb hn => hg.block b hb (fun e => hn ⟨(Xx.out.row.lt b e.symm).1, Xx.out.top b e.symm⟩)⟩
  have SZ8 := Lib.hid hg.size
  clear Xx
  replace Xw := Lib.hid (Xw.out.onlyQ ho (fun b h1 h2 h3 => by have := HT.out.size; have := SZ0.out; have := SZ1.out; have := SZ2.out; have := SZ3.out; have := SZ4.out; have := SZ5.out; have := SZ6.out; have := SZ7.out; have := SZ8.out; omega))
  replace Xg := Lib.hid (Xg.out.onlyQ ho (fun b h1 h2 h3 => by have := HT.out.size; have := SZ0.out; have := SZ1.out; have := SZ2.out; have := SZ3.out; have := SZ4.out; have := SZ5.out; have := SZ6.out; have := SZ7.out; have := SZ8.out; omega))
  replace HT := Lib.hid (HT.out.trans (ho.below (fun b h3 => by have := HT.out.size; have := SZ0.out; have := SZ1.out; have := SZ2.out; have := SZ3.out; have := SZ4.out; have := SZ5.out; have := SZ6.out; have := SZ7.out; have := SZ8.out; exact Nat.le_trans HTB.out (by omega)) HT.out.size))
  clear ho hg oo HYX
  have hkn : ¬ ((1 : Int) + (y0.length : Int) < 0) := by omega
  go_wp2_with fail
  refine (eqLists _ _ (soR y0).1 _ Xg.out.rdl Xw.out.rdl).mono ?_
  rintro e v9 ⟨rfl, b9⟩
  have SZ9 := Lib.hid b9.size
  replace Xw := Lib.hid (Xw.out.below b9 Xw.out.size)
  replace Xg := Lib.hid (Xg.out.below b9 Xg.out.size)
  replace HT := Lib.hid (HT.out.trans (b9.mono HT.out.size))
  clear b9
  have HRT := Lib.hid (soR_tot y0)
  obtain ⟨RW, hRW⟩ : ∃ R, R = (soR y0).1 := ⟨_, rfl⟩
  have HRW := Lib.hid hRW
  rw [← hRW] at Xg Xw HRT ⊢
  clear hRW
  have hrt : tot RW ≤ 1048576 := HRT.out
  go_wp2_with fail
  refine (markListsM _ RW 1 v3.heap.size v4.heap.size _ Xg.out (by omega)).mono ?_
  rintro e v10 ⟨rfl, om, ho⟩
  have SZ10 := Lib.hid ho.size
  clear Xg
  replace Xw := Lib.hid (Xw.out.onlyQ ho (fun b h1 h2 h3 => by have := HT.out.size; have := SZ0.out; have := SZ1.out; have := SZ2.out; have := SZ3.out; have := SZ4.out; have := SZ5.out; have := SZ6.out; have := SZ7.out; have := SZ8.out; have := SZ9.out; have := SZ10.out; omega))
  replace HT := Lib.hid (HT.out.trans (ho.below (fun b h3 => by have := HT.out.size; have := SZ0.out; have := SZ1.out; have := SZ2.out; have := SZ3.out; have := SZ4.out; have := SZ5.out; have := SZ6.out; have := SZ7.out; have := SZ8.out; have := SZ9.out; have := SZ10.out; exact Nat.le_trans HTB.out (by omega)) HT.out.size))
  have Xg := Lib.hid om
  clear om ho
  have hn1 : ¬ ((1 : Int) + (tot RW : Int) < 0) := by omega
  go_wp2_with fail
  refine (heldLists _ RW 1 _ Xg.out.rdl (by omega)).mono ?_
  rintro e vh ⟨rfl, rfl⟩
  go_wp2_with fail
  refine (toInts _ y0 _ (R0.out.below HT.out (Nat.le_refl _))).mono ?_
  rintro e v11 ⟨ud, rfl, od, b11⟩
  have SZ11 := Lib.hid b11.size
  replace Xw := Lib.hid (Xw.out.below b11 Xw.out.size)
  replace Xg := Lib.hid (Xg.out.below b11 Xg.out.size)
  replace HT := Lib.hid (HT.out.trans (b11.mono HT.out.size))
  clear b11
  obtain ⟨nad, ncd, hud⟩ := od.shape
  subst hud
  have Xd := Lib.hid od
  clear od
  go_wp2_with fail
  have HCALL := Lib.hid (implSequenceOf _ y0 _ Xd.out.rd)
  rw [← HRW.out] at HCALL
  refine HCALL.out.mono ?_
  rintro e v12 ⟨uh, rfl, oh, bh⟩
  have SZ12 := Lib.hid bh.size
  replace Xw := Lib.hid (Xw.out.below bh Xw.out.size)
  replace Xg := Lib.hid (Xg.out.below bh Xg.out.size)
  replace Xd := Lib.hid (Xd.out.below bh Xd.out.size)
  replace HT := Lib.hid (HT.out.trans (bh.mono HT.out.size))
  clear bh
  clear HCALL
  obtain ⟨nah, nch, huh⟩ := oh.shape
  subst huh
  have Xh := Lib.hid oh
  clear oh
  go_wp2_with fail
  refine (eqLists _ _ RW _ Xh.out.rdl Xw.out.rdl).mono ?_
  rintro e v13 ⟨rfl, b13⟩
  have SZ13 := Lib.hid b13.size
  replace Xw := Lib.hid (Xw.out.below b13 Xw.out.size)
  replace Xg := Lib.hid (Xg.out.below b13 Xg.out.size)
  replace Xd := Lib.hid (Xd.out.below b13 Xd.out.size)
  replace Xh := Lib.hid (Xh.out.below b13 Xh.out.size)
  replace HT := Lib.hid (HT.out.trans (b13.mono HT.out.size))
  clear b13
  go_wp2_with fail
  refine (heldLists _ RW 1 _ Xg.out.rdl (by omega)).mono ?_
  rintro e vh ⟨rfl, rfl⟩
  go_wp2
  go_ret
  exact ⟨rfl, HT.out⟩

set_option maxRecDepth 100000 in
theorem lifted (os : Os) (started : os.Started) (H : Type) (enc : TypeId × Value → H) :
    ReturnsInHanded {} Try.checked os 8 .any (Rows.fnExactSequenceOfSpec.pre6 enc Try.prog Try.f8 Rows.fnExactSequenceOfRow.domain false) (Rows.fnExactSequenceOfSpec.post enc Try.prog Try.f8 false true false false) := by
  refine returnsInHanded_of_change (C := Try.checked) own started (by kernel_rfl) Try.func8
    (ChangeSpec.witness6 (enc := enc) (C := Try.checked) false ⟨#[], #[.slice none 0 0], []⟩ 8 (by kernel_rfl) (by kernel_rfl) (by kernel_rfl) (by kernel_rfl)) ?_
  intro W base args ds gs before hval0 hW hcnd _
  have hval : ∀ (j : Nat) t v, Try.f8.params[j]? = some t → args[j]? = some v → Value.okWide Try.prog W .any base t v := hval0
  have hW' := hW
  obtain ⟨p, q, hA0, hV, rfl, hfz, hnd⟩ := hW
  have hA : DataW.TrodAll enc Try.prog W 0 (fun _ => true) true Try.f8.params.toList args.toList ds p := hA0
  rw [Try.params8] at hA hval
  obtain ⟨v0, vs0, d0, ds0, p0, q0, hargs, rfl, rfl, h0, r0⟩ := trodAll_cons hA
  obtain ⟨rfl, rfl, rfl⟩ := trodAll_nil r0
  obtain rfl : args = #[v0] := by cases args; simp_all
  obtain ⟨rfl, rfl⟩ := trodVars_none hV
  have k0 := h0
  have lt0 : ∀ x ∈ p0, x.block < W.heap.size := by obtain ⟨m, hm⟩ := k0; exact DataW.trod_lt m _ _ _ hm
  obtain ⟨a0_0, len0_0, cap0_0, rfl⟩ := okWide_slice Try.underlying22 (hval 0 22 v0 rfl rfl)
  obtain ⟨z0_0, w0_0⟩ : ∃ zs, IsList W a0_0 len0_0 cap0_0 zs := by
    obtain ⟨fuel, hf⟩ := h0
    obtain ⟨a', len', cap', z', e', w'⟩ := open_list hf
    simp [Value.cells] at e'
    obtain ⟨rfl, rfl, rfl⟩ := e'
    exact ⟨z', w'⟩
  clear hA0 hval0
  refine (walk a0_0 len0_0 cap0_0 z0_0 W w0_0).mono fun e W' ⟨he, bel⟩ => ?_
  subst he
  exact ⟨_, rfl, _, _, _, [], _, [], hW', trodAll_mk1 (shut_bool Try.underlying4 _), (trodAll_cons_mk (Below.trod laidOut (by kernel_rfl) (of_decide_eq_true (by kernel_rfl)) k0 bel lt0) trodAll_mk0), rfl, bel.frame _, fun h => by cases h⟩

theorem over : Rows.fnExactSequenceOfRow.holds Try.pinned (OpenSpec.ofChange Rows.fnExactSequenceOfSpec) :=
  OpenClaim.holds_of_wide 8 Try.f8 rfl rfl rfl rfl rfl rfl rfl ⟨rfl, rfl, rfl, rfl, rfl⟩ rfl rfl rfl rfl rfl (by kernel_rfl) Try.func8 (by kernel_rfl)
    (of_decide_eq_true (by kernel_rfl)) (by unfold Func.isWrapper; first | (rw [if_pos (by decide +kernel)]; kernel_rfl) | (rw [if_neg (by decide +kernel)]; exact ⟨rfl, rfl⟩))
    (fun os started H enc _ => lifted os started H enc)

/-- The statement. -/
theorem proved : Rows.FnExactSequenceOfSaid := over
#print axioms proved
end Go.Proofs.Ytfnopnaaahkklaa.fnExactSequenceOf
