/-   FnExactReverseRewrites: for every list of rewriting rules the program's ReverseRewrites answers as its model, rules and code, leaves its arguments alone, and its answer is its own. No condition. -/
import Derived.Test.YthombjcjhnekpaaRows
import Derived.WalkKit
import Derived.ProofKit
import Derived.OpenShut
import Derived.ShutString
import Derived.ChangeOld
import Derived.Below
import Derived.Lib.SmallJoins
import Derived.Deep.Strs
import Derived.OpenVars
import Derived.ChangeMaps5
import Derived.Handy
import Derived.Lib.Hide
import Derived.Deep.RegionHeld3
import Derived.Test.YthombjcjhnekpaaRws3
import Derived.Test.YthombjcjhnekpaaRvR
namespace Go.Proofs.Ythombjcjhnekpaa.fnExactReverseRewrites
open Go.ChangeShapes Go.WideShapes Go.ChangeAt Go.RowKit
set_option linter.unusedVariables false
set_option linter.unusedSimpArgs false

theorem own : ownKnob Try.prog.godebug = none := by kernel_rfl
theorem laidOut : laidOutB Try.prog = true := by kernel_rfl
open Ints

set_option maxRecDepth 100000 in
set_option maxHeartbeats 16000000 in
theorem walk (a0_0 : Option Addr) (len0_0 cap0_0 : Nat) (z0_0 : List Tin) (w : World) (w0_0 : IsTapes w a0_0 len0_0 cap0_0 z0_0) :
    Calls Try.prog 10 #[.slice a0_0 len0_0 cap0_0] w fun e w' => e = .returned (.bool true) ∧ Below w.heap.size w w' := by
  have hz0 := w0_0.le
  obtain ⟨l0, hl0⟩ : ∃ l : Int, l = 1048576 - (len0_0 : Int) := ⟨_, rfl⟩
  obtain ⟨m0, hm0⟩ : ∃ m : Int, m = szT l0 (z0_0.take len0_0) := ⟨_, rfl⟩
  have HI := Lib.hid w0_0
  have HL := Lib.hid hl0
  have HM := Lib.hid hm0
  have HZ := Lib.hid hz0
  have hlen : 0 ≤ l0 → len0_0 ≤ 1048576 := fun h => by omega
  have HLEN := Lib.hid hlen
  have HQ : Hid (l0 ≤ 1048576) := Lib.hid (by omega)
  clear hl0 hm0 hz0 hlen w0_0
  by_cases h0 : 0 ≤ l0
  rotate_left
  · have h1 : l0 < 0 := by omega
    go_enter Try.func10, Try.ntmps10
    go_wp2_with fail
    refine (szTapes_bad _ _ _ _ HZ.out (by omega) HL.out h1).mono ?_
    rintro e v0 ⟨rfl, b0⟩
    have HT := Lib.hid b0
    clear b0
    go_wp2
    go_ret
    exact ⟨rfl, HT.out⟩
  by_cases h2 : 0 ≤ m0
  rotate_left
  · have h3 : m0 < 0 := by omega
    go_enter Try.func10, Try.ntmps10
    go_wp2_with fail
    refine (szTapes _ _ _ z0_0 _ HI.out (by omega) HL.out h0).mono ?_
    rintro e v0 ⟨rfl, b0⟩
    rw [← HM.out]
    have HT := Lib.hid b0
    have SZ0 := Lib.hid b0.size
    clear b0
    go_wp2
    go_ret
    exact ⟨rfl, HT.out⟩
  have hn : ¬ m0 < 0 := by omega
  have HP0 : Hid (0 ≤ m0 ∧ m0 ≤ 1048576) := Lib.hid ⟨h2, by have := szT_le (z0_0.take len0_0) l0; rw [← HM.out] at this; have := HQ.out; omega⟩
  obtain ⟨y0, hy0⟩ : ∃ y, y = (z0_0.take len0_0).map Tin.tp := ⟨_, rfl⟩
  have R0 : Hid (RdT w (.slice a0_0 len0_0 cap0_0) y0) := Lib.hid (by rw [hy0]; exact rdt_of_row HI.out (HLEN.out h0) (szT_good _ l0 (by rw [← HM.out]; exact h2) HQ.out))
  have HTOT : Hid (totR y0 ≤ 1048576) := Lib.hid (by have := szT_tot (z0_0.take len0_0) l0 (by rw [← HM.out]; exact h2); rw [← hy0] at this; have := HQ.out; omega)
  clear hy0
  go_enter Try.func10, Try.ntmps10
  go_wp2_with fail
  refine (szTapes _ _ _ z0_0 _ HI.out (by omega) HL.out h0).mono ?_
  rintro e v0 ⟨rfl, b0⟩
  rw [← HM.out]
  have HT := Lib.hid b0
  have SZ0 := Lib.hid b0.size
  clear b0
  clear HL HM HI h0 HLEN HQ HZ
  go_wp2_with fail
  refine (toTapesS _ y0 _ (R0.out.below HT.out (Nat.le_refl _))).mono ?_
  rintro e v1 ⟨us0, rfl, os0, b1⟩
  have SZ1 := Lib.hid b1.size
  replace HT := Lib.hid (HT.out.trans (b1.mono HT.out.size))
  clear b1
  obtain ⟨gas0, gcs0, hus0⟩ := os0.shape
  subst hus0
  have Ys0 := Lib.hid os0.rdt
  clear os0
  go_wp2_with fail
  refine (specRevRw _ y0 _ Ys0.out).mono ?_
  rintro e v2 ⟨uw, rfl, ow, b2⟩
  have SZ2 := Lib.hid b2.size
  replace Ys0 := Lib.hid (Ys0.out.below b2 (Nat.le_refl _))
  replace HT := Lib.hid (HT.out.trans (b2.mono HT.out.size))
  clear b2
  obtain ⟨naw, ncw, huw⟩ := ow.shape
  subst huw
  have Xw := Lib.hid ow
  clear ow
  clear Ys0
  go_wp2_with fail
  refine (toTapesS _ y0 _ (R0.out.below HT.out (Nat.le_refl _))).mono ?_
  rintro e v3 ⟨ux0, rfl, ox0, b3⟩
  have SZ3 := Lib.hid b3.size
  replace Xw := Lib.hid (Xw.out.below b3 Xw.out.size)
  replace HT := Lib.hid (HT.out.trans (b3.mono HT.out.size))
  clear b3
  obtain ⟨gax0, gcx0, hux0⟩ := ox0.shape
  subst hux0
  have Xx0 := Lib.hid ox0
  clear ox0
  go_wp2_with fail
  refine (implRevRw _ y0 _ Xx0.out.rdt).mono ?_
  rintro e v4 ⟨ug, rfl, og, b4⟩
  have SZ4 := Lib.hid b4.size
  replace Xw := Lib.hid (Xw.out.below b4 Xw.out.size)
  replace Xx0 := Lib.hid (Xx0.out.below b4 Xx0.out.size)
  replace HT := Lib.hid (HT.out.trans (b4.mono HT.out.size))
  clear b4
  obtain ⟨nag, ncg, hug⟩ := og.shape
  subst hug
  have Xg := Lib.hid og
  clear og
  go_wp2_with fail
  refine (eqTapes _ _ (rvR y0).1 _ Xg.out.rdt Xw.out.rdt).mono ?_
  rintro e v5 ⟨rfl, b5⟩
  have SZ5 := Lib.hid b5.size
  replace Xw := Lib.hid (Xw.out.below b5 Xw.out.size)
  replace Xx0 := Lib.hid (Xx0.out.below b5 Xx0.out.size)
  replace Xg := Lib.hid (Xg.out.below b5 Xg.out.size)
  replace HT := Lib.hid (HT.out.trans (b5.mono HT.out.size))
  clear b5
  go_wp2_with fail
  refine (toTapesS _ y0 _ (R0.out.below HT.out (Nat.le_refl _))).mono ?_
  rintro e v6 ⟨uc0, rfl, oc0, b6⟩
  have SZ6 := Lib.hid b6.size
  replace Xw := Lib.hid (Xw.out.below b6 Xw.out.size)
  replace Xx0 := Lib.hid (Xx0.out.below b6 Xx0.out.size)
  replace Xg := Lib.hid (Xg.out.below b6 Xg.out.size)
  replace HT := Lib.hid (HT.out.trans (b6.mono HT.out.size))
  clear b6
  obtain ⟨gac0, gcc0, huc0⟩ := oc0.shape
  subst huc0
  have Yc0 := Lib.hid oc0.rdt
  clear oc0
  go_wp2_with fail
  refine (eqTapes _ _ y0 _ Xx0.out.rdt Yc0.out).mono ?_
  rintro e v7 ⟨rfl, b7⟩
  have SZ7 := Lib.hid b7.size
  replace Xw := Lib.hid (Xw.out.below b7 Xw.out.size)
  replace Xx0 := Lib.hid (Xx0.out.below b7 Xx0.out.size)
  replace Xg := Lib.hid (Xg.out.below b7 Xg.out.size)
  replace Yc0 := Lib.hid (Yc0.out.below b7 (Nat.le_refl _))
  replace HT := Lib.hid (HT.out.trans (b7.mono HT.out.size))
  clear b7
  clear Yc0
  have HTB : Hid (w.heap.size ≤ v0.heap.size) := Lib.hid (by have := SZ0.out; omega)
  have TB0 := HTOT.out
  go_wp2_with fail
  refine (markRws _ y0 1 v2.heap.size v3.heap.size _ Xx0.out (by omega)).mono ?_
  rintro e v8 ⟨rfl, ho⟩
  have SZ8 := Lib.hid ho.size
  clear Xx0
  replace Xw := Lib.hid (Xw.out.onlyQ ho (fun b h1 h2 h3 => by have := HT.out.size; have := SZ0.out; have := SZ1.out; have := SZ2.out; have := SZ3.out; have := SZ4.out; have := SZ5.out; have := SZ6.out; have := SZ7.out; have := SZ8.out; omega))
  replace Xg := Lib.hid (Xg.out.onlyQ ho (fun b h1 h2 h3 => by have := HT.out.size; have := SZ0.out; have := SZ1.out; have := SZ2.out; have := SZ3.out; have := SZ4.out; have := SZ5.out; have := SZ6.out; have := SZ7.out; have := SZ8.out; omega))
  replace HT := Lib.hid (HT.out.trans (ho.below (fun b h3 => by have := HT.out.size; have := SZ0.out; have := SZ1.out; have := SZ2.out; have := SZ3.out; have := SZ4.out; have := SZ5.out; have := SZ6.out; have := SZ7.out; have := SZ8.out; exact Nat.le_trans HTB.out (by omega)) HT.out.size))
  clear ho
  obtain ⟨k1, hk1⟩ : ∃ k : Nat, k = 1 + totR y0 := ⟨_, rfl⟩
  rw [← hk1]
  have TK1 : k1 ≤ 40000000 := by omega
  clear hk1
  have hkn : ¬ ((k1 : Int) < 0) := by omega
  clear TB0  TK1
  go_wp2_with fail
  refine (eqTapes _ _ (rvR y0).1 _ Xg.out.rdt Xw.out.rdt).mono ?_
  rintro e v9 ⟨rfl, b9⟩
  have SZ9 := Lib.hid b9.size
  replace Xw := Lib.hid (Xw.out.below b9 Xw.out.size)
  replace Xg := Lib.hid (Xg.out.below b9 Xg.out.size)
  replace HT := Lib.hid (HT.out.trans (b9.mono HT.out.size))
  clear b9
  have HLG := Lib.hid Xg.out.len
  have HRT := Lib.hid (Nat.le_trans (rvR_tot y0) HTOT.out)
  obtain ⟨RW, hRW⟩ : ∃ R, R = (rvR y0).1 := ⟨_, rfl⟩
  have HRW := Lib.hid hRW
  rw [← hRW] at Xg Xw HLG HRT ⊢
  clear hRW
  have hlg := HLG.out
  have hrt : totR RW ≤ 1048576 := HRT.out
  go_wp2_with fail
  refine (markRwsM _ RW 1 v3.heap.size v4.heap.size _ Xg.out (by omega)).mono ?_
  rintro e v10 ⟨rfl, om, ho⟩
  have SZ10 := Lib.hid ho.size
  clear Xg
  replace Xw := Lib.hid (Xw.out.onlyQ ho (fun b h1 h2 h3 => by have := HT.out.size; have := SZ0.out; have := SZ1.out; have := SZ2.out; have := SZ3.out; have := SZ4.out; have := SZ5.out; have := SZ6.out; have := SZ7.out; have := SZ8.out; have := SZ9.out; have := SZ10.out; omega))
  replace HT := Lib.hid (HT.out.trans (ho.below (fun b h3 => by have := HT.out.size; have := SZ0.out; have := SZ1.out; have := SZ2.out; have := SZ3.out; have := SZ4.out; have := SZ5.out; have := SZ6.out; have := SZ7.out; have := SZ8.out; have := SZ9.out; have := SZ10.out; exact Nat.le_trans HTB.out (by omega)) HT.out.size))
  have Xg := Lib.hid om
  clear om ho
  have hn1 : ¬ ((1 : Int) + ((totR RW : Int) : Int) < 0) := by omega
  go_wp2_with fail
  refine (heldRws _ RW 1 _ Xg.out.held (by omega)).mono ?_
  rintro e vh ⟨rfl, rfl⟩
  go_wp2_with fail
  refine (toTapesS _ y0 _ (R0.out.below HT.out (Nat.le_refl _))).mono ?_
  rintro e v11 ⟨ud0, rfl, od0, b11⟩
  have SZ11 := Lib.hid b11.size
  replace Xw := Lib.hid (Xw.out.below b11 Xw.out.size)
  replace Xg := Lib.hid (Xg.out.below b11 Xg.out.size)
  replace HT := Lib.hid (HT.out.trans (b11.mono HT.out.size))
  clear b11
  obtain ⟨gad0, gcd0, hud0⟩ := od0.shape
  subst hud0
  have Yd0 := Lib.hid od0.rdt
  clear od0
  go_wp2_with fail
  have HCALL := Lib.hid (implRevRw _ y0 _ Yd0.out)
  rw [← HRW.out] at HCALL
  refine HCALL.out.mono ?_
  rintro e v12 ⟨uh0, rfl, oh0, bh0⟩
  have SZ12 := Lib.hid bh0.size
  replace Xw := Lib.hid (Xw.out.below bh0 Xw.out.size)
  replace Xg := Lib.hid (Xg.out.below bh0 Xg.out.size)
  replace Yd0 := Lib.hid (Yd0.out.below bh0 (Nat.le_refl _))
  replace HT := Lib.hid (HT.out.trans (bh0.mono HT.out.size))
  clear bh0 HCALL
  obtain ⟨nah, nch, huh⟩ := oh0.shape
  subst huh
  have Xh := Lib.hid oh0
  clear oh0
  have hn2 : ¬ ((1 : Int) + ((totR RW : Int) : Int) < 0) := by omega
  go_wp2_with fail
  refine (eqTapes _ _ RW _ Xh.out.rdt Xw.out.rdt).mono ?_
  rintro e v13 ⟨rfl, b9⟩
  replace Xg := Lib.hid (Xg.out.below b9 Xg.out.size)
  replace HT := Lib.hid (HT.out.trans (b9.mono HT.out.size))
  clear b9
  go_wp2_with fail
  refine (heldRws _ RW 1 _ Xg.out.held (by omega)).mono ?_
  rintro e vh ⟨rfl, rfl⟩
  go_wp2
  go_ret
  exact ⟨rfl, HT.out⟩

set_option maxRecDepth 100000 in
theorem lifted (os : Os) (started : os.Started) (H : Type) (enc : TypeId × Value → H) :
    ReturnsInHanded {} Try.checked os 10 .any (Rows.fnExactReverseRewritesSpec.pre6 enc Try.prog Try.f10 Rows.fnExactReverseRewritesRow.domain false) (Rows.fnExactReverseRewritesSpec.post enc Try.prog Try.f10 false true false false) := by
  refine returnsInHanded_of_change (C := Try.checked) own started (by kernel_rfl) Try.func10
    (ChangeSpec.witness6 (enc := enc) (C := Try.checked) false ⟨#[], #[.slice none 0 0], []⟩ 8 (by kernel_rfl) (by kernel_rfl) (by kernel_rfl) (by kernel_rfl)) ?_
  intro W base args ds gs before hval0 hW hcnd _
  have hval : ∀ (j : Nat) t v, Try.f10.params[j]? = some t → args[j]? = some v → Value.okWide Try.prog W .any base t v := hval0
  have hW' := hW
  obtain ⟨p, q, hA0, hV, rfl, hfz, hnd⟩ := hW
  have hA : DataW.TrodAll enc Try.prog W 0 (fun _ => true) true Try.f10.params.toList args.toList ds p := hA0
  rw [Try.params10] at hA hval
  obtain ⟨v0, vs0, d0, ds0, p0, q0, hargs, rfl, rfl, h0, r0⟩ := trodAll_cons hA
  obtain ⟨rfl, rfl, rfl⟩ := trodAll_nil r0
  obtain rfl : args = #[v0] := by cases args; simp_all
  obtain ⟨rfl, rfl⟩ := trodVars_none hV
  have k0 := h0
  have lt0 : ∀ x ∈ p0, x.block < W.heap.size := by obtain ⟨m, hm⟩ := k0; exact DataW.trod_lt m _ _ _ hm
  obtain ⟨a0_0, len0_0, cap0_0, rfl⟩ := okWide_slice Try.underlying29 (hval 0 29 v0 rfl rfl)
  obtain ⟨z0_0, w0_0⟩ : ∃ zs, IsTapes W a0_0 len0_0 cap0_0 zs := by
    obtain ⟨fuel, hf⟩ := h0
    obtain ⟨a', len', cap', z', e', w'⟩ := open_tapes hf
    simp [Value.cells] at e'
    obtain ⟨rfl, rfl, rfl⟩ := e'
    exact ⟨z', w'⟩
  clear hA0 hval0
  refine (walk a0_0 len0_0 cap0_0 z0_0 W w0_0).mono fun e W' ⟨he, bel⟩ => ?_
  subst he
  exact ⟨_, rfl, _, _, _, [], _, [], hW', trodAll_mk1 (shut_bool Try.underlying4 _), (trodAll_cons_mk (Below.trod laidOut (by kernel_rfl) (of_decide_eq_true (by kernel_rfl)) k0 bel lt0) trodAll_mk0), rfl, bel.frame _, fun h => by cases h⟩

theorem over : Rows.fnExactReverseRewritesRow.holds Try.pinned (OpenSpec.ofChange Rows.fnExactReverseRewritesSpec) :=
  OpenClaim.holds_of_wide 10 Try.f10 rfl rfl rfl rfl rfl rfl rfl ⟨rfl, rfl, rfl, rfl, rfl⟩ rfl rfl rfl rfl rfl (by kernel_rfl) Try.func10 (by kernel_rfl)
    (of_decide_eq_true (by kernel_rfl)) (by unfold Func.isWrapper; first | (rw [if_pos (by decide +kernel)]; kernel_rfl) | (rw [if_neg (by decide +kernel)]; exact ⟨rfl, rfl⟩))
    (fun os started H enc _ => lifted os started H enc)

/-- The statement. -/
theorem proved : Rows.FnExactReverseRewritesSaid := over
#print axioms proved
end Go.Proofs.Ythombjcjhnekpaa.fnExactReverseRewrites
