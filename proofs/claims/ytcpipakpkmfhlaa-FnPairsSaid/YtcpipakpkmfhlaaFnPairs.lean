/-   FnPairs: for all bytes, the natural that they choose is the number of its pair, and the small naturals that they choose come back from the numbers of their tuple and of their sequence, or these numbers are too great for the program and for its model alike. No condition. -/
import Derived.Test.YtcpipakpkmfhlaaRows
import Derived.WalkKit
import Derived.ProofKit
import Derived.OpenShut
import Derived.ShutString
import Derived.ChangeOld
import Derived.Below
import Derived.Lib.SmallJoins
import Derived.Deep.Strs
import Derived.OpenVars
import Derived.ChangeMaps5
import Derived.Handy
import Derived.Lib.Hide
import Derived.Test.YtcpipakpkmfhlaaFnP
namespace Go.Proofs.Ytcpipakpkmfhlaa.fnPairs
open Go.ChangeShapes Go.WideShapes Go.ChangeAt Go.RowKit
set_option linter.unusedVariables false
set_option linter.unusedSimpArgs false

theorem own : ownKnob Try.prog.godebug = none := by kernel_rfl
theorem laidOut : laidOutB Try.prog = true := by kernel_rfl
open Ints

set_option maxRecDepth 100000 in
set_option maxHeartbeats 16000000 in
theorem walk (a0_0 : Option Addr) (len0_0 cap0_0 : Nat) (z0_0 : List Int) (w : World) (w0_0 : IsBts w a0_0 len0_0 cap0_0 z0_0) :
    Calls Try.prog 3 #[.slice a0_0 len0_0 cap0_0] w fun e w' => e = .returned (.bool true) ∧ Below w.heap.size w w' := by
  by_cases hb : 1048576 < len0_0
  · have hc : (1048576 : Int) < (len0_0 : Int) := by omega
    go_enter Try.func3, Try.ntmps3
    go_wp2_with (go_at_call 4; go_in)
    go_ret
    exact ⟨rfl, Below.refl _ _⟩
  have hc : ¬ (1048576 : Int) < (len0_0 : Int) := by omega
  have R0 := Lib.hid (rdb_of_row w0_0 (by omega))
  clear w0_0 hb
  go_enter Try.func3, Try.ntmps3
  go_wp2_with (go_at_call 4; go_in)
  refine (b10Nat _ len0_0 _ R0.out).mono ?_
  rintro e v0 ⟨u1, u2, xs, ys, rfl, hx, hy, r1, r2, b0⟩
  have HT := Lib.hid b0
  have HX := Lib.hid r1
  obtain ⟨_, _, ax, cx, rfl, _, _⟩ := r1
  clear r2 hy b0
  obtain ⟨a, b, a1, a2, a3, a4, a5⟩ := pr_spec hx
  have A1 := Lib.hid a1
  have A2 := Lib.hid a2
  have A3 := Lib.hid a3
  have A4 := Lib.hid a4
  have A5 := Lib.hid a5
  clear a1 a2 a3 a4 a5 hx
  go_wp2_with fail
  refine (implUnpairOf _ xs _ HX.out).mono ?_
  rintro e v1 ⟨r3, r4, rfl, o3, o4, sp, b1⟩
  replace HX := Lib.hid (HX.out.below b1 (Nat.le_refl _))
  replace HT := Lib.hid (HT.out.trans (b1.mono HT.out.size))
  clear b1
  clear sp
  rw [A3.out]
  rw [A1.out] at o3
  obtain ⟨aPA, cPA, huPA⟩ := o3.shape
  subst huPA
  have PA := Lib.hid o3.rd
  clear o3
  rw [A2.out] at o4
  obtain ⟨aPB, cPB, huPB⟩ := o4.shape
  subst huPB
  have PB := Lib.hid o4.rd
  clear o4
  go_wp2_with fail
  refine (implPairOf _ a _ b _ PA.out PB.out).mono ?_
  rintro e v2 ⟨r5, rfl, o5, b2⟩
  replace HX := Lib.hid (HX.out.below b2 (Nat.le_refl _))
  replace PA := Lib.hid (PA.out.below b2 (Nat.le_refl _))
  replace PB := Lib.hid (PB.out.below b2 (Nat.le_refl _))
  replace HT := Lib.hid (HT.out.trans (b2.mono HT.out.size))
  clear b2
  rw [A5.out]
  rw [A4.out] at o5
  obtain ⟨aPC, cPC, huPC⟩ := o5.shape
  subst huPC
  have PC := Lib.hid o5.rd
  clear o5
  go_wp2_with fail
  refine (b10Nums _ _ xs _ PC.out HX.out).mono ?_
  rintro e v3 ⟨rfl, b3⟩
  replace HX := Lib.hid (HX.out.below b3 (Nat.le_refl _))
  replace PA := Lib.hid (PA.out.below b3 (Nat.le_refl _))
  replace PB := Lib.hid (PB.out.below b3 (Nat.le_refl _))
  replace PC := Lib.hid (PC.out.below b3 (Nat.le_refl _))
  replace HT := Lib.hid (HT.out.trans (b3.mono HT.out.size))
  clear b3
  go_wp2_with fail
  have HRB := Lib.hid (show RdB v3 v3.heap.size (.slice a0_0 len0_0 cap0_0) len0_0 by obtain ⟨h1, h2, a, c, h3, h4, h5⟩ := R0.out.below HT.out (Nat.le_refl _); exact ⟨h1, Nat.le_refl _, a, c, h3, h4, fun h0 => by obtain ⟨b, o, e, hlt, hc⟩ := h5 h0; exact ⟨b, o, e, Nat.lt_of_lt_of_le hlt h2, hc⟩⟩)
  refine (b10Smalls _ len0_0 _ HRB.out).mono ?_
  rintro e v9 ⟨u9, ss, rfl, ha, h1, h5, rl, b9⟩
  replace HT := Lib.hid (HT.out.trans (b9.mono HT.out.size))
  have SS := Lib.hid rl
  obtain ⟨_, aSS, cSS, rfl, _, _⟩ := rl
  clear b9 HX PA PB PC HRB
  have htn := tn_spec ha h1 h5
  have hsq := sq_spec ha h5
  clear ha h1 h5
  rcases htn with t5 | ⟨t, t1, t2, t3, t4⟩
  · have T5 := Lib.hid t5
    clear t5 hsq
    go_wp2_with fail
    refine (implTup _ ss _ SS.out).mono ?_
    rintro e v4 ⟨r6, rfl, o6, b4⟩
    replace SS := Lib.hid (SS.out.below b4 (Nat.le_refl _))
    replace HT := Lib.hid (HT.out.trans (b4.mono HT.out.size))
    clear b4
    rw [T5.out]
    clear o6
    go_wp2_with fail
    refine (specTup _ ss _ SS.out).mono ?_
    rintro e v5 ⟨r7, rfl, o7, b5⟩
    replace SS := Lib.hid (SS.out.below b5 (Nat.le_refl _))
    replace HT := Lib.hid (HT.out.trans (b5.mono HT.out.size))
    clear b5
    rw [T5.out]
    clear o7
    go_wp2
    go_ret
    exact ⟨by first | rfl | simp, HT.out⟩
  have T1 := Lib.hid t1
  have T2 := Lib.hid t2
  have T3 := Lib.hid t3
  have T4 := Lib.hid t4
  clear t1 t2 t3 t4
  go_wp2_with fail
  refine (implTup _ ss _ SS.out).mono ?_
  rintro e v6 ⟨r6, rfl, o6, b6⟩
  replace SS := Lib.hid (SS.out.below b6 (Nat.le_refl _))
  replace HT := Lib.hid (HT.out.trans (b6.mono HT.out.size))
  clear b6
  rw [T2.out]
  rw [T1.out] at o6
  obtain ⟨aTT, cTT, huTT⟩ := o6.shape
  subst huTT
  have TT := Lib.hid o6.rd
  clear o6
  go_wp2_with fail
  refine (implTupleOf _ t (ss.length : Int) _ TT.out).mono ?_
  rintro e v7 ⟨r7, rfl, o7, b7⟩
  replace SS := Lib.hid (SS.out.below b7 (Nat.le_refl _))
  replace TT := Lib.hid (TT.out.below b7 (Nat.le_refl _))
  replace HT := Lib.hid (HT.out.trans (b7.mono HT.out.size))
  clear b7
  rw [T4.out]
  rw [T3.out] at o7
  obtain ⟨aTX, cTX, huTX⟩ := o7.shape
  subst huTX
  have TX := Lib.hid o7.rdl
  clear o7
  rcases hsq with s5 | ⟨z, s1, s2, s3, s4⟩
  · have S5 := Lib.hid s5
    clear s5
    go_wp2_with fail
    refine (implSeq _ ss _ SS.out).mono ?_
    rintro e v8 ⟨r8, rfl, o8, b8⟩
    replace SS := Lib.hid (SS.out.below b8 (Nat.le_refl _))
    replace TT := Lib.hid (TT.out.below b8 (Nat.le_refl _))
    replace TX := Lib.hid (TX.out.below b8 (Nat.le_refl _))
    replace HT := Lib.hid (HT.out.trans (b8.mono HT.out.size))
    clear b8
    rw [S5.out]
    clear o8
    go_wp2_with fail
    refine (specSeq _ ss _ SS.out).mono ?_
    rintro e v9 ⟨r9, rfl, o9, b9⟩
    replace SS := Lib.hid (SS.out.below b9 (Nat.le_refl _))
    replace TT := Lib.hid (TT.out.below b9 (Nat.le_refl _))
    replace TX := Lib.hid (TX.out.below b9 (Nat.le_refl _))
    replace HT := Lib.hid (HT.out.trans (b9.mono HT.out.size))
    clear b9
    rw [S5.out]
    clear o9
    go_wp2
    go_ret
    exact ⟨by first | rfl | simp, HT.out⟩
  have S1 := Lib.hid s1
  have S2 := Lib.hid s2
  have S3 := Lib.hid s3
  have S4 := Lib.hid s4
  clear s1 s2 s3 s4
  go_wp2_with fail
  refine (implSeq _ ss _ SS.out).mono ?_
  rintro e v10 ⟨r8, rfl, o8, b10⟩
  replace SS := Lib.hid (SS.out.below b10 (Nat.le_refl _))
  replace TT := Lib.hid (TT.out.below b10 (Nat.le_refl _))
  replace TX := Lib.hid (TX.out.below b10 (Nat.le_refl _))
  replace HT := Lib.hid (HT.out.trans (b10.mono HT.out.size))
  clear b10
  rw [S2.out]
  rw [S1.out] at o8
  obtain ⟨aSZ, cSZ, huSZ⟩ := o8.shape
  subst huSZ
  have SZ := Lib.hid o8.rd
  clear o8
  go_wp2_with fail
  refine (implSequenceOf _ z _ SZ.out).mono ?_
  rintro e v11 ⟨r9, rfl, o9, b11⟩
  replace SS := Lib.hid (SS.out.below b11 (Nat.le_refl _))
  replace TT := Lib.hid (TT.out.below b11 (Nat.le_refl _))
  replace TX := Lib.hid (TX.out.below b11 (Nat.le_refl _))
  replace SZ := Lib.hid (SZ.out.below b11 (Nat.le_refl _))
  replace HT := Lib.hid (HT.out.trans (b11.mono HT.out.size))
  clear b11
  rw [S4.out]
  rw [S3.out] at o9
  obtain ⟨aSY, cSY, huSY⟩ := o9.shape
  subst huSY
  have SY := Lib.hid o9.rdl
  clear o9
  go_wp2_with fail
  refine (b10Rows _ _ ss _ TX.out SS.out).mono ?_
  rintro e v12 ⟨rfl, b12⟩
  replace SS := Lib.hid (SS.out.below b12 (Nat.le_refl _))
  replace TT := Lib.hid (TT.out.below b12 (Nat.le_refl _))
  replace TX := Lib.hid (TX.out.below b12 (Nat.le_refl _))
  replace SZ := Lib.hid (SZ.out.below b12 (Nat.le_refl _))
  replace SY := Lib.hid (SY.out.below b12 (Nat.le_refl _))
  replace HT := Lib.hid (HT.out.trans (b12.mono HT.out.size))
  clear b12
  go_wp2_with fail
  refine (b10Rows _ _ ss _ SY.out SS.out).mono ?_
  rintro e v13 ⟨rfl, b13⟩
  replace SS := Lib.hid (SS.out.below b13 (Nat.le_refl _))
  replace TT := Lib.hid (TT.out.below b13 (Nat.le_refl _))
  replace TX := Lib.hid (TX.out.below b13 (Nat.le_refl _))
  replace SZ := Lib.hid (SZ.out.below b13 (Nat.le_refl _))
  replace SY := Lib.hid (SY.out.below b13 (Nat.le_refl _))
  replace HT := Lib.hid (HT.out.trans (b13.mono HT.out.size))
  clear b13
  go_wp2
  go_ret
  exact ⟨by first | rfl | simp, HT.out⟩

set_option maxRecDepth 100000 in
theorem lifted (os : Os) (started : os.Started) (H : Type) (enc : TypeId × Value → H) :
    ReturnsInHanded {} Try.checked os 3 .any (Rows.fnPairsSpec.pre6 enc Try.prog Try.f3 Rows.fnPairsRow.domain false) (Rows.fnPairsSpec.post enc Try.prog Try.f3 false true false false) := by
  refine returnsInHanded_of_change (C := Try.checked) own started (by kernel_rfl) Try.func3
    (ChangeSpec.witness6 (enc := enc) (C := Try.checked) false ⟨#[], #[.slice none 0 0], []⟩ 8 (by kernel_rfl) (by kernel_rfl) (by kernel_rfl) (by kernel_rfl)) ?_
  intro W base args ds gs before hval0 hW hcnd _
  have hval : ∀ (j : Nat) t v, Try.f3.params[j]? = some t → args[j]? = some v → Value.okWide Try.prog W .any base t v := hval0
  have hW' := hW
  obtain ⟨p, q, hA0, hV, rfl, hfz, hnd⟩ := hW
  have hA : DataW.TrodAll enc Try.prog W 0 (fun _ => true) true Try.f3.params.toList args.toList ds p := hA0
  rw [Try.params3] at hA hval
  obtain ⟨v0, vs0, d0, ds0, p0, q0, hargs, rfl, rfl, h0, r0⟩ := trodAll_cons hA
  obtain ⟨rfl, rfl, rfl⟩ := trodAll_nil r0
  obtain rfl : args = #[v0] := by cases args; simp_all
  obtain ⟨rfl, rfl⟩ := trodVars_none hV
  have k0 := h0
  have lt0 : ∀ x ∈ p0, x.block < W.heap.size := by obtain ⟨m, hm⟩ := k0; exact DataW.trod_lt m _ _ _ hm
  obtain ⟨a0_0, len0_0, cap0_0, rfl⟩ := okWide_slice Try.underlying22 (hval 0 22 v0 rfl rfl)
  obtain ⟨z0_0, w0_0⟩ : ∃ zs, IsBts W a0_0 len0_0 cap0_0 zs := by
    obtain ⟨fuel, hf⟩ := h0
    obtain ⟨a', len', cap', z', e', w'⟩ := open_bts hf
    simp [Value.cells] at e'
    obtain ⟨rfl, rfl, rfl⟩ := e'
    exact ⟨z', w'⟩
  clear hA0 hval0
  refine (walk a0_0 len0_0 cap0_0 z0_0 W w0_0).mono fun e W' ⟨he, bel⟩ => ?_
  subst he
  exact ⟨_, rfl, _, _, _, [], _, [], hW', trodAll_mk1 (shut_bool Try.underlying4 _), (trodAll_cons_mk (Below.trod laidOut (by kernel_rfl) (of_decide_eq_true (by kernel_rfl)) k0 bel lt0) trodAll_mk0), rfl, bel.frame _, fun h => by cases h⟩

theorem over : Rows.fnPairsRow.holds Try.pinned (OpenSpec.ofChange Rows.fnPairsSpec) :=
  OpenClaim.holds_of_wide 3 Try.f3 rfl rfl rfl rfl rfl rfl rfl ⟨rfl, rfl, rfl, rfl, rfl⟩ rfl rfl rfl rfl rfl (by kernel_rfl) Try.func3 (by kernel_rfl)
    (of_decide_eq_true (by kernel_rfl)) (by unfold Func.isWrapper; first | (rw [if_pos (by decide +kernel)]; kernel_rfl) | (rw [if_neg (by decide +kernel)]; exact ⟨rfl, rfl⟩))
    (fun os started H enc _ => lifted os started H enc)

/-- The statement. -/
theorem proved : Rows.FnPairsSaid := over
#print axioms proved
end Go.Proofs.Ytcpipakpkmfhlaa.fnPairs
