/-   FnExactValidMulti: for every machine with several tapes the program's ValidMulti answers as its model, and leaves its argument alone. No condition. -/
import Derived.Test.YtmaapgjgbmefmaaRows
import Derived.WalkKit
import Derived.ProofKit
import Derived.OpenShut
import Derived.ShutString
import Derived.ChangeOld
import Derived.Below
import Derived.Lib.SmallJoins
import Derived.Deep.Strs
import Derived.OpenVars
import Derived.Handy
import Derived.Lib.Hide
import Derived.Deep.RegionHeld3
import Derived.Test.YtmaapgjgbmefmaaVmK
import Derived.Test.YtmaapgjgbmefmaaVmS
namespace Go.Proofs.Ytmaapgjgbmefmaa.fnExactValidMulti
open Go.ChangeShapes Go.WideShapes Go.ChangeAt Go.RowKit
set_option linter.unusedVariables false
set_option linter.unusedSimpArgs false

theorem own : ownKnob Try.prog.godebug = none := by kernel_rfl
theorem laidOut : laidOutB Try.prog = true := by kernel_rfl
open Ints

set_option maxHeartbeats 8000000 in
theorem walk (i0_0 : Int) (i0_1 : Int) (i0_2 : Int) (a0_0 : Option Addr) (len0_0 cap0_0 : Nat) (z0_0 : List Jin) (w : World) (j0_0 : (Lit.int .i64 i0_0).wf = true) (j0_1 : (Lit.int .i64 i0_1).wf = true) (j0_2 : (Lit.int .i64 i0_2).wf = true) (w0_0 : IsMrules w a0_0 len0_0 cap0_0 z0_0) :
    Calls Try.prog 3 #[.agg #[.int .i64 i0_0, .int .i64 i0_1, .int .i64 i0_2, .slice a0_0 len0_0 cap0_0]] w fun e w' => e = .returned (.bool true) ∧ Below w.heap.size w w' := by
  have hz0 := w0_0.le
  obtain ⟨l0, hl0⟩ : ∃ l : Int, l = 1048576 - (len0_0 : Int) := ⟨_, rfl⟩
  obtain ⟨m0, hm0⟩ : ∃ m : Int, m = szM l0 (z0_0.take len0_0) := ⟨_, rfl⟩
  obtain ⟨W0, hW0⟩ : ∃ x, x = w.alloc (Obj.cells #[.int .i64 i0_0, .int .i64 i0_1, .int .i64 i0_2, .slice a0_0 len0_0 cap0_0] 24) := ⟨_, rfl⟩
  have HB0 : Hid (Below w.heap.size w W0) := Lib.hid (by rw [hW0]; exact (Below.refl _ _).alloc (Nat.le_refl _) _)
  have K0 : Hid (Cels W0 w.heap.size 24 [.int .i64 i0_0, .int .i64 i0_1, .int .i64 i0_2, .slice a0_0 len0_0 cap0_0]) := Lib.hid (by rw [hW0]; exact Cels.new _ _ _)
  have HI : Hid (IsMrules W0 a0_0 len0_0 cap0_0 z0_0) := Lib.hid (by rw [hW0]; exact w0_0.alloc _)
  have HW0 := Lib.hid hW0.symm
  clear hW0
  have HL := Lib.hid hl0
  have HM := Lib.hid hm0
  have HZ := Lib.hid hz0
  have hlen : 0 ≤ l0 → len0_0 ≤ 1048576 := fun h => by omega
  have HLEN := Lib.hid hlen
  have HQ : Hid (l0 ≤ 1048576) := Lib.hid (by omega)
  clear hl0 hm0 hz0 hlen
  by_cases h0 : 0 ≤ l0
  rotate_left
  · have h1 : l0 < 0 := by omega
    go_enter Try.func3, Try.ntmps3
    go_wp2_with fail
    rw [HW0.out]
    refine (szMul_bad0 i0_0 i0_1 i0_2 _ _ _ _ HZ.out (by omega) HL.out h1).mono ?_
    rintro e v0 ⟨rfl, b0⟩
    have HB1 := Lib.hid (HB0.out.trans (b0.mono HB0.out.size))
    clear b0
    go_wp2
    go_ret
    exact ⟨rfl, HB1.out⟩
  by_cases h2 : 0 ≤ m0
  rotate_left
  · have h3 : m0 < 0 := by omega
    go_enter Try.func3, Try.ntmps3
    go_wp2_with fail
    rw [HW0.out]
    refine (szMul_bad1 i0_0 i0_1 i0_2 _ _ _ z0_0 _ HI.out (by omega) HL.out h0 HM.out h3).mono ?_
    rintro e v0 ⟨rfl, b0⟩
    have HB1 := Lib.hid (HB0.out.trans (b0.mono HB0.out.size))
    clear b0
    go_wp2
    go_ret
    exact ⟨rfl, HB1.out⟩
  obtain ⟨y, hy⟩ : ∃ y, y = (z0_0.take len0_0).map Jin.mr := ⟨_, rfl⟩
  have R : Hid (RdM W0 (.slice a0_0 len0_0 cap0_0) y) := Lib.hid (by rw [hy]; exact rdm_of_row HI.out (HLEN.out h0) (szM_good _ l0 (by rw [← HM.out]; exact h2) HQ.out))
  have hn : ¬ m0 < 0 := by omega
  clear hy
  go_enter Try.func3, Try.ntmps3
  go_wp2_with fail
  rw [HW0.out]
  refine (szMul i0_0 i0_1 i0_2 _ _ _ z0_0 _ HI.out (by omega) HL.out h0 HM.out h2).mono ?_
  rintro e v0 ⟨rfl, b0⟩
  have HT := Lib.hid b0
  replace K0 := Lib.hid (K0.out.below b0 K0.out.lt)
  clear b0 HL HM HI h0
  have zzK0_0 := K0.out.cell 0 rfl
  have zzK0_1 := K0.out.cell 1 rfl
  have zzK0_2 := K0.out.cell 2 rfl
  have zzK0_3 := K0.out.cell 3 rfl
  go_wp2_with fail
  refine (toMul i0_0 i0_1 i0_2 _ y _ (R.out.below HT.out (Nat.le_refl _))).mono ?_
  rintro e v1 ⟨us, rfl, rs, b1⟩
  replace K0 := Lib.hid (K0.out.below b1 K0.out.lt)
  replace HT := Lib.hid (HT.out.trans (b1.mono HT.out.size))
  clear b1
  obtain ⟨gas, gcs, hus, _⟩ := rs.val
  subst hus
  have Xs := Lib.hid rs
  clear rs
  clear zzK0_0 zzK0_1 zzK0_2 zzK0_3
  go_wp2_with fail
  refine (specValidMulti i0_0 i0_1 i0_2 _ y _ Xs.out).mono ?_
  rintro e v2 ⟨rfl, b2⟩
  replace Xs := Lib.hid (Xs.out.below b2 (Nat.le_refl _))
  replace K0 := Lib.hid (K0.out.below b2 K0.out.lt)
  replace HT := Lib.hid (HT.out.trans (b2.mono HT.out.size))
  clear b2
  clear Xs
  have zzK0_0 := K0.out.cell 0 rfl
  have zzK0_1 := K0.out.cell 1 rfl
  have zzK0_2 := K0.out.cell 2 rfl
  have zzK0_3 := K0.out.cell 3 rfl
  go_wp2_with fail
  refine (toMul i0_0 i0_1 i0_2 _ y _ (R.out.below HT.out (Nat.le_refl _))).mono ?_
  rintro e v3 ⟨ux, rfl, rx, b3⟩
  replace K0 := Lib.hid (K0.out.below b3 K0.out.lt)
  replace HT := Lib.hid (HT.out.trans (b3.mono HT.out.size))
  clear b3
  obtain ⟨gax, gcx, hux, _⟩ := rx.val
  subst hux
  have Xx := Lib.hid rx
  clear rx
  have q1 : Below v3.heap.size v3 (v3.alloc (Obj.cells #[.int .i64 i0_0, .int .i64 i0_1, .int .i64 i0_2, .slice gax y.length gcx] 29)) := (Below.refl _ _).alloc (Nat.le_refl _) _
  have Kx : Hid (Cels (v3.alloc (Obj.cells #[.int .i64 i0_0, .int .i64 i0_1, .int .i64 i0_2, .slice gax y.length gcx] 29)) v3.heap.size 29 [.int .i64 i0_0, .int .i64 i0_1, .int .i64 i0_2, .slice gax y.length gcx]) := Lib.hid (Cels.new _ _ _)
  replace Xx := Lib.hid (Xx.out.below q1 (Nat.le_refl _))
  replace K0 := Lib.hid (K0.out.below q1 K0.out.lt)
  replace HT := Lib.hid (HT.out.trans (q1.mono HT.out.size))
  clear q1
  clear zzK0_0 zzK0_1 zzK0_2 zzK0_3
  have zzKx_0 := Kx.out.cell 0 rfl
  have zzKx_1 := Kx.out.cell 1 rfl
  have zzKx_2 := Kx.out.cell 2 rfl
  have zzKx_3 := Kx.out.cell 3 rfl
  go_wp2_with fail
  refine (implValidMulti i0_0 i0_1 i0_2 _ y _ Xx.out).mono ?_
  rintro e v4 ⟨rfl, b4⟩
  replace Xx := Lib.hid (Xx.out.below b4 (Nat.le_refl _))
  replace K0 := Lib.hid (K0.out.below b4 K0.out.lt)
  replace Kx := Lib.hid (Kx.out.below b4 Kx.out.lt)
  replace HT := Lib.hid (HT.out.trans (b4.mono HT.out.size))
  clear b4
  clear zzKx_0 zzKx_1 zzKx_2 zzKx_3
  go_wp2_with fail
  have HS : Hid (∀ W', Below v4.heap.size v4 W' → W'.cell? ⟨v3.heap.size, 0, none⟩ = some (.int .i64 i0_0) ∧ W'.cell? ⟨v3.heap.size, 1, none⟩ = some (.int .i64 i0_1) ∧ W'.cell? ⟨v3.heap.size, 2, none⟩ = some (.int .i64 i0_2) ∧ W'.cell? ⟨v3.heap.size, 3, none⟩ = some (.slice gax y.length gcx) ∧ W'.cell? ⟨w.heap.size, 0, none⟩ = some (.int .i64 i0_0) ∧ W'.cell? ⟨w.heap.size, 1, none⟩ = some (.int .i64 i0_1) ∧ W'.cell? ⟨w.heap.size, 2, none⟩ = some (.int .i64 i0_2) ∧ W'.cell? ⟨w.heap.size, 3, none⟩ = some (.slice a0_0 len0_0 cap0_0)) := Lib.hid (fun W' hW' => ⟨(Kx.out.below hW' Kx.out.lt).cell 0 rfl, (Kx.out.below hW' Kx.out.lt).cell 1 rfl, (Kx.out.below hW' Kx.out.lt).cell 2 rfl, (Kx.out.below hW' Kx.out.lt).cell 3 rfl, (K0.out.below hW' K0.out.lt).cell 0 rfl, (K0.out.below hW' K0.out.lt).cell 1 rfl, (K0.out.below hW' K0.out.lt).cell 2 rfl, (K0.out.below hW' K0.out.lt).cell 3 rfl⟩)
  have HD : Hid (Below v4.heap.size v4 v4.drew) := Lib.hid (Below.refl _ _).drew
  go_region_held3 (fun w' => w'.cell? ⟨v3.heap.size, 0, none⟩ = some (.int .i64 i0_0) ∧ w'.cell? ⟨v3.heap.size, 1, none⟩ = some (.int .i64 i0_1) ∧ w'.cell? ⟨v3.heap.size, 2, none⟩ = some (.int .i64 i0_2) ∧ w'.cell? ⟨v3.heap.size, 3, none⟩ = some (.slice gax y.length gcx) ∧ w'.cell? ⟨w.heap.size, 0, none⟩ = some (.int .i64 i0_0) ∧ w'.cell? ⟨w.heap.size, 1, none⟩ = some (.int .i64 i0_1) ∧ w'.cell? ⟨w.heap.size, 2, none⟩ = some (.int .i64 i0_2) ∧ w'.cell? ⟨w.heap.size, 3, none⟩ = some (.slice a0_0 len0_0 cap0_0)) (exact HS.out _ HD.out) (first | (go_at_call 17; with_reducible refine (toMul i0_0 i0_1 i0_2 _ y _ (R.out.below (HT.out.trans (HD.out.mono HT.out.size)) (Nat.le_refl _))).mono ?_; rintro e w7 ⟨uc, rfl, rc, bq⟩; replace HD := Lib.hid (HD.out.trans (bq.mono HD.out.size)); obtain ⟨gac, gcc, huc, _⟩ := rc.val; subst huc; have Xc := Lib.hid rc; clear rc bq) | (go_at_call 19; with_reducible refine (eqMul i0_0 i0_1 i0_2 _ _ y _ (Xx.out.below HD.out (Nat.le_refl _)) Xc.out).mono ?_; rintro e w7 ⟨rfl, bq⟩; replace HD := Lib.hid (HD.out.trans (bq.mono HD.out.size)); clear bq))
  go_wp2
  go_ret
  exact ⟨rfl, HB0.out.trans ((HT.out.trans (HD.out.mono HT.out.size)).mono HB0.out.size)⟩

set_option maxRecDepth 100000 in
theorem lifted (os : Os) (started : os.Started) (H : Type) (enc : TypeId × Value → H) :
    ReturnsInHanded {} Try.checked os 3 .any (Rows.fnExactValidMultiSpec.pre6 enc Try.prog Try.f3 Rows.fnExactValidMultiRow.domain false) (Rows.fnExactValidMultiSpec.post enc Try.prog Try.f3 false true false false) := by
  refine returnsInHanded_of_change (C := Try.checked) own started (by kernel_rfl) Try.func3
    (ChangeSpec.witness6 (enc := enc) (C := Try.checked) false ⟨#[], #[.agg #[.int .i64 0, .int .i64 0, .int .i64 0, .slice none 0 0]], []⟩ 8 (by kernel_rfl) (by kernel_rfl) (by kernel_rfl) (by kernel_rfl)) ?_
  intro W base args ds gs before hval0 hW hcnd _
  have hval : ∀ (j : Nat) t v, Try.f3.params[j]? = some t → args[j]? = some v → Value.okWide Try.prog W .any base t v := hval0
  have hW' := hW
  obtain ⟨p, q, hA0, hV, rfl, hfz, hnd⟩ := hW
  have hA : DataW.TrodAll enc Try.prog W 0 (fun _ => true) true Try.f3.params.toList args.toList ds p := hA0
  rw [Try.params3] at hA hval
  obtain ⟨v0, vs0, d0, ds0, p0, q0, hargs, rfl, rfl, h0, r0⟩ := trodAll_cons hA
  obtain ⟨rfl, rfl, rfl⟩ := trodAll_nil r0
  obtain rfl : args = #[v0] := by cases args; simp_all
  obtain ⟨rfl, rfl⟩ := trodVars_none hV
  have k0 := h0
  have lt0 : ∀ x ∈ p0, x.block < W.heap.size := by obtain ⟨m, hm⟩ := k0; exact DataW.trod_lt m _ _ _ hm
  obtain ⟨c0_0, c0_1, c0_2, c0_3, y0_0, y0_1, y0_2, y0_3, n0, rfl, _, _, t0_0, t0_1, t0_2, t0_3⟩ := Go.Joins.open_agg4 Try.underlying24 (by kernel_rfl) (by kernel_rfl) (hval 0 24 v0 rfl rfl) h0
  obtain ⟨i0_0, e0_0, _, j0_0⟩ := DataW.trod_int Try.underlying2 t0_0
  simp only [List.cons.injEq, and_true] at e0_0
  subst e0_0
  obtain ⟨i0_1, e0_1, _, j0_1⟩ := DataW.trod_int Try.underlying2 t0_1
  simp only [List.cons.injEq, and_true] at e0_1
  subst e0_1
  obtain ⟨i0_2, e0_2, _, j0_2⟩ := DataW.trod_int Try.underlying2 t0_2
  simp only [List.cons.injEq, and_true] at e0_2
  subst e0_2
  obtain ⟨a0_0, len0_0, cap0_0, z0_0, e0_0, w0_0⟩ := open_mrules t0_3
  simp only [List.cons.injEq, and_true] at e0_0
  subst e0_0
  clear hA0 hval0
  refine (walk i0_0 i0_1 i0_2 a0_0 len0_0 cap0_0 z0_0 W j0_0 j0_1 j0_2 w0_0).mono fun e W' ⟨he, bel⟩ => ?_
  subst he
  exact ⟨_, rfl, _, _, _, [], _, [], hW', trodAll_mk1 (shut_bool Try.underlying4 _), (trodAll_cons_mk (Below.trod laidOut (by kernel_rfl) (of_decide_eq_true (by kernel_rfl)) k0 bel lt0) trodAll_mk0), rfl, bel.frame _, fun h => by cases h⟩

theorem over : Rows.fnExactValidMultiRow.holds Try.pinned (OpenSpec.ofChange Rows.fnExactValidMultiSpec) :=
  OpenClaim.holds_of_wide 3 Try.f3 rfl rfl rfl rfl rfl rfl rfl ⟨rfl, rfl, rfl, rfl, rfl⟩ rfl rfl rfl rfl rfl (by kernel_rfl) Try.func3 (by kernel_rfl)
    (of_decide_eq_true (by kernel_rfl)) (by unfold Func.isWrapper; first | (rw [if_pos (by decide +kernel)]; kernel_rfl) | (rw [if_neg (by decide +kernel)]; exact ⟨rfl, rfl⟩))
    (fun os started H enc _ => lifted os started H enc)

/-- The statement. -/
theorem proved : Rows.FnExactValidMultiSaid := over
#print axioms proved
end Go.Proofs.Ytmaapgjgbmefmaa.fnExactValidMulti
