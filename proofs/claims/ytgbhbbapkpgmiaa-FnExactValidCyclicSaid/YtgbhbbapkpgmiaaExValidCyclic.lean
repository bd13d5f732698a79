/-   FnExactValidCyclic: for every cyclic tag system the program's ValidCyclic answers as its model, and leaves its arguments alone. No condition. -/
import Derived.Test.YtgbhbbapkpgmiaaRows
import Derived.WalkKit
import Derived.ProofKit
import Derived.OpenShut
import Derived.ShutString
import Derived.ChangeOld
import Derived.Below
import Derived.Lib.SmallJoins
import Derived.Deep.Strs
import Derived.OpenVars
import Derived.Handy
import Derived.Lib.Hide
import Derived.Deep.RegionHeld3
import Derived.Deep.DeepCutAuto
import Derived.Test.YtgbhbbapkpgmiaaTgV
import Derived.Test.YtgbhbbapkpgmiaaTgC
namespace Go.Proofs.Ytgbhbbapkpgmiaa.fnExactValidCyclic
open Go.ChangeShapes Go.WideShapes Go.ChangeAt Go.RowKit
set_option linter.unusedVariables false
set_option linter.unusedSimpArgs false

theorem own : ownKnob Try.prog.godebug = none := by kernel_rfl
theorem laidOut : laidOutB Try.prog = true := by kernel_rfl
open Ints

set_option maxRecDepth 100000 in
set_option maxHeartbeats 8000000 in
theorem walk (a0_0 : Option Addr) (len0_0 cap0_0 : Nat) (z0_0 : List Qin) (w : World) (w0_0 : IsLists w a0_0 len0_0 cap0_0 z0_0) :
    Calls Try.prog 4 #[.agg #[.slice a0_0 len0_0 cap0_0]] w fun e w' => e = .returned (.bool true) ∧ Below w.heap.size w w' := by
  obtain ⟨W0, hW0⟩ : ∃ x, x = (w.alloc (Obj.cells #[.slice a0_0 len0_0 cap0_0] 33)) := ⟨_, rfl⟩
  have HB0 : Hid (Below w.heap.size w W0) := Lib.hid (by rw [hW0]; exact ((Below.refl w.heap.size w).alloc (Nat.le_refl _) _))
  have K0 : Hid (Cels W0 (w.heap.size) 33 [.slice a0_0 len0_0 cap0_0]) := Lib.hid (by rw [hW0]; have h := (Cels.new w 33 [.slice a0_0 len0_0 cap0_0]); first | exact h | (simp only [World.size_alloc] at h; exact h))
  have HI0 : Hid (IsLists W0 a0_0 len0_0 cap0_0 z0_0) := Lib.hid (by rw [hW0]; exact w0_0.alloc _)
  have HW0 := Lib.hid hW0.symm
  clear hW0
  obtain ⟨s0, hs0⟩ : ∃ s : Int, s = szQV 1048576 len0_0 z0_0 := ⟨_, rfl⟩
  have HS0 := Lib.hid hs0
  clear hs0
  by_cases h0 : 0 ≤ s0
  rotate_left
  · have g0 : s0 < 0 := by omega
    clear h0
    go_enter Try.func4, Try.ntmps4
    go_wp2_with fail
    rw [HW0.out]
    refine (szCyc _ _ _ z0_0 _ HI0.out (by omega) HS0.out).mono ?_
    rintro e v0 ⟨rfl, b0⟩
    rw [if_pos (show s0 < 0 by omega)]
    replace K0 := Lib.hid (K0.out.below b0 K0.out.lt)
    have HT := Lib.hid b0
    clear b0
    go_wp2
    go_ret
    exact ⟨rfl, HB0.out.trans (HT.out.mono HB0.out.size)⟩
  have g0 : ¬ s0 < 0 := by omega
  have HQ0 : Hid (0 ≤ s0 ∧ s0 ≤ 1048576) := Lib.hid (by have := szQV_le 1048576 len0_0 z0_0; rw [← HS0.out] at this; omega)
  obtain ⟨y0, hy0⟩ : ∃ y, y = (z0_0.take len0_0).map Qin.q := ⟨_, rfl⟩
  have R0 : Hid (RdL W0 (.slice a0_0 len0_0 cap0_0) y0) := Lib.hid (by rw [hy0]; exact rdl_of_sz (L := 1048576) HI0.out (by omega) (by rw [← HS0.out]; exact h0))
  clear hy0
  clear h0
  go_enter Try.func4, Try.ntmps4
  go_wp2_with fail
  rw [HW0.out]
  refine (szCyc _ _ _ z0_0 _ HI0.out (by omega) HS0.out).mono ?_
  rintro e v0 ⟨rfl, b0⟩
  rw [if_neg (show ¬ s0 < 0 by omega)]
  replace K0 := Lib.hid (K0.out.below b0 K0.out.lt)
  have HT := Lib.hid b0
  clear b0
  clear HS0 HQ0
  have zzK0_0 := K0.out.cell 0 rfl
  go_wp2_with fail
  refine (toCyc _ y0 _ (R0.out.below HT.out (Nat.le_refl _))).mono ?_
  rintro e v11 ⟨us, rfl, rs, bs⟩
  replace K0 := Lib.hid (K0.out.below bs K0.out.lt)
  replace HT := Lib.hid (HT.out.trans (bs.mono HT.out.size))
  clear bs
  obtain ⟨gas, gcs, hus⟩ := rs.shape
  subst hus
  have Xs := Lib.hid rs.rdl
  clear rs
  clear zzK0_0
  go_wp2_with fail
  refine (specValidCyc _ y0 _ Xs.out).mono ?_
  rintro e v12 ⟨rfl, bq⟩
  replace Xs := Lib.hid (Xs.out.below bq (Nat.le_refl _))
  replace K0 := Lib.hid (K0.out.below bq K0.out.lt)
  replace HT := Lib.hid (HT.out.trans (bq.mono HT.out.size))
  clear bq
  clear Xs
  have zzK0_0 := K0.out.cell 0 rfl
  go_wp2_with fail
  refine (toCyc _ y0 _ (R0.out.below HT.out (Nat.le_refl _))).mono ?_
  rintro e v13 ⟨ux0, rfl, rx0, bx0⟩
  replace K0 := Lib.hid (K0.out.below bx0 K0.out.lt)
  replace HT := Lib.hid (HT.out.trans (bx0.mono HT.out.size))
  clear bx0
  obtain ⟨gax0, gcx0, hux0⟩ := rx0.shape
  subst hux0
  have Xx0 := Lib.hid rx0.rdl
  clear rx0
  obtain ⟨V0, hV0⟩ : ∃ x, x = (v13.alloc (Obj.cells #[Value.slice gax0 y0.length gcx0] 36)) := ⟨_, rfl⟩
  have q1 : Below v13.heap.size v13 V0 := by rw [hV0]; exact (Below.refl _ _).alloc (Nat.le_refl _) _
  obtain ⟨ad0, had0⟩ : ∃ x, x = v13.heap.size := ⟨_, rfl⟩
  have KX0 : Hid (Cels V0 ad0 36 [Value.slice gax0 y0.length gcx0]) := Lib.hid (by rw [hV0, had0]; exact Cels.new _ _ _)
  replace Xx0 := Lib.hid (Xx0.out.below q1 (Nat.le_refl _))
  replace K0 := Lib.hid (K0.out.below q1 K0.out.lt)
  replace HT := Lib.hid (HT.out.trans (q1.mono HT.out.size))
  clear q1
  have HV0 := Lib.hid hV0.symm
  have HAD0 := Lib.hid had0.symm
  clear hV0 had0
  clear zzK0_0
  have zzKX0_0 := KX0.out.cell 0 rfl
  go_wp2_with fail
  try rw [HV0.out]
  try rw [HAD0.out]
  refine (implValidCyc _ y0 _ Xx0.out).mono ?_
  rintro e v19 ⟨rfl, bi⟩
  replace Xx0 := Lib.hid (Xx0.out.below bi (Nat.le_refl _))
  replace K0 := Lib.hid (K0.out.below bi K0.out.lt)
  replace KX0 := Lib.hid (KX0.out.below bi KX0.out.lt)
  replace HT := Lib.hid (HT.out.trans (bi.mono HT.out.size))
  clear bi
  clear zzKX0_0
  go_wp2_with fail
  try rw [HAD0.out]
  have HS : Hid (∀ W', Below v19.heap.size v19 W' → W'.cell? ⟨ad0, 0, none⟩ = some (.slice gax0 y0.length gcx0) ∧ W'.cell? ⟨w.heap.size, 0, none⟩ = some (.slice a0_0 len0_0 cap0_0)) := Lib.hid (fun W' hW' => ⟨(KX0.out.below hW' KX0.out.lt).cell 0 rfl, (K0.out.below hW' K0.out.lt).cell 0 rfl⟩)
  have HD : Hid (Below v19.heap.size v19 v19.drew) := Lib.hid (Below.refl _ _).drew
  go_region_held3 (fun w' => w'.cell? ⟨ad0, 0, none⟩ = some (.slice gax0 y0.length gcx0) ∧ w'.cell? ⟨w.heap.size, 0, none⟩ = some (.slice a0_0 len0_0 cap0_0)) (exact HS.out _ HD.out) (first | (go_at_call 13; with_reducible refine (toCyc _ y0 _ (R0.out.below (HT.out.trans (HD.out.mono HT.out.size)) (Nat.le_refl _))).mono ?_; rintro e w7 ⟨uc0, rfl, rc0, bq⟩; replace HD := Lib.hid (HD.out.trans (bq.mono HD.out.size)); obtain ⟨gac0, gcc0, huc0⟩ := rc0.shape; subst huc0; have Xc0 := Lib.hid rc0.rdl; clear rc0; clear bq) | (go_at_call 15; with_reducible refine (eqCyc _ _ y0 _ (Xx0.out.below HD.out (Nat.le_refl _)) Xc0.out).mono ?_; rintro e w7 ⟨rfl, bq⟩; replace HD := Lib.hid (HD.out.trans (bq.mono HD.out.size)); clear bq))
  all_goals (go_wp2; go_ret; exact ⟨rfl, HB0.out.trans ((HT.out.trans (HD.out.mono HT.out.size)).mono HB0.out.size)⟩)

set_option maxRecDepth 100000 in
theorem lifted (os : Os) (started : os.Started) (H : Type) (enc : TypeId × Value → H) :
    ReturnsInHanded {} Try.checked os 4 .any (Rows.fnExactValidCyclicSpec.pre6 enc Try.prog Try.f4 Rows.fnExactValidCyclicRow.domain false) (Rows.fnExactValidCyclicSpec.post enc Try.prog Try.f4 false true false false) := by
  refine returnsInHanded_of_change (C := Try.checked) own started (by kernel_rfl) Try.func4
    (ChangeSpec.witness6 (enc := enc) (C := Try.checked) false ⟨#[], #[.agg #[.slice none 0 0]], []⟩ 8 (by kernel_rfl) (by kernel_rfl) (by kernel_rfl) (by kernel_rfl)) ?_
  intro W base args ds gs before hval0 hW hcnd _
  have hval : ∀ (j : Nat) t v, Try.f4.params[j]? = some t → args[j]? = some v → Value.okWide Try.prog W .any base t v := hval0
  have hW' := hW
  obtain ⟨p, q, hA0, hV, rfl, hfz, hnd⟩ := hW
  have hA : DataW.TrodAll enc Try.prog W 0 (fun _ => true) true Try.f4.params.toList args.toList ds p := hA0
  rw [Try.params4] at hA hval
  obtain ⟨v0, vs0, d0, ds0, p0, q0, hargs, rfl, rfl, h0, r0⟩ := trodAll_cons hA
  obtain ⟨rfl, rfl, rfl⟩ := trodAll_nil r0
  obtain rfl : args = #[v0] := by cases args; simp_all
  obtain ⟨rfl, rfl⟩ := trodVars_none hV
  have k0 := h0
  have lt0 : ∀ x ∈ p0, x.block < W.heap.size := by obtain ⟨m, hm⟩ := k0; exact DataW.trod_lt m _ _ _ hm
  obtain ⟨c0_0, y0_0, n0, rfl, _, _, t0_0⟩ := open_one Try.underlying33 (by kernel_rfl) (by kernel_rfl) (hval 0 33 v0 rfl rfl) h0
  obtain ⟨a0_0, len0_0, cap0_0, z0_0, e0_0, w0_0⟩ := open_lists t0_0
  simp only [List.cons.injEq, and_true] at e0_0
  subst e0_0
  clear hA0 hval0
  refine (walk a0_0 len0_0 cap0_0 z0_0 W w0_0).mono fun e W' ⟨he, bel⟩ => ?_
  subst he
  exact ⟨_, rfl, _, _, _, [], _, [], hW', trodAll_mk1 (shut_bool Try.underlying4 _), (trodAll_cons_mk (Below.trod laidOut (by kernel_rfl) (of_decide_eq_true (by kernel_rfl)) k0 bel lt0) trodAll_mk0), rfl, bel.frame _, fun h => by cases h⟩

theorem over : Rows.fnExactValidCyclicRow.holds Try.pinned (OpenSpec.ofChange Rows.fnExactValidCyclicSpec) :=
  OpenClaim.holds_of_wide 4 Try.f4 rfl rfl rfl rfl rfl rfl rfl ⟨rfl, rfl, rfl, rfl, rfl⟩ rfl rfl rfl rfl rfl (by kernel_rfl) Try.func4 (by kernel_rfl)
    (of_decide_eq_true (by kernel_rfl)) (by unfold Func.isWrapper; first | (rw [if_pos (by decide +kernel)]; kernel_rfl) | (rw [if_neg (by decide +kernel)]; exact ⟨rfl, rfl⟩))
    (fun os started H enc _ => lifted os started H enc)

/-- The statement. -/
theorem proved : Rows.FnExactValidCyclicSaid := over
#print axioms proved
end Go.Proofs.Ytgbhbbapkpgmiaa.fnExactValidCyclic
