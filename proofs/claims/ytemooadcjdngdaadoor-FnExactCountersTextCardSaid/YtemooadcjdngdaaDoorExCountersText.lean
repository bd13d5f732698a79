/-   FnExactCountersText: for all counters the program's CountersText answers as its model. The library's table is read as the program's text lays it (the card). -/
import Derived.Test.YtemooadcjdngdaaDoorRows
import Derived.Test.YtemooadcjdngdaaDoorCards
import Derived.Test.YtemooadcjdngdaaDoorTie
import Derived.WalkKit
import Derived.ProofKit
import Derived.OpenShut
import Derived.ShutString
import Derived.ChangeOld
import Derived.Below
import Derived.Lib.SmallJoins
import Derived.Deep.Strs
import Derived.OpenVars
import Derived.LaidMore
import Derived.Lay
import Derived.LaidOnce
import Derived.SevenTiedAt
import Derived.Stop.Joined
import Derived.Handy
import Derived.Lib.Hide
import Derived.Test.YtemooadcjdngdaaDoorCntL
import Derived.Test.YtemooadcjdngdaaDoorCtT
namespace Go.Proofs.YtemooadcjdngdaaDoor.fnExactCountersText
open Go.ChangeShapes Go.WideShapes Go.ChangeAt Go.RowKit
set_option linter.unusedVariables false
set_option linter.unusedSimpArgs false

theorem own : ownKnob Tryd.prog.godebug = none := by kernel_rfl
theorem laidOut : laidOutB Tryd.prog = true := by kernel_rfl
open Ints

set_option maxHeartbeats 4000000 in
theorem walk (i0_0 : Int) (i0_1 : Int) (i0_2 : Int) (w : World) (j0_0 : (Lit.int .i64 i0_0).wf = true) (j0_1 : (Lit.int .i64 i0_1).wf = true) (j0_2 : (Lit.int .i64 i0_2).wf = true) (htab : TabV w) :
    Calls Tryd.prog 5 #[.agg #[.int .i64 i0_0, .int .i64 i0_1, .int .i64 i0_2]] w fun e w' => e = .returned (.bool true) ∧ Below w.heap.size w w' := by
  have HFs : Hid (fit64 i0_0 ∧ fit64 i0_1 ∧ fit64 i0_2) := Lib.hid ⟨fit64_of j0_0, fit64_of j0_1, fit64_of j0_2⟩
  have HTb := Lib.hid htab
  clear j0_0 j0_1 j0_2 htab
  obtain ⟨W0, hW0⟩ : ∃ x, x = (w.alloc (Obj.cells #[.int .i64 i0_0, .int .i64 i0_1, .int .i64 i0_2] 30)) := ⟨_, rfl⟩
  have HT : Hid (Below w.heap.size w W0) := Lib.hid (by rw [hW0]; exact ((Below.refl w.heap.size w).alloc (Nat.le_refl _) _))
  have K1 : Hid (Cels W0 w.heap.size 30 [.int .i64 i0_0, .int .i64 i0_1, .int .i64 i0_2]) := Lib.hid (by rw [hW0]; exact Cels.new _ _ _)
  have HW0 := Lib.hid hW0.symm
  clear hW0
  go_enter Tryd.func5, Tryd.ntmps5
  go_wp2_with fail
  rw [HW0.out]
  have k0 := K1.out.cell 0 rfl
  have k1 := K1.out.cell 1 rfl
  have k2 := K1.out.cell 2 rfl
  go_wp2_with fail
  refine (toCnt _ _ _ _).mono ?_
  rintro e v1 ⟨rfl, b1⟩
  replace K1 := Lib.hid (K1.out.below b1 K1.out.lt)
  replace HT := Lib.hid (HT.out.trans (b1.mono HT.out.size))
  clear b1 k0 k1 k2
  go_wp2_with fail
  refine (specCtText _ _ _ _).mono ?_
  rintro e v2 ⟨rfl, b2⟩
  replace K1 := Lib.hid (K1.out.below b2 K1.out.lt)
  replace HT := Lib.hid (HT.out.trans (b2.mono HT.out.size))
  clear b2
  obtain ⟨s, hs⟩ : ∃ s, s = bs (ctV i0_0 i0_1 i0_2) := ⟨_, rfl⟩
  have HS := Lib.hid hs
  rw [← hs]
  clear hs
  have k0 := K1.out.cell 0 rfl
  have k1 := K1.out.cell 1 rfl
  have k2 := K1.out.cell 2 rfl
  go_wp2_with fail
  refine (toCnt _ _ _ _).mono ?_
  rintro e v3 ⟨rfl, b3⟩
  replace HT := Lib.hid (HT.out.trans (b3.mono HT.out.size))
  clear b3 k0 k1 k2
  go_wp2_with fail
  refine (implCtText _ _ _ HFs.out.1 HFs.out.2.1 HFs.out.2.2 _ (HTb.out.below HT.out (Nat.le_refl _))).mono ?_
  rintro e v4 ⟨rfl, b4⟩
  rw [← HS.out]
  replace HT := Lib.hid (HT.out.trans (b4.mono HT.out.size))
  clear b4
  have es : (s.toList == s.toList) = true := by simp
  go_wp2
  go_ret
  exact ⟨rfl, HT.out⟩

set_option maxRecDepth 100000 in
theorem lifted (os : Os) (started : os.Started) (H : Type) (enc : TypeId × Value → H) :
    ReturnsInHanded {} Tryd.checked os 5 .any (fun w args => (Rows.fnExactCountersTextSpec.pre enc Tryd.prog Tryd.f5 [] false w args ∧ laidMetH Tryd.prog Rows.fnExactCountersTextRow.laid w) ∧ sizedMet enc Tryd.prog Tryd.f5 (OpenSpec.ofChange Rows.fnExactCountersTextSpec) false w args) (Rows.fnExactCountersTextSpec.post enc Tryd.prog Tryd.f5 false true false false) := by
  refine returnsInHanded_of_change_and (C := Tryd.checked) (X := fun w _ => laidMetH Tryd.prog Rows.fnExactCountersTextRow.laid w) (fun _ _ _ hh h => h.of_heap hh) own started (by kernel_rfl) Tryd.func5
    (ChangeSpec.witness_shaped (enc := enc) (C := Tryd.checked) (os := os) (X := fun w _ => laidMetH Tryd.prog Rows.fnExactCountersTextRow.laid w) false (World.laidAll Tryd.prog os Rows.fnExactCountersTextRow.laid) #[.agg #[.int .i64 0, .int .i64 0, .int .i64 0]] 8 (World.laidAll_os _ _ _) (World.shaped_of_ZipB (by kernel_rfl) (by kernel_rfl)) (by kernel_rfl) (by kernel_rfl) (by kernel_rfl)
      (by rw [MakeChecks.laidMetH_plain _ _ _ (by kernel_rfl)]; exact laidMet_laidAll _ (by kernel_rfl) (by kernel_rfl))) ?_
  intro W base args ds gs before hval0 hW _ _ hL _
  have hval : ∀ (j : Nat) t v, Tryd.f5.params[j]? = some t → args[j]? = some v → Value.okWide Tryd.prog W .any base t v := hval0
  have hW' := hW
  obtain ⟨p, q, hA0, hV, rfl, hfz, hnd⟩ := hW
  have hA : DataW.TrodAll enc Tryd.prog W 0 (fun _ => true) true Tryd.f5.params.toList args.toList ds p := hA0
  rw [Tryd.params5] at hA hval
  obtain ⟨v0, vs0, d0, ds0, p0, q0, hargs, rfl, rfl, h0, r0⟩ := trodAll_cons hA
  obtain ⟨rfl, rfl, rfl⟩ := trodAll_nil r0
  obtain rfl : args = #[v0] := by cases args; simp_all
  obtain ⟨rfl, rfl⟩ := trodVars_none hV
  have k0 := h0
  have lt0 : ∀ x ∈ p0, x.block < W.heap.size := by obtain ⟨m, hm⟩ := k0; exact DataW.trod_lt m _ _ _ hm
  obtain ⟨c0_0, c0_1, c0_2, y0_0, y0_1, y0_2, n0, rfl, _, _, t0_0, t0_1, t0_2⟩ := Go.Joins.open_agg3 Tryd.underlying30 (by kernel_rfl) (by kernel_rfl) (hval 0 30 v0 rfl rfl) h0
  obtain ⟨i0_0, e0_0, _, j0_0⟩ := DataW.trod_int Tryd.underlying2 t0_0
  simp only [List.cons.injEq, and_true] at e0_0
  subst e0_0
  obtain ⟨i0_1, e0_1, _, j0_1⟩ := DataW.trod_int Tryd.underlying2 t0_1
  simp only [List.cons.injEq, and_true] at e0_1
  subst e0_1
  obtain ⟨i0_2, e0_2, _, j0_2⟩ := DataW.trod_int Tryd.underlying2 t0_2
  simp only [List.cons.injEq, and_true] at e0_2
  subst e0_2
  clear hA0 hval0
  refine (walk i0_0 i0_1 i0_2 W j0_0 j0_1 j0_2 (tabV_of_laid hL)).mono fun e W' ⟨he, bel⟩ => ?_
  subst he
  exact ⟨_, rfl, _, _, _, [], _, [], hW', trodAll_mk1 (shut_bool Tryd.underlying4 _), (trodAll_cons_mk (Below.trod laidOut (by kernel_rfl) (of_decide_eq_true (by kernel_rfl)) k0 bel lt0) trodAll_mk0), rfl, bel.frame _, fun h => by cases h⟩

theorem over : Rows.fnExactCountersTextRow.holds Tryd.pinned (OpenSpec.ofChange Rows.fnExactCountersTextSpec) :=
  OpenClaim.holds_of_wide 5 Tryd.f5 rfl rfl rfl rfl rfl rfl rfl ⟨rfl, rfl, rfl, rfl, rfl⟩ rfl rfl rfl rfl rfl (by kernel_rfl) Tryd.func5 (by kernel_rfl)
    (of_decide_eq_true (by kernel_rfl)) (by unfold Func.isWrapper; first | (rw [if_pos (by decide +kernel)]; kernel_rfl) | (rw [if_neg (by decide +kernel)]; exact ⟨rfl, rfl⟩))
    (fun os started H enc _ => lifted os started H enc)

/-- The statement: the tied card. -/
theorem proved : Rows.FnExactCountersTextCardSaid :=
  Claim7.holds_tied_plain_at .later [] [.data, .data, .data] true (true, "ce0d595b73c14568bdcff69ee1949f5e62a87137df2cfd3eac7b780da09f3d22") false over (fun _ h => by cases h) (by kernel_rfl) (fun _ h => by cases h) fnExactCountersText_row_tie rfl ⟨rfl, rfl⟩ (by kernel_rfl) rfl
    (fun f fn hf hfn => by
      obtain rfl : f = 5 := Option.some.inj ((show Tryd.prog.funcNamed "loop.example/g01079/laws.FnExactCountersText" = some 5 by kernel_rfl).symm.trans hf) |>.symm
      obtain rfl : fn = Tryd.f5 := (Option.some.inj (Tryd.func5.symm.trans hfn)).symm
      exact ⟨by kernel_rfl, fun j t ht => by
        rw [Tryd.params5] at ht
        have hm : t ∈ [30] := by simpa using Array.mem_of_getElem? ht
        have hall : ([30].all fun u => !Tryd.prog.wantsStandIn u) = true := by kernel_rfl
        exact (show Tryd.prog.wantsStandIn t = false by simpa using List.all_eq_true.1 hall t hm)⟩)
    (by kernel_rfl)
#print axioms proved
end Go.Proofs.YtemooadcjdngdaaDoor.fnExactCountersText
