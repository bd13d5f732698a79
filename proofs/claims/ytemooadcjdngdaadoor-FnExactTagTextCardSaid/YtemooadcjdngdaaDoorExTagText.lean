/-   FnExactTagText: for every tag system the program's TagText answers as its model, and leaves its argument alone. The library's table is read as the program's text lays it (the card). -/
import Derived.Test.YtemooadcjdngdaaDoorRows
import Derived.Test.YtemooadcjdngdaaDoorCards
import Derived.Test.YtemooadcjdngdaaDoorTie
import Derived.WalkKit
import Derived.ProofKit
import Derived.OpenShut
import Derived.ShutString
import Derived.ChangeOld
import Derived.Below
import Derived.Lib.SmallJoins
import Derived.Deep.Strs
import Derived.OpenVars
import Derived.LaidMore
import Derived.Lay
import Derived.LaidOnce
import Derived.SevenTiedAt
import Derived.Stop.Joined
import Derived.Handy
import Derived.Lib.Hide
import Derived.Deep.RegionHeld3
import Derived.Deep.DeepCutAuto
import Derived.Test.YtemooadcjdngdaaDoorTgV
import Derived.Test.YtemooadcjdngdaaDoorTgC
import Derived.Test.YtemooadcjdngdaaDoorTgT
namespace Go.Proofs.YtemooadcjdngdaaDoor.fnExactTagText
open Go.ChangeShapes Go.WideShapes Go.ChangeAt Go.RowKit
set_option linter.unusedVariables false
set_option linter.unusedSimpArgs false

theorem own : ownKnob Tryd.prog.godebug = none := by kernel_rfl
theorem laidOut : laidOutB Tryd.prog = true := by kernel_rfl
open Ints

set_option maxRecDepth 100000 in
set_option maxHeartbeats 8000000 in
theorem walk (i0_0 : Int) (a0_0 : Option Addr) (len0_0 cap0_0 : Nat) (z0_0 : List Qin) (a0_1 : Option Addr) (len0_1 cap0_1 : Nat) (z0_1 : List Int) (w : World) (j0_0 : (Lit.int .i64 i0_0).wf = true) (w0_0 : IsLists w a0_0 len0_0 cap0_0 z0_0) (w0_1 : IsList w a0_1 len0_1 cap0_1 z0_1) (htab : TabV w) :
    Calls Tryd.prog 7 #[.agg #[.int .i64 i0_0, .slice a0_0 len0_0 cap0_0, .slice a0_1 len0_1 cap0_1]] w fun e w' => e = .returned (.bool true) ∧ Below w.heap.size w w' := by
  have HTab := Lib.hid htab
  clear htab
  have hz0_1 := w0_1.le
  have HZ0 := Lib.hid hz0_1
  clear hz0_1
  obtain ⟨W0, hW0⟩ : ∃ x, x = (w.alloc (Obj.cells #[.int .i64 i0_0, .slice a0_0 len0_0 cap0_0, .slice a0_1 len0_1 cap0_1] 44)) := ⟨_, rfl⟩
  have HB0 : Hid (Below w.heap.size w W0) := Lib.hid (by rw [hW0]; exact ((Below.refl w.heap.size w).alloc (Nat.le_refl _) _))
  have K0 : Hid (Cels W0 (w.heap.size) 44 [.int .i64 i0_0, .slice a0_0 len0_0 cap0_0, .slice a0_1 len0_1 cap0_1]) := Lib.hid (by rw [hW0]; have h := (Cels.new w 44 [.int .i64 i0_0, .slice a0_0 len0_0 cap0_0, .slice a0_1 len0_1 cap0_1]); first | exact h | (simp only [World.size_alloc] at h; exact h))
  have HI0 : Hid (IsLists W0 a0_0 len0_0 cap0_0 z0_0) := Lib.hid (by rw [hW0]; exact w0_0.alloc _)
  have HW0 := Lib.hid hW0.symm
  clear hW0
  obtain ⟨s0, hs0⟩ : ∃ s : Int, s = szTagV 1048576 len0_0 z0_0 len0_1 := ⟨_, rfl⟩
  have HS0 := Lib.hid hs0
  clear hs0
  by_cases h0 : 0 ≤ s0
  rotate_left
  · have g0 : s0 < 0 := by omega
    clear h0
    go_enter Tryd.func7, Tryd.ntmps7
    go_wp2_with fail
    rw [HW0.out]
    refine (szTag' i0_0 _ _ _ z0_0 _ _ _ _ HI0.out HZ0.out (by omega) HS0.out).mono ?_
    rintro e v0 ⟨rfl, b0⟩
    rw [if_pos (show s0 < 0 by omega)]
    replace K0 := Lib.hid (K0.out.below b0 K0.out.lt)
    have HT := Lib.hid b0
    clear b0
    go_wp2
    go_ret
    exact ⟨rfl, HB0.out.trans (HT.out.mono HB0.out.size)⟩
  have g0 : ¬ s0 < 0 := by omega
  have HQ0 : Hid (0 ≤ s0 ∧ s0 ≤ 1048576) := Lib.hid (by have := (szTagV_good (L := 1048576) (n := len0_0) (zs := z0_0) (m := len0_1) (by rw [← HS0.out]; exact h0) (by omega)).2.2; rw [← HS0.out] at this; omega)
  obtain ⟨y0, hy0⟩ : ∃ y, y = (z0_0.take len0_0).map Qin.q := ⟨_, rfl⟩
  have R0 : Hid (RdL W0 (.slice a0_0 len0_0 cap0_0) y0) := Lib.hid (by rw [hy0]; exact rdl_of_sz (L := 1048576) HI0.out (by omega) ((szTagV_good (L := 1048576) (by rw [← HS0.out]; exact h0) (by omega)).1))
  clear hy0
  obtain ⟨x0, hx0⟩ : ∃ y, y = z0_1.take len0_1 := ⟨_, rfl⟩
  have Q0 : Hid (Rd W0 (.slice a0_1 len0_1 cap0_1) x0) := Lib.hid (by rw [hx0]; exact (rd_of_row w0_1 (szTagV_good (L := 1048576) (by rw [← HS0.out]; exact h0) (by omega)).2.1).below HB0.out (Nat.le_refl _))
  clear hx0
  clear h0
  go_enter Tryd.func7, Tryd.ntmps7
  go_wp2_with fail
  rw [HW0.out]
  refine (szTag' i0_0 _ _ _ z0_0 _ _ _ _ HI0.out HZ0.out (by omega) HS0.out).mono ?_
  rintro e v0 ⟨rfl, b0⟩
  rw [if_neg (show ¬ s0 < 0 by omega)]
  replace K0 := Lib.hid (K0.out.below b0 K0.out.lt)
  have HT := Lib.hid b0
  clear b0
  clear HS0 HQ0
  have zzK0_0 := K0.out.cell 0 rfl
  have zzK0_1 := K0.out.cell 1 rfl
  have zzK0_2 := K0.out.cell 2 rfl
  go_wp2_with fail
  refine (toTag' i0_0 _ y0 _ x0 _ (R0.out.below HT.out (Nat.le_refl _)) (Q0.out.below HT.out (Nat.le_refl _))).mono ?_
  rintro e v11 ⟨us, ts, rfl, rs, ps, bsq⟩
  replace K0 := Lib.hid (K0.out.below bsq K0.out.lt)
  replace HT := Lib.hid (HT.out.trans (bsq.mono HT.out.size))
  clear bsq
  obtain ⟨gas, gcs, hus⟩ := rs.shape
  subst hus
  have Xs := Lib.hid rs.rdl
  clear rs
  obtain ⟨has, hcs, hts⟩ := ps.shape
  subst hts
  have Ps := Lib.hid ps.rd
  clear ps
  clear zzK0_0 zzK0_1 zzK0_2
  go_wp2_with fail
  refine (specTgText i0_0 _ y0 _ x0 _ Xs.out Ps.out).mono ?_
  rintro e v12 ⟨rfl, bq⟩
  obtain ⟨txt, htxt⟩ : ∃ x, x = bs (tgV i0_0 y0 x0) := ⟨_, rfl⟩
  have HTxt := Lib.hid htxt
  rw [← htxt]
  clear htxt
  replace Xs := Lib.hid (Xs.out.below bq (Nat.le_refl _))
  replace Ps := Lib.hid (Ps.out.below bq (Nat.le_refl _))
  replace K0 := Lib.hid (K0.out.below bq K0.out.lt)
  replace HT := Lib.hid (HT.out.trans (bq.mono HT.out.size))
  clear bq
  clear Xs
  clear Ps
  have zzK0_0 := K0.out.cell 0 rfl
  have zzK0_1 := K0.out.cell 1 rfl
  have zzK0_2 := K0.out.cell 2 rfl
  go_wp2_with fail
  refine (toTag' i0_0 _ y0 _ x0 _ (R0.out.below HT.out (Nat.le_refl _)) (Q0.out.below HT.out (Nat.le_refl _))).mono ?_
  rintro e v13 ⟨ux0, tx0, rfl, rx0, px0, bx0⟩
  replace K0 := Lib.hid (K0.out.below bx0 K0.out.lt)
  replace HT := Lib.hid (HT.out.trans (bx0.mono HT.out.size))
  clear bx0
  obtain ⟨gax0, gcx0, hux0⟩ := rx0.shape
  subst hux0
  have Xx0 := Lib.hid rx0.rdl
  clear rx0
  obtain ⟨hax0, hcx0, htx0⟩ := px0.shape
  subst htx0
  have Px0 := Lib.hid px0.rd
  clear px0
  obtain ⟨V0, hV0⟩ : ∃ x, x = (v13.alloc (Obj.cells #[Value.int .i64 i0_0, Value.slice gax0 y0.length gcx0, Value.slice hax0 x0.length hcx0] 47)) := ⟨_, rfl⟩
  have q1 : Below v13.heap.size v13 V0 := by rw [hV0]; exact (Below.refl _ _).alloc (Nat.le_refl _) _
  obtain ⟨ad0, had0⟩ : ∃ x, x = v13.heap.size := ⟨_, rfl⟩
  have KX0 : Hid (Cels V0 ad0 47 [Value.int .i64 i0_0, Value.slice gax0 y0.length gcx0, Value.slice hax0 x0.length hcx0]) := Lib.hid (by rw [hV0, had0]; exact Cels.new _ _ _)
  replace Xx0 := Lib.hid (Xx0.out.below q1 (Nat.le_refl _))
  replace Px0 := Lib.hid (Px0.out.below q1 (Nat.le_refl _))
  replace K0 := Lib.hid (K0.out.below q1 K0.out.lt)
  replace HT := Lib.hid (HT.out.trans (q1.mono HT.out.size))
  clear q1
  have HV0 := Lib.hid hV0.symm
  have HAD0 := Lib.hid had0.symm
  clear hV0 had0
  clear zzK0_0 zzK0_1 zzK0_2
  have zzKX0_0 := KX0.out.cell 0 rfl
  have zzKX0_1 := KX0.out.cell 1 rfl
  have zzKX0_2 := KX0.out.cell 2 rfl
  go_wp2_with fail
  try rw [HV0.out]
  try rw [HAD0.out]
  refine (implTgText i0_0 _ y0 _ x0 _ Xx0.out Px0.out (HTab.out.below (HB0.out.trans (HT.out.mono HB0.out.size)) (Nat.le_refl _))).mono ?_
  rintro e v19 ⟨rfl, bi⟩
  rw [← HTxt.out]
  have etxt : (txt.toList == txt.toList) = true := by simp
  replace Xx0 := Lib.hid (Xx0.out.below bi (Nat.le_refl _))
  replace Px0 := Lib.hid (Px0.out.below bi (Nat.le_refl _))
  replace K0 := Lib.hid (K0.out.below bi K0.out.lt)
  replace KX0 := Lib.hid (KX0.out.below bi KX0.out.lt)
  replace HT := Lib.hid (HT.out.trans (bi.mono HT.out.size))
  clear bi
  clear zzKX0_0 zzKX0_1 zzKX0_2
  go_wp2_with fail
  try rw [HAD0.out]
  have HS : Hid (∀ W', Below v19.heap.size v19 W' → W'.cell? ⟨ad0, 0, none⟩ = some (.int .i64 i0_0) ∧ W'.cell? ⟨ad0, 1, none⟩ = some (.slice gax0 y0.length gcx0) ∧ W'.cell? ⟨ad0, 2, none⟩ = some (.slice hax0 x0.length hcx0) ∧ W'.cell? ⟨w.heap.size, 0, none⟩ = some (.int .i64 i0_0) ∧ W'.cell? ⟨w.heap.size, 1, none⟩ = some (.slice a0_0 len0_0 cap0_0) ∧ W'.cell? ⟨w.heap.size, 2, none⟩ = some (.slice a0_1 len0_1 cap0_1)) := Lib.hid (fun W' hW' => ⟨(KX0.out.below hW' KX0.out.lt).cell 0 rfl, (KX0.out.below hW' KX0.out.lt).cell 1 rfl, (KX0.out.below hW' KX0.out.lt).cell 2 rfl, (K0.out.below hW' K0.out.lt).cell 0 rfl, (K0.out.below hW' K0.out.lt).cell 1 rfl, (K0.out.below hW' K0.out.lt).cell 2 rfl⟩)
  have HD : Hid (Below v19.heap.size v19 v19.drew) := Lib.hid (Below.refl _ _).drew
  go_region_held3 (fun w' => w'.cell? ⟨ad0, 0, none⟩ = some (.int .i64 i0_0) ∧ w'.cell? ⟨ad0, 1, none⟩ = some (.slice gax0 y0.length gcx0) ∧ w'.cell? ⟨ad0, 2, none⟩ = some (.slice hax0 x0.length hcx0) ∧ w'.cell? ⟨w.heap.size, 0, none⟩ = some (.int .i64 i0_0) ∧ w'.cell? ⟨w.heap.size, 1, none⟩ = some (.slice a0_0 len0_0 cap0_0) ∧ w'.cell? ⟨w.heap.size, 2, none⟩ = some (.slice a0_1 len0_1 cap0_1)) (exact HS.out _ HD.out) (first | (go_at_call 26; with_reducible refine (toTag' i0_0 _ y0 _ x0 _ (R0.out.below (HT.out.trans (HD.out.mono HT.out.size)) (Nat.le_refl _)) (Q0.out.below (HT.out.trans (HD.out.mono HT.out.size)) (Nat.le_refl _))).mono ?_; rintro e w7 ⟨uc0, tc0, rfl, rc0, pc0, bq⟩; replace HD := Lib.hid (HD.out.trans (bq.mono HD.out.size)); obtain ⟨gac0, gcc0, huc0⟩ := rc0.shape; subst huc0; have Xc0 := Lib.hid rc0.rdl; clear rc0; obtain ⟨hac0, hcc0, htc0⟩ := pc0.shape; subst htc0; have Pc0 := Lib.hid pc0.rd; clear pc0; clear bq) | (go_at_call 28; with_reducible refine (eqTag' i0_0 _ _ y0 _ _ x0 _ (Xx0.out.below HD.out (Nat.le_refl _)) Xc0.out (Px0.out.below HD.out (Nat.le_refl _)) Pc0.out).mono ?_; rintro e w7 ⟨rfl, bq⟩; replace HD := Lib.hid (HD.out.trans (bq.mono HD.out.size)); clear bq))
  all_goals (go_wp2; go_ret; exact ⟨rfl, HB0.out.trans ((HT.out.trans (HD.out.mono HT.out.size)).mono HB0.out.size)⟩)

set_option maxRecDepth 100000 in
theorem lifted (os : Os) (started : os.Started) (H : Type) (enc : TypeId × Value → H) :
    ReturnsInHanded {} Tryd.checked os 7 .any (fun w args => (Rows.fnExactTagTextSpec.pre enc Tryd.prog Tryd.f7 [] false w args ∧ laidMetH Tryd.prog Rows.fnExactTagTextRow.laid w) ∧ sizedMet enc Tryd.prog Tryd.f7 (OpenSpec.ofChange Rows.fnExactTagTextSpec) false w args) (Rows.fnExactTagTextSpec.post enc Tryd.prog Tryd.f7 false true false false) := by
  refine returnsInHanded_of_change_and (C := Tryd.checked) (X := fun w _ => laidMetH Tryd.prog Rows.fnExactTagTextRow.laid w) (fun _ _ _ hh h => h.of_heap hh) own started (by kernel_rfl) Tryd.func7
    (ChangeSpec.witness_shaped (enc := enc) (C := Tryd.checked) (os := os) (X := fun w _ => laidMetH Tryd.prog Rows.fnExactTagTextRow.laid w) false (World.laidAll Tryd.prog os Rows.fnExactTagTextRow.laid) #[.agg #[.int .i64 0, .slice none 0 0, .slice none 0 0]] 8 (World.laidAll_os _ _ _) (World.shaped_of_ZipB (by kernel_rfl) (by kernel_rfl)) (by kernel_rfl) (by kernel_rfl) (by kernel_rfl)
      (by rw [MakeChecks.laidMetH_plain _ _ _ (by kernel_rfl)]; exact laidMet_laidAll _ (by kernel_rfl) (by kernel_rfl))) ?_
  intro W base args ds gs before hval0 hW _ _ hL _
  have hval : ∀ (j : Nat) t v, Tryd.f7.params[j]? = some t → args[j]? = some v → Value.okWide Tryd.prog W .any base t v := hval0
  have hW' := hW
  obtain ⟨p, q, hA0, hV, rfl, hfz, hnd⟩ := hW
  have hA : DataW.TrodAll enc Tryd.prog W 0 (fun _ => true) true Tryd.f7.params.toList args.toList ds p := hA0
  rw [Tryd.params7] at hA hval
  obtain ⟨v0, vs0, d0, ds0, p0, q0, hargs, rfl, rfl, h0, r0⟩ := trodAll_cons hA
  obtain ⟨rfl, rfl, rfl⟩ := trodAll_nil r0
  obtain rfl : args = #[v0] := by cases args; simp_all
  obtain ⟨rfl, rfl⟩ := trodVars_none hV
  have k0 := h0
  have lt0 : ∀ x ∈ p0, x.block < W.heap.size := by obtain ⟨m, hm⟩ := k0; exact DataW.trod_lt m _ _ _ hm
  obtain ⟨c0_0, c0_1, c0_2, y0_0, y0_1, y0_2, n0, rfl, _, _, t0_0, t0_1, t0_2⟩ := Go.Joins.open_agg3 Tryd.underlying44 (by kernel_rfl) (by kernel_rfl) (hval 0 44 v0 rfl rfl) h0
  obtain ⟨i0_0, e0_0, _, j0_0⟩ := DataW.trod_int Tryd.underlying2 t0_0
  simp only [List.cons.injEq, and_true] at e0_0
  subst e0_0
  obtain ⟨a0_0, len0_0, cap0_0, z0_0, e0_0, w0_0⟩ := open_lists t0_1
  simp only [List.cons.injEq, and_true] at e0_0
  subst e0_0
  obtain ⟨a0_1, len0_1, cap0_1, z0_1, e0_1, w0_1⟩ := open_list t0_2
  simp only [List.cons.injEq, and_true] at e0_1
  subst e0_1
  clear hA0 hval0
  refine (walk i0_0 a0_0 len0_0 cap0_0 z0_0 a0_1 len0_1 cap0_1 z0_1 W j0_0 w0_0 w0_1 (tabV_of_laid hL)).mono fun e W' ⟨he, bel⟩ => ?_
  subst he
  exact ⟨_, rfl, _, _, _, [], _, [], hW', trodAll_mk1 (shut_bool Tryd.underlying4 _), (trodAll_cons_mk (Below.trod laidOut (by kernel_rfl) (of_decide_eq_true (by kernel_rfl)) k0 bel lt0) trodAll_mk0), rfl, bel.frame _, fun h => by cases h⟩

theorem over : Rows.fnExactTagTextRow.holds Tryd.pinned (OpenSpec.ofChange Rows.fnExactTagTextSpec) :=
  OpenClaim.holds_of_wide 7 Tryd.f7 rfl rfl rfl rfl rfl rfl rfl ⟨rfl, rfl, rfl, rfl, rfl⟩ rfl rfl rfl rfl rfl (by kernel_rfl) Tryd.func7 (by kernel_rfl)
    (of_decide_eq_true (by kernel_rfl)) (by unfold Func.isWrapper; first | (rw [if_pos (by decide +kernel)]; kernel_rfl) | (rw [if_neg (by decide +kernel)]; exact ⟨rfl, rfl⟩))
    (fun os started H enc _ => lifted os started H enc)

/-- The statement: the tied card. -/
theorem proved : Rows.FnExactTagTextCardSaid :=
  Claim7.holds_tied_plain_at .later [] [.data, .data, .data] true (true, "ce0d595b73c14568bdcff69ee1949f5e62a87137df2cfd3eac7b780da09f3d22") false over (fun _ h => by cases h) (by kernel_rfl) (fun _ h => by cases h) fnExactTagText_row_tie rfl ⟨rfl, rfl⟩ (by kernel_rfl) rfl
    (fun f fn hf hfn => by
      obtain rfl : f = 7 := Option.some.inj ((show Tryd.prog.funcNamed "loop.example/g01079/laws.FnExactTagText" = some 7 by kernel_rfl).symm.trans hf) |>.symm
      obtain rfl : fn = Tryd.f7 := (Option.some.inj (Tryd.func7.symm.trans hfn)).symm
      exact ⟨by kernel_rfl, fun j t ht => by
        rw [Tryd.params7] at ht
        have hm : t ∈ [44] := by simpa using Array.mem_of_getElem? ht
        have hall : ([44].all fun u => !Tryd.prog.wantsStandIn u) = true := by kernel_rfl
        exact (show Tryd.prog.wantsStandIn t = false by simpa using List.all_eq_true.1 hall t hm)⟩)
    (by kernel_rfl)
#print axioms proved
end Go.Proofs.YtemooadcjdngdaaDoor.fnExactTagText
