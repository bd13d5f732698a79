/-   FnExactRunCounters: for every list of instructions and all counters and every budget the program's RunCounters answers as its model, counters and code, and leaves its argument alone; the library's variable errors.errorType is read as start-up lays it (tied). No condition. -/
import Derived.Test.YtgbhbbapkpgmiaaDoorRows
import Derived.Test.YtgbhbbapkpgmiaaDoorCards
import Derived.Test.YtgbhbbapkpgmiaaDoorTie
import Derived.WalkKit
import Derived.ProofKit
import Derived.OpenShut
import Derived.ShutString
import Derived.ChangeOld
import Derived.Below
import Derived.Lib.SmallJoins
import Derived.Deep.Strs
import Derived.OpenVars
import Derived.LaidMore
import Derived.Lay
import Derived.LaidOnce
import Derived.SevenTiedAt
import Derived.Stop.Joined
import Derived.LaidLaws
import Derived.LaidHandle
import Derived.ChangeSame
import Derived.ChangeVars
import Derived.JoinedOf
import Derived.RowKit
import Derived.RowKitTokens
import Derived.Handy
import Derived.Lib.Hide
import Derived.Deep.RegionHeld3
import Derived.Deep.DeepCutAuto
import Derived.Test.YtgbhbbapkpgmiaaDoorCelD
import Derived.Test.YtgbhbbapkpgmiaaDoorCntL
import Derived.Test.YtgbhbbapkpgmiaaDoorRuI
import Derived.Test.YtgbhbbapkpgmiaaDoorRuT
namespace Go.Proofs.YtgbhbbapkpgmiaaDoor.fnExactRunCounters
open Go.ChangeShapes Go.WideShapes Go.ChangeAt Go.RowKit
set_option linter.unusedVariables false
set_option linter.unusedSimpArgs false

theorem own : ownKnob Tryd.prog.godebug = none := by kernel_rfl
theorem laidOut : laidOutB Tryd.prog = true := by kernel_rfl
open Ints

set_option maxHeartbeats 8000000 in
set_option maxRecDepth 100000 in
theorem walk (a0_0 : Option Addr) (len0_0 cap0_0 : Nat) (z0_0 : List Ins) (i1_0 : Int) (i1_1 : Int) (i1_2 : Int) (a2 : Int) (w : World) (w0_0 : IsIns w a0_0 len0_0 cap0_0 z0_0) (j1_0 : (Lit.int .i64 i1_0).wf = true) (j1_1 : (Lit.int .i64 i1_1).wf = true) (j1_2 : (Lit.int .i64 i1_2).wf = true) (w2 : (Lit.int .i64 a2).wf = true) (hev : EtV w) :
    Calls Tryd.prog 3 #[.slice a0_0 len0_0 cap0_0, .agg #[.int .i64 i1_0, .int .i64 i1_1, .int .i64 i1_2], .int .i64 a2] w fun e w' => e = .returned (.bool true) ∧ Below w.heap.size w w' := by
  have hz0_0 := w0_0.le
  have hf1 := fit64_of j1_1
  have hf2 := fit64_of j1_2
  have HF1 := Lib.hid hf1
  have HF2 := Lib.hid hf2
  clear hf1 hf2 j1_0 j1_1 j1_2 w2
  obtain ⟨l0_0, hl0_0⟩ : ∃ l : Int, l = 1048576 - (len0_0 : Int) := ⟨_, rfl⟩
  obtain ⟨W0, hW0⟩ : ∃ x, x = (w.alloc (Obj.cells #[.int .i64 i1_0, .int .i64 i1_1, .int .i64 i1_2] 24)) := ⟨_, rfl⟩
  have HB0 : Hid (Below w.heap.size w W0) := Lib.hid (by rw [hW0]; exact ((Below.refl w.heap.size w).alloc (Nat.le_refl _) _))
  have K1 : Hid (Cels W0 w.heap.size 24 [.int .i64 i1_0, .int .i64 i1_1, .int .i64 i1_2]) := Lib.hid (by rw [hW0]; exact Cels.new _ _ _)
  have HW0 := Lib.hid hW0.symm
  have HL0_0 := Lib.hid hl0_0
  clear hW0 hl0_0
  by_cases hn0_0 : 0 ≤ l0_0
  rotate_left
  · have hm0_0 : l0_0 < 0 := by omega
    go_enter Tryd.func3, Tryd.ntmps3
    go_wp2_with fail
    rw [HW0.out]
    refine (szIns_bad0 _ _ _ _ (by have := HL0_0.out; omega) HL0_0.out hm0_0 hz0_0).mono ?_
    rintro e vz0 ⟨rfl, bz⟩
    have HT := Lib.hid (HB0.out.trans (bz.mono HB0.out.size))
    clear bz
    go_wp2
    go_ret
    exact ⟨rfl, HT.out⟩
  have hm0_0 : ¬ l0_0 < 0 := by omega
  obtain ⟨y0_0, hy0_0⟩ : ∃ y, y = z0_0.take len0_0 := ⟨_, rfl⟩
  have R0_0 : Hid (RdIns w (.slice a0_0 len0_0 cap0_0) y0_0) := Lib.hid (by rw [hy0_0]; exact rdIns_of_row w0_0 (by have := HL0_0.out; omega))
  have HN := Lib.hid hev
  clear hy0_0 w0_0 hev
  obtain ⟨x1, hx1⟩ : ∃ x, x = (rcR y0_0 i1_0 i1_1 i1_2 a2).at' := ⟨_, rfl⟩
  obtain ⟨x2, hx2⟩ : ∃ x, x = (rcR y0_0 i1_0 i1_1 i1_2 a2).a := ⟨_, rfl⟩
  obtain ⟨x3, hx3⟩ : ∃ x, x = (rcR y0_0 i1_0 i1_1 i1_2 a2).b := ⟨_, rfl⟩
  obtain ⟨x4, hx4⟩ : ∃ x, x = (rcR y0_0 i1_0 i1_1 i1_2 a2).n := ⟨_, rfl⟩
  obtain ⟨x5, hx5⟩ : ∃ x, x = (rcR y0_0 i1_0 i1_1 i1_2 a2).h := ⟨_, rfl⟩
  obtain ⟨x6, hx6⟩ : ∃ x, x = (rcR y0_0 i1_0 i1_1 i1_2 a2).code := ⟨_, rfl⟩
  have HX : Hid ((rcR y0_0 i1_0 i1_1 i1_2 a2).at' = x1 ∧ (rcR y0_0 i1_0 i1_1 i1_2 a2).a = x2 ∧ (rcR y0_0 i1_0 i1_1 i1_2 a2).b = x3 ∧ (rcR y0_0 i1_0 i1_1 i1_2 a2).n = x4 ∧ (rcR y0_0 i1_0 i1_1 i1_2 a2).h = x5 ∧ (rcR y0_0 i1_0 i1_1 i1_2 a2).code = x6) := Lib.hid ⟨hx1.symm, hx2.symm, hx3.symm, hx4.symm, hx5.symm, hx6.symm⟩
  clear hx1 hx2 hx3 hx4 hx5 hx6
  go_enter Tryd.func3, Tryd.ntmps3
  go_wp2_with fail
  rw [HW0.out]
  refine (szIns _ _ _ _ (by have := HL0_0.out; omega) HL0_0.out hn0_0 hz0_0).mono ?_
  rintro e vz0 ⟨rfl, bz⟩
  replace K1 := Lib.hid (K1.out.below bz K1.out.lt)
  have HT := Lib.hid (HB0.out.trans (bz.mono HB0.out.size))
  clear bz HL0_0 hn0_0 hz0_0
  go_upto_region 5 with fail
  go_cut [8, 9, 10, 11] (fun s8 s9 s10 s11 wx => ∃ bw : Nat, s8 = .pointer (some ⟨bw, 0, none⟩) ∧ s9 = .int .i64 x4 ∧ s10 = .bool x5 ∧ s11 = .int .i64 x6 ∧ Below vz0.heap.size vz0 wx ∧ Cels wx bw 26 [.int .i64 x1, .int .i64 x2, .int .i64 x3])
  case first =>
    have HS1 : Hid (∀ W', Below vz0.heap.size vz0 W' → W'.cell? ⟨w.heap.size, 0, none⟩ = some (.int .i64 i1_0) ∧ W'.cell? ⟨w.heap.size, 1, none⟩ = some (.int .i64 i1_1) ∧ W'.cell? ⟨w.heap.size, 2, none⟩ = some (.int .i64 i1_2)) := Lib.hid (fun W' hW' => ⟨(K1.out.below hW' K1.out.lt).cell 0 rfl, (K1.out.below hW' K1.out.lt).cell 1 rfl, (K1.out.below hW' K1.out.lt).cell 2 rfl⟩)
    have HD : Hid (Below vz0.heap.size vz0 vz0.drew) := Lib.hid (Below.refl _ _).drew
    go_region_held3 (fun w' => w'.cell? ⟨w.heap.size, 0, none⟩ = some (.int .i64 i1_0) ∧ w'.cell? ⟨w.heap.size, 1, none⟩ = some (.int .i64 i1_1) ∧ w'.cell? ⟨w.heap.size, 2, none⟩ = some (.int .i64 i1_2)) (first | exact HS1.out _ HD.out | exact HS1.out _ (HD.out.alloc HD.out.size _) | exact HS1.out _ (((Below.refl _ _).alloc (Nat.le_refl _) _).drew) | exact HS1.out _ (below_set (below_set (below_set HD.out HZb.out _ _) HZb.out _ _) HZb.out _ _) | exact HS1.out _ (below_set (below_set (below_set (HD.out.alloc HD.out.size _) HD.out.size _ _) HD.out.size _ _) HD.out.size _ _)) (first | (go_at_call 14; with_reducible refine (toIns _ y0_0 _ (by first | exact R0_0.out.below (HT.out.trans (HD.out.mono HT.out.size)) (Nat.le_refl _) | exact R0_0.out.below (HT.out.trans ((HD.out.alloc HD.out.size _).mono HT.out.size)) (Nat.le_refl _) | exact R0_0.out.below (HT.out.trans ((((Below.refl _ _).alloc (Nat.le_refl _) _).drew).mono HT.out.size)) (Nat.le_refl _))).mono ?_; rintro e w1 ⟨us0_0, rfl, os0_0, bq⟩; (try (with_reducible have KZ := Lib.hid (cels_pre bq); have HZb := Lib.hid HD.out.size)); (try (with_reducible have KZ := Lib.hid (cels_preD bq); have HZb := Lib.hid (Nat.le_refl vz0.heap.size))); (try with_reducible replace bq := below_pre bq); (try with_reducible replace bq := below_preD bq); (try replace KZ := Lib.hid (KZ.out.below bq KZ.out.lt)); have Xs0_0 := Lib.hid (os0_0.mono (by first | exact HD.out.size | exact (HD.out.alloc HD.out.size _).size | exact (((Below.refl _ _).alloc (Nat.le_refl _) _).drew).size : vz0.heap.size ≤ _) (Nat.le_refl _) (Nat.le_refl _)); obtain ⟨gas0_0, gcs0_0, hus0_0⟩ := os0_0.shape; subst hus0_0; clear os0_0; replace HD := Lib.hid (HD.out.trans (bq.mono HD.out.size)); clear bq) | (go_at_call 15; with_reducible refine (toCnt i1_0 i1_1 i1_2 _).mono ?_; rintro e w1 ⟨rfl, bq⟩; (try (with_reducible have KZ := Lib.hid (cels_pre bq); have HZb := Lib.hid HD.out.size)); (try (with_reducible have KZ := Lib.hid (cels_preD bq); have HZb := Lib.hid (Nat.le_refl vz0.heap.size))); (try with_reducible replace bq := below_pre bq); (try with_reducible replace bq := below_preD bq); (try replace KZ := Lib.hid (KZ.out.below bq KZ.out.lt)); (try replace Xs0_0 := Lib.hid (Xs0_0.out.below bq Xs0_0.out.size)); replace HD := Lib.hid (HD.out.trans (bq.mono HD.out.size)); clear bq) | (go_at_call 13; with_reducible refine (specRunCounters i1_0 i1_1 i1_2 a2 _ y0_0 _ (by first | exact Xs0_0.out.rd | exact (Xs0_0.out.below ((Below.refl _ _).alloc (Nat.le_refl _) _) Xs0_0.out.size).rd)).mono ?_; rintro e w1 ⟨rfl, bq⟩; rw [HX.out.1, HX.out.2.1, HX.out.2.2.1, HX.out.2.2.2.1, HX.out.2.2.2.2.1, HX.out.2.2.2.2.2]; (try (with_reducible have KZ := Lib.hid (cels_pre bq); have HZb := Lib.hid HD.out.size)); (try (with_reducible have KZ := Lib.hid (cels_preD bq); have HZb := Lib.hid (Nat.le_refl vz0.heap.size))); (try with_reducible replace bq := below_pre bq); (try with_reducible replace bq := below_preD bq); (try replace KZ := Lib.hid (KZ.out.below bq KZ.out.lt)); replace HD := Lib.hid (HD.out.trans (bq.mono HD.out.size)); clear bq; (try (have HF := Lib.hid (put3 KZ.out (.int .i64 x1) (.int .i64 x2) (.int .i64 x3)); obtain ⟨f1, f2, f3, f4, f5, f6, f7⟩ := HF.out; have HF7 := Lib.hid f7; clear f7))))
    all_goals (go_wp2_with fail; go_meet)
    all_goals first | exact ⟨_, rfl, rfl, rfl, rfl, below_set (below_set (below_set HD.out HZb.out _ _) HZb.out _ _) HZb.out _ _, HF7.out⟩ | exact ⟨_, rfl, rfl, rfl, rfl, HD.out.alloc HD.out.size _, Cels.new _ _ _⟩
  obtain ⟨bw, rfl, rfl, rfl, rfl, bq, hK⟩ := hcut
  obtain ⟨w1, hw1⟩ : ∃ x, x = wc := ⟨_, rfl⟩
  subst hw1
  replace K1 := Lib.hid (K1.out.below bq K1.out.lt)
  replace HT := Lib.hid (HT.out.trans (bq.mono HT.out.size))
  have KW := Lib.hid hK
  clear bq hK
  go_wp2_with fail
  refine (toIns _ y0_0 _ (R0_0.out.below HT.out (Nat.le_refl _))).mono ?_
  rintro e v3 ⟨ux0_0, rfl, ox0_0, b3⟩
  replace HT := Lib.hid (HT.out.trans (b3.mono HT.out.size))
  replace K1 := Lib.hid (K1.out.below b3 K1.out.lt)
  replace KW := Lib.hid (KW.out.below b3 KW.out.lt)
  have Xx0_0 := Lib.hid ox0_0
  obtain ⟨gax0_0, gcx0_0, hux0_0⟩ := ox0_0.shape
  subst hux0_0
  clear ox0_0 b3
  have z0 := K1.out.cell 0 rfl
  have z1 := K1.out.cell 1 rfl
  have z2 := K1.out.cell 2 rfl
  go_wp2_with fail
  refine (toCnt i1_0 i1_1 i1_2 _).mono ?_
  rintro e v4 ⟨rfl, b4⟩
  replace HT := Lib.hid (HT.out.trans (b4.mono HT.out.size))
  replace KW := Lib.hid (KW.out.below b4 KW.out.lt)
  replace Xx0_0 := Lib.hid (Xx0_0.out.below b4 Xx0_0.out.size)
  clear b4 z0 z1 z2
  go_wp2_with fail
  refine (implRunCounters i1_0 i1_1 i1_2 a2 _ y0_0 _ Xx0_0.out.rd HF1.out HF2.out (HN.out.below HT.out (Nat.le_refl _))).mono ?_
  rintro e v5 ⟨rfl, b5⟩
  rw [HX.out.1, HX.out.2.1, HX.out.2.2.1, HX.out.2.2.2.1, HX.out.2.2.2.2.1, HX.out.2.2.2.2.2]
  replace HT := Lib.hid (HT.out.trans (b5.mono HT.out.size))
  replace KW := Lib.hid (KW.out.below b5 KW.out.lt)
  replace Xx0_0 := Lib.hid (Xx0_0.out.below b5 Xx0_0.out.size)
  clear b5
  have bA : Below v5.heap.size v5 (v5.alloc (Obj.cells #[.int .i64 x1, .int .i64 x2, .int .i64 x3] 26)) := (Below.refl _ _).alloc (Nat.le_refl _) _
  have KG : Hid (Cels (v5.alloc (Obj.cells #[.int .i64 x1, .int .i64 x2, .int .i64 x3] 26)) v5.heap.size 26 [.int .i64 x1, .int .i64 x2, .int .i64 x3]) := Lib.hid (Cels.new _ _ _)
  replace HT := Lib.hid (HT.out.trans (bA.mono HT.out.size))
  replace KW := Lib.hid (KW.out.below bA KW.out.lt)
  replace Xx0_0 := Lib.hid (Xx0_0.out.below bA Xx0_0.out.size)
  clear bA
  have z0 := KG.out.cell 0 rfl
  have z1 := KG.out.cell 1 rfl
  have z2 := KG.out.cell 2 rfl
  have u0 := KW.out.cell 0 rfl
  have u1 := KW.out.cell 1 rfl
  have u2 := KW.out.cell 2 rfl
  go_wp2_with fail
  refine (eqCnt x1 x2 x3 _).mono ?_
  rintro e v6 ⟨rfl, b6⟩
  replace HT := Lib.hid (HT.out.trans (b6.mono HT.out.size))
  replace Xx0_0 := Lib.hid (Xx0_0.out.below b6 Xx0_0.out.size)
  clear b6 z0 z1 z2 u0 u1 u2
  go_wp2_with fail
  refine (toIns _ y0_0 _ (R0_0.out.below HT.out (Nat.le_refl _))).mono ?_
  rintro e v7 ⟨uc0_0, rfl, oc0_0, b7⟩
  replace HT := Lib.hid (HT.out.trans (b7.mono HT.out.size))
  replace Xx0_0 := Lib.hid (Xx0_0.out.below b7 Xx0_0.out.size)
  have Xc0_0 := Lib.hid oc0_0
  obtain ⟨gac0_0, gcc0_0, huc0_0⟩ := oc0_0.shape
  subst huc0_0
  clear oc0_0 b7
  go_wp2_with fail
  refine (eqIns _ _ _ _ Xx0_0.out.rd Xc0_0.out.rd).mono ?_
  rintro e v8 ⟨rfl, b8⟩
  replace HT := Lib.hid (HT.out.trans (b8.mono HT.out.size))
  clear b8
  go_wp2
  go_ret
  exact ⟨rfl, HT.out⟩

noncomputable def laidWorld (os : Os) : World :=
  let w0 := World.holding Tryd.prog os ⟨#[], #[], []⟩
  { w0 with heap := w0.heap.modify 0 fun
      | .cells _ t frozen => .cells #[.iface 232 (.agg #[.pointer (some ⟨1, 160, none⟩)])] t frozen
      | o => o }
theorem laidWorld_met (os : Os) (args : Array Value) : laidMetH Tryd.prog Rows.fnExactRunCountersRow.laid ((laidWorld os).forCall (fun _ _ => 0) ⟨#[], args, []⟩).memory :=
  laidMetH_of_parts (laidMet_nil _ _) (by kernel_rfl)

set_option maxRecDepth 100000 in
theorem lifted (os : Os) (started : os.Started) (H : Type) (enc : TypeId × Value → H) :
    ReturnsInHanded {} Tryd.checked os 3 .any (fun w args => (Rows.fnExactRunCountersSpec.pre enc Tryd.prog Tryd.f3 [] false w args ∧ laidMetH Tryd.prog Rows.fnExactRunCountersRow.laid w) ∧ sizedMet enc Tryd.prog Tryd.f3 (OpenSpec.ofChange Rows.fnExactRunCountersSpec) false w args) (Rows.fnExactRunCountersSpec.post enc Tryd.prog Tryd.f3 false true false false) := by
  refine returnsInHanded_of_change_and (C := Tryd.checked) (X := fun w _ => laidMetH Tryd.prog Rows.fnExactRunCountersRow.laid w) (fun _ _ _ hh h => h.of_heap hh) own started (by kernel_rfl) Tryd.func3
    (ChangeSpec.witness_at (enc := enc) (C := Tryd.checked) (os := os) (X := fun w _ => laidMetH Tryd.prog Rows.fnExactRunCountersRow.laid w) false (laidWorld os) #[.slice none 0 0, .agg #[.int .i64 0, .int .i64 0, .int .i64 0], .int .i64 0] 8 rfl (by kernel_rfl) (by kernel_rfl) (by kernel_rfl) (by kernel_rfl) (by kernel_rfl) (laidWorld_met os _)) ?_
  intro W base args ds gs before hval0 hW _ _ hL _
  have hval : ∀ (j : Nat) t v, Tryd.f3.params[j]? = some t → args[j]? = some v → Value.okWide Tryd.prog W .any base t v := hval0
  have hW' := hW
  obtain ⟨p, q, hA0, hV, rfl, hfz, hnd⟩ := hW
  have hA : DataW.TrodAll enc Tryd.prog W 0 (fun _ => true) true Tryd.f3.params.toList args.toList ds p := hA0
  rw [Tryd.params3] at hA hval
  obtain ⟨v0, vs0, d0, ds0, p0, q0, hargs, rfl, rfl, h0, r0⟩ := trodAll_cons hA
  obtain ⟨v1, vs1, d1, ds1, p1, q1, rfl, rfl, rfl, h1, r1⟩ := trodAll_cons r0
  obtain ⟨v2, vs2, d2, ds2, p2, q2, rfl, rfl, rfl, h2, r2⟩ := trodAll_cons r1
  obtain ⟨rfl, rfl, rfl⟩ := trodAll_nil r2
  obtain rfl : args = #[v0, v1, v2] := by cases args; simp_all
  obtain ⟨rfl, rfl⟩ := trodVars_none hV
  have k0 := h0
  have lt0 : ∀ x ∈ p0, x.block < W.heap.size := by obtain ⟨m, hm⟩ := k0; exact DataW.trod_lt m _ _ _ hm
  obtain ⟨a0_0, len0_0, cap0_0, rfl⟩ := okWide_slice Tryd.underlying22 (hval 0 22 v0 rfl rfl)
  obtain ⟨z0_0, w0_0⟩ : ∃ zs, IsIns W a0_0 len0_0 cap0_0 zs := by
    obtain ⟨fuel, hf⟩ := h0
    obtain ⟨a', len', cap', z', e', w'⟩ := open_Ins hf
    simp [Value.cells] at e'
    obtain ⟨rfl, rfl, rfl⟩ := e'
    exact ⟨z', w'⟩
  have k1 := h1
  have lt1 : ∀ x ∈ p1, x.block < W.heap.size := by obtain ⟨m, hm⟩ := k1; exact DataW.trod_lt m _ _ _ hm
  obtain ⟨c1_0, c1_1, c1_2, y1_0, y1_1, y1_2, n1, rfl, _, _, t1_0, t1_1, t1_2⟩ := Go.Joins.open_agg3 Tryd.underlying24 (by kernel_rfl) (by kernel_rfl) (hval 1 24 v1 rfl rfl) h1
  obtain ⟨i1_0, e1_0, _, j1_0⟩ := DataW.trod_int Tryd.underlying2 t1_0
  simp only [List.cons.injEq, and_true] at e1_0
  subst e1_0
  obtain ⟨i1_1, e1_1, _, j1_1⟩ := DataW.trod_int Tryd.underlying2 t1_1
  simp only [List.cons.injEq, and_true] at e1_1
  subst e1_1
  obtain ⟨i1_2, e1_2, _, j1_2⟩ := DataW.trod_int Tryd.underlying2 t1_2
  simp only [List.cons.injEq, and_true] at e1_2
  subst e1_2
  obtain ⟨a2, rfl, rfl, rfl, w2⟩ := open_int Tryd.underlying2 (hval 2 2 v2 rfl rfl) h2
  clear hA0 hval0
  refine (walk a0_0 len0_0 cap0_0 z0_0 i1_0 i1_1 i1_2 a2 W w0_0 j1_0 j1_1 j1_2 w2 (etV_of_laid hL)).mono fun e W' ⟨he, bel⟩ => ?_
  subst he
  exact ⟨_, rfl, _, _, _, [], _, [], hW', trodAll_mk1 (shut_bool Tryd.underlying4 _), (trodAll_cons_mk (Below.trod laidOut (by kernel_rfl) (of_decide_eq_true (by kernel_rfl)) k0 bel lt0) (trodAll_cons_mk (Below.trod laidOut (by kernel_rfl) (of_decide_eq_true (by kernel_rfl)) k1 bel lt1) (trodAll_cons_mk (shut_int Tryd.underlying2 w2) trodAll_mk0))), rfl, bel.frame _, fun h => by cases h⟩

theorem over : Rows.fnExactRunCountersRow.holds Tryd.pinned (OpenSpec.ofChange Rows.fnExactRunCountersSpec) :=
  OpenClaim.holds_of_wide 3 Tryd.f3 rfl rfl rfl rfl rfl rfl rfl ⟨rfl, rfl, rfl, rfl, rfl⟩ rfl rfl rfl rfl rfl (by kernel_rfl) Tryd.func3 (by kernel_rfl)
    (of_decide_eq_true (by kernel_rfl)) (by unfold Func.isWrapper; first | (rw [if_pos (by decide +kernel)]; kernel_rfl) | (rw [if_neg (by decide +kernel)]; exact ⟨rfl, rfl⟩))
    (fun os started H enc _ => lifted os started H enc)

/-- The statement: the tied card. -/
theorem proved : Rows.FnExactRunCountersCardSaid :=
  Claim7.holds_tied_plain_at .later [] [.handle] true (true, "eee6a4d104c7dc6ec1cd1acb840045d3df37c600f956d1caf597bc5aeadbbacb") true over (fun _ h => by cases h) (by kernel_rfl) (fun _ h => by cases h) fnExactRunCounters_row_tie rfl ⟨rfl, rfl⟩ (by kernel_rfl) rfl
    (fun f fn hf hfn => by
      obtain rfl : f = 3 := Option.some.inj ((show Tryd.prog.funcNamed "loop.example/g01079/laws.FnExactRunCounters" = some 3 by kernel_rfl).symm.trans hf) |>.symm
      obtain rfl : fn = Tryd.f3 := (Option.some.inj (Tryd.func3.symm.trans hfn)).symm
      exact ⟨by kernel_rfl, fun j t ht => by
        rw [Tryd.params3] at ht
        have hm : t ∈ [22, 24, 2] := by simpa using Array.mem_of_getElem? ht
        have hall : ([22, 24, 2].all fun u => !Tryd.prog.wantsStandIn u) = true := by kernel_rfl
        exact (show Tryd.prog.wantsStandIn t = false by simpa using List.all_eq_true.1 hall t hm)⟩)
    (by kernel_rfl)
#print axioms proved
end Go.Proofs.YtgbhbbapkpgmiaaDoor.fnExactRunCounters
