/-   FnExactRunCyclic: for every cyclic tag system, every turn, every number the program's RunCyclic answers as its model, turn, number, whether it halts, and code, leaves its arguments alone, and its answer is its own; the library's variable errors.errorType is read as start-up lays it (tied). No condition. -/
import Derived.Test.YtkjoakdepjpkhaaDoorRows
import Derived.Test.YtkjoakdepjpkhaaDoorCards
import Derived.Test.YtkjoakdepjpkhaaDoorTie
import Derived.WalkKit
import Derived.ProofKit
import Derived.OpenShut
import Derived.ShutString
import Derived.ChangeOld
import Derived.Below
import Derived.Lib.SmallJoins
import Derived.Deep.Strs
import Derived.OpenVars
import Derived.LaidMore
import Derived.Lay
import Derived.LaidOnce
import Derived.SevenTiedAt
import Derived.Stop.Joined
import Derived.LaidLaws
import Derived.LaidHandle
import Derived.ChangeSame
import Derived.ChangeVars
import Derived.JoinedOf
import Derived.RowKit
import Derived.RowKitTokens
import Derived.Handy
import Derived.Lib.Hide
import Derived.Deep.RegionHeld3
import Derived.Deep.DeepCutAuto
import Derived.Test.YtkjoakdepjpkhaaDoorMkQ
import Derived.Test.YtkjoakdepjpkhaaDoorCyT
import Derived.Test.YtkjoakdepjpkhaaDoorRyT
namespace Go.Proofs.YtkjoakdepjpkhaaDoor.fnExactRunCyclic
open Go.ChangeShapes Go.WideShapes Go.ChangeAt Go.RowKit
set_option linter.unusedVariables false
set_option linter.unusedSimpArgs false

theorem own : ownKnob Tryd.prog.godebug = none := by kernel_rfl
theorem laidOut : laidOutB Tryd.prog = true := by kernel_rfl
open Ints

set_option maxRecDepth 100000 in
set_option maxHeartbeats 16000000 in
theorem walk (a0_0 : Option Addr) (len0_0 cap0_0 : Nat) (z0_0 : List Qin) (i1_0 : Int) (a1_0 : Option Addr) (len1_0 cap1_0 : Nat) (z1_0 : List Int) (a2 : Int) (w : World) (w0_0 : IsLists w a0_0 len0_0 cap0_0 z0_0) (j1_0 : (Lit.int .i64 i1_0).wf = true) (w1_0 : IsList w a1_0 len1_0 cap1_0 z1_0) (w2 : (Lit.int .i64 a2).wf = true) (hev : EtV w) :
    Calls Tryd.prog 5 #[.agg #[.slice a0_0 len0_0 cap0_0], .agg #[.int .i64 i1_0, .slice a1_0 len1_0 cap1_0], .int .i64 a2] w fun e w' => e = .returned (.bool true) ∧ Below w.heap.size w w' := by
  have hz1_0 := w1_0.le
  have HZ1 := Lib.hid hz1_0
  clear hz1_0
  obtain ⟨W0, hW0⟩ : ∃ x, x = ((w.alloc (Obj.cells #[.slice a0_0 len0_0 cap0_0] 36)).alloc (Obj.cells #[.int .i64 i1_0, .slice a1_0 len1_0 cap1_0] 38)) := ⟨_, rfl⟩
  have HLT0 : Hid (w.heap.size < W0.heap.size) := Lib.hid (by rw [hW0]; simp; omega)
  have HB0 : Hid (Below w.heap.size w W0) := Lib.hid (by rw [hW0]; exact (((Below.refl w.heap.size w).alloc (Nat.le_refl _) _).alloc (by simp) _))
  have K0 : Hid (Cels W0 (w.heap.size) 36 [.slice a0_0 len0_0 cap0_0]) := Lib.hid (by rw [hW0]; have h := ((Cels.new w 36 [.slice a0_0 len0_0 cap0_0])).alloc (Obj.cells #[.int .i64 i1_0, .slice a1_0 len1_0 cap1_0] 38); first | exact h | (simp only [World.size_alloc] at h; exact h))
  have HI0 : Hid (IsLists W0 a0_0 len0_0 cap0_0 z0_0) := Lib.hid (by rw [hW0]; exact w0_0|>.alloc _ |>.alloc _)
  have K1 : Hid (Cels W0 (w.heap.size + 1) 38 [.int .i64 i1_0, .slice a1_0 len1_0 cap1_0]) := Lib.hid (by rw [hW0]; have h := (Cels.new (w.alloc (Obj.cells #[.slice a0_0 len0_0 cap0_0] 36)) 38 [.int .i64 i1_0, .slice a1_0 len1_0 cap1_0]); first | exact h | (simp only [World.size_alloc] at h; exact h))
  have HW0 := Lib.hid hW0.symm
  clear hW0
  obtain ⟨s0, hs0⟩ : ∃ s : Int, s = szQV 1048576 len0_0 z0_0 := ⟨_, rfl⟩
  have HS0 := Lib.hid hs0
  clear hs0
  obtain ⟨s1, hs1⟩ : ∃ s : Int, s = szL s0 len1_0 := ⟨_, rfl⟩
  have HS1 := Lib.hid hs1
  clear hs1
  by_cases h0 : 0 ≤ s0
  rotate_left
  · have g0 : s0 < 0 := by omega
    clear h0
    go_enter Tryd.func5, Tryd.ntmps5
    go_wp2_with fail
    rw [HW0.out]
    refine (szCyc _ _ _ z0_0 _ HI0.out (by omega) HS0.out).mono ?_
    rintro e v0 ⟨rfl, b0⟩
    rw [if_pos (show s0 < 0 by omega)]
    replace K0 := Lib.hid (K0.out.below b0 K0.out.lt)
    replace K1 := Lib.hid (K1.out.below b0 K1.out.lt)
    have HT := Lib.hid b0
    clear b0
    go_wp2
    go_ret
    exact ⟨rfl, HB0.out.trans (HT.out.mono HB0.out.size)⟩
  have g0 : ¬ s0 < 0 := by omega
  have HQ0 : Hid (0 ≤ s0 ∧ s0 ≤ 1048576) := Lib.hid (by have := szQV_le 1048576 len0_0 z0_0; rw [← HS0.out] at this; omega)
  by_cases h1 : 0 ≤ s1
  rotate_left
  · have g1 : s1 < 0 := by omega
    clear h1
    go_enter Tryd.func5, Tryd.ntmps5
    go_wp2_with fail
    rw [HW0.out]
    refine (szCyc _ _ _ z0_0 _ HI0.out (by omega) HS0.out).mono ?_
    rintro e v0 ⟨rfl, b0⟩
    rw [if_neg (show ¬ s0 < 0 by omega)]
    replace K0 := Lib.hid (K0.out.below b0 K0.out.lt)
    replace K1 := Lib.hid (K1.out.below b0 K1.out.lt)
    have HT := Lib.hid b0
    clear b0
    have zz1_0 := K1.out.cell 0 rfl
    have zz1_1 := K1.out.cell 1 rfl
    go_wp2_with fail
    clear zz1_0 zz1_1
    refine (szTrnV i1_0 _ _ _ _ HZ1.out HQ0.out HS1.out).mono ?_
    rintro e v1 ⟨rfl, b1⟩
    rw [if_pos (show s1 < 0 by omega)]
    replace K0 := Lib.hid (K0.out.below b1 K0.out.lt)
    replace K1 := Lib.hid (K1.out.below b1 K1.out.lt)
    replace HT := Lib.hid (HT.out.trans (b1.mono HT.out.size))
    clear b1
    go_wp2
    go_ret
    exact ⟨rfl, HB0.out.trans (HT.out.mono HB0.out.size)⟩
  have g1 : ¬ s1 < 0 := by omega
  have HQ1 : Hid (0 ≤ s1 ∧ s1 ≤ 1048576) := Lib.hid (by have := (szL_good (n := len1_0) (by rw [← HS1.out]; exact h1) HQ0.out.2).2; rw [← HS1.out] at this; omega)
  obtain ⟨y0, hy0⟩ : ∃ y, y = (z0_0.take len0_0).map Qin.q := ⟨_, rfl⟩
  have R0 : Hid (RdL W0 (.slice a0_0 len0_0 cap0_0) y0) := Lib.hid (by rw [hy0]; exact rdl_of_sz (L := 1048576) HI0.out (by omega) (by rw [← HS0.out]; exact h0))
  have HTOT : Hid (tot y0 ≤ 1048576) := Lib.hid (by have := szQV_tot (L := 1048576) (n := len0_0) (zs := z0_0) (by rw [← HS0.out]; exact h0); rw [← hy0] at this; omega)
  clear hy0
  obtain ⟨x1, hx1⟩ : ∃ y, y = z1_0.take len1_0 := ⟨_, rfl⟩
  have Q1 : Hid (Rd W0 (.slice a1_0 len1_0 cap1_0) x1) := Lib.hid (by rw [hx1]; exact (rd_of_row w1_0 (szL_good (n := len1_0) (by rw [← HS1.out]; exact h1) HQ0.out.2).1).below HB0.out (Nat.le_refl _))
  clear hx1
  have HN := Lib.hid (hev.below HB0.out (Nat.le_refl _))
  clear hev h0 h1
  go_enter Tryd.func5, Tryd.ntmps5
  go_wp2_with fail
  rw [HW0.out]
  refine (szCyc _ _ _ z0_0 _ HI0.out (by omega) HS0.out).mono ?_
  rintro e v0 ⟨rfl, b0⟩
  rw [if_neg (show ¬ s0 < 0 by omega)]
  replace K0 := Lib.hid (K0.out.below b0 K0.out.lt)
  replace K1 := Lib.hid (K1.out.below b0 K1.out.lt)
  have HT := Lib.hid b0
  clear b0
  have zz1_0 := K1.out.cell 0 rfl
  have zz1_1 := K1.out.cell 1 rfl
  go_wp2_with fail
  clear zz1_0 zz1_1
  refine (szTrnV i1_0 _ _ _ _ HZ1.out HQ0.out HS1.out).mono ?_
  rintro e v1 ⟨rfl, b1⟩
  rw [if_neg (show ¬ s1 < 0 by omega)]
  replace K0 := Lib.hid (K0.out.below b1 K0.out.lt)
  replace K1 := Lib.hid (K1.out.below b1 K1.out.lt)
  replace HT := Lib.hid (HT.out.trans (b1.mono HT.out.size))
  clear b1
  clear HS0 HS1 HQ0 HQ1
  have HLV0 := Lib.hid HT.out.size
  go_upto_region 8 with fail
  go_cut [8, 9, 10, 11] (fun s8 s9 s10 s11 wx => ∃ (bw : Nat) (uw : Value), s8 = .pointer (some ⟨bw, 0, none⟩) ∧ s9 = .int .i64 (ryR y0 i1_0 x1 a2).n ∧ s10 = .bool (ryR y0 i1_0 x1 a2).h ∧ s11 = .int .i64 (ryR y0 i1_0 x1 a2).code ∧ Below v1.heap.size v1 wx ∧ v1.heap.size ≤ bw ∧ Cels wx bw 41 [.int .i64 (ryR y0 i1_0 x1 a2).at', uw] ∧ Ow wx v1.heap.size wx.heap.size uw (ryR y0 i1_0 x1 a2).cs)
  case first =>
    have HS : Hid (∀ W', Below v1.heap.size v1 W' → W'.cell? ⟨w.heap.size, 0, none⟩ = some (.slice a0_0 len0_0 cap0_0) ∧ W'.cell? ⟨w.heap.size + 1, 0, none⟩ = some (.int .i64 i1_0) ∧ W'.cell? ⟨w.heap.size + 1, 1, none⟩ = some (.slice a1_0 len1_0 cap1_0)) := Lib.hid (fun W' hW' => ⟨(K0.out.below hW' K0.out.lt).cell 0 rfl, (K1.out.below hW' K1.out.lt).cell 0 rfl, (K1.out.below hW' K1.out.lt).cell 1 rfl⟩)
    have HD : Hid (Below v1.heap.size v1 v1.drew) := Lib.hid (Below.refl _ _).drew
    go_region_held3 (fun w' => w'.cell? ⟨w.heap.size, 0, none⟩ = some (.slice a0_0 len0_0 cap0_0) ∧ w'.cell? ⟨w.heap.size + 1, 0, none⟩ = some (.int .i64 i1_0) ∧ w'.cell? ⟨w.heap.size + 1, 1, none⟩ = some (.slice a1_0 len1_0 cap1_0)) (first | exact HS.out _ HD.out | exact HS.out _ (HD.out.alloc HD.out.size _) | exact HS.out _ (((Below.refl _ _).alloc (Nat.le_refl _) _).drew) | exact HS.out _ (below_set (below_set HD.out HZb.out _ _) HZb.out _ _) | exact HS.out _ (below_set (below_set (HD.out.alloc HD.out.size _) HD.out.size _ _) HD.out.size _ _)) (first | (go_at_call 20; with_reducible refine (toCycT _ y0 _ (by first | exact R0.out.below (HT.out.trans (HD.out.mono HT.out.size)) (Nat.le_refl _) | exact R0.out.below (HT.out.trans ((HD.out.alloc HD.out.size _).mono HT.out.size)) (Nat.le_refl _) | exact R0.out.below (HT.out.trans ((((Below.refl _ _).alloc (Nat.le_refl _) _).drew).mono HT.out.size)) (Nat.le_refl _))).mono ?_; rintro e w7 ⟨uc, rfl, oc, bq⟩; (try (with_reducible have KZ := Lib.hid (cels_pre bq); have HZb := Lib.hid HD.out.size)); (try (with_reducible have KZ := Lib.hid (cels_preD bq); have HZb := Lib.hid (Nat.le_refl v1.heap.size))); (try with_reducible replace bq := below_pre bq); (try with_reducible replace bq := below_preD bq); (try replace KZ := Lib.hid (KZ.out.below bq KZ.out.lt)); (try (with_reducible replace Xt := Lib.hid (Xt.out.below bq (Nat.le_refl _)))); obtain ⟨gac, gcc, huc⟩ := oc.shape; subst huc; have Xc := Lib.hid oc.rdl; clear oc; replace HD := Lib.hid (HD.out.trans (bq.mono HD.out.size)); clear bq) | (go_at_call 21; with_reducible refine (toTrn i1_0 _ x1 _ (by first | exact Q1.out.below (HT.out.trans (HD.out.mono HT.out.size)) (Nat.le_refl _) | exact Q1.out.below (HT.out.trans ((HD.out.alloc HD.out.size _).mono HT.out.size)) (Nat.le_refl _) | exact Q1.out.below (HT.out.trans ((((Below.refl _ _).alloc (Nat.le_refl _) _).drew).mono HT.out.size)) (Nat.le_refl _))).mono ?_; rintro e w7 ⟨ut, rfl, ot, bq⟩; (try (with_reducible have KZ := Lib.hid (cels_pre bq); have HZb := Lib.hid HD.out.size)); (try (with_reducible have KZ := Lib.hid (cels_preD bq); have HZb := Lib.hid (Nat.le_refl v1.heap.size))); (try with_reducible replace bq := below_pre bq); (try with_reducible replace bq := below_preD bq); (try replace KZ := Lib.hid (KZ.out.below bq KZ.out.lt)); (try (with_reducible replace Xc := Lib.hid (Xc.out.below bq (Nat.le_refl _)))); obtain ⟨gat, gct, hut⟩ := ot.shape; subst hut; have Xt := Lib.hid ot.rd; clear ot; replace HD := Lib.hid (HD.out.trans (bq.mono HD.out.size)); clear bq) | (go_at_call 28; with_reducible refine (specRunCycL _ y0 i1_0 _ x1 a2 _ (by first | exact Xc.out | exact Xc.out.below ((Below.refl _ _).alloc (Nat.le_refl _) _) (Nat.le_refl _)) (by first | exact Xt.out | exact Xt.out.below ((Below.refl _ _).alloc (Nat.le_refl _) _) (Nat.le_refl _))).mono ?_; rintro e w7 ⟨ur, rfl, or, bq⟩; (try (with_reducible have KZ := Lib.hid (cels_pre bq); have HZb := Lib.hid HD.out.size)); (try (with_reducible have KZ := Lib.hid (cels_preD bq); have HZb := Lib.hid (Nat.le_refl v1.heap.size))); have Xr := Lib.hid (or.mono (by first | exact HD.out.size | exact (HD.out.alloc HD.out.size _).size | exact (((Below.refl _ _).alloc (Nat.le_refl _) _).drew).size : v1.heap.size ≤ _) (Nat.le_refl _) (Nat.le_refl _)); (try with_reducible replace bq := below_pre bq); (try with_reducible replace bq := below_preD bq); (try replace KZ := Lib.hid (KZ.out.below bq KZ.out.lt)); obtain ⟨gar, gcr, hur⟩ := or.shape; subst hur; clear or; replace HD := Lib.hid (HD.out.trans (bq.mono HD.out.size)); clear bq; (try (have HF := Lib.hid (put2y KZ.out (.int .i64 (ryR y0 i1_0 x1 a2).at') (.slice gar (ryR y0 i1_0 x1 a2).cs.length gcr)); obtain ⟨f1, f2, f3, f4, f7⟩ := HF.out; have HF7 := Lib.hid f7; clear f7))))
    all_goals (go_wp2_with fail; go_meet)
    all_goals first | exact ⟨_, _, rfl, rfl, rfl, rfl, below_set (below_set HD.out HZb.out _ _) HZb.out _ _, HZb.out, HF7.out, (Xr.out.grown (put2yg KZ.out _ _) (Or.inr (Xr.out.nblk KZ.out (by decide)))).up⟩ | exact ⟨_, _, rfl, rfl, rfl, rfl, HD.out.alloc HD.out.size _, HD.out.size, Cels.new _ _ _, (Xr.out.below ((Below.refl _ _).alloc (Nat.le_refl _) _) Xr.out.size).up⟩
  obtain ⟨bw, uw, rfl, rfl, rfl, rfl, bq, hbw, hKw, ow⟩ := hcut
  obtain ⟨v2, hv2⟩ : ∃ x, x = wc := ⟨_, rfl⟩
  subst hv2
  have SZ2 := Lib.hid bq.size
  replace K0 := Lib.hid (K0.out.below bq K0.out.lt)
  replace K1 := Lib.hid (K1.out.below bq K1.out.lt)
  replace HT := Lib.hid (HT.out.trans (bq.mono HT.out.size))
  clear bq
  obtain ⟨gaw, gcw, huw⟩ := ow.shape
  subst huw
  have Xw := Lib.hid ow
  have Kw := Lib.hid hKw
  clear ow hKw
  have HBw := Lib.hid (And.intro hbw Kw.out.lt)
  clear hbw
  have zzK0_0 := K0.out.cell 0 rfl
  go_wp2_with fail
  refine (toCycT _ y0 _ (R0.out.below HT.out (Nat.le_refl _))).mono ?_
  rintro e v3 ⟨ub, rfl, ob, b3⟩
  have SZ3 := Lib.hid b3.size
  replace Xw := Lib.hid (Xw.out.below b3 Xw.out.size)
  replace K0 := Lib.hid (K0.out.below b3 K0.out.lt)
  replace K1 := Lib.hid (K1.out.below b3 K1.out.lt)
  replace Kw := Lib.hid (Kw.out.below b3 Kw.out.lt)
  replace HT := Lib.hid (HT.out.trans (b3.mono HT.out.size))
  clear b3
  obtain ⟨gab, gcb, hub⟩ := ob.shape
  subst hub
  have Xb := Lib.hid ob
  clear ob
  have q1 : Below v3.heap.size v3 (v3.alloc (Obj.cells #[Value.slice gab y0.length gcb] 44)) := (Below.refl _ _).alloc (Nat.le_refl _) _
  have SZKX0 : Hid ((v3.alloc (Obj.cells #[Value.slice gab y0.length gcb] 44)).heap.size = v3.heap.size + 1) := Lib.hid (World.size_alloc _ _)
  replace Xw := Lib.hid (Xw.out.below q1 Xw.out.size)
  replace Xb := Lib.hid (Xb.out.below q1 Xb.out.size)
  replace K0 := Lib.hid (K0.out.below q1 K0.out.lt)
  replace K1 := Lib.hid (K1.out.below q1 K1.out.lt)
  replace Kw := Lib.hid (Kw.out.below q1 Kw.out.lt)
  replace HT := Lib.hid (HT.out.trans (q1.mono HT.out.size))
  clear q1
  have KX0 : Hid (Cels (v3.alloc (Obj.cells #[Value.slice gab y0.length gcb] 44)) v3.heap.size 44 [Value.slice gab y0.length gcb]) := Lib.hid (Cels.new _ _ _)
  clear zzK0_0
  have zzK1_0 := K1.out.cell 0 rfl
  have zzK1_1 := K1.out.cell 1 rfl
  go_wp2_with fail
  refine (toTrn i1_0 _ x1 _ (Q1.out.below HT.out (Nat.le_refl _))).mono ?_
  rintro e v4 ⟨ut, rfl, ot, b4⟩
  have SZ4 := Lib.hid b4.size
  replace Xw := Lib.hid (Xw.out.below b4 Xw.out.size)
  replace Xb := Lib.hid (Xb.out.below b4 Xb.out.size)
  replace K0 := Lib.hid (K0.out.below b4 K0.out.lt)
  replace K1 := Lib.hid (K1.out.below b4 K1.out.lt)
  replace Kw := Lib.hid (Kw.out.below b4 Kw.out.lt)
  replace KX0 := Lib.hid (KX0.out.below b4 KX0.out.lt)
  replace HT := Lib.hid (HT.out.trans (b4.mono HT.out.size))
  clear b4
  obtain ⟨gat, gct, hut⟩ := ot.shape
  subst hut
  have Xt := Lib.hid ot
  clear ot
  have q1 : Below v4.heap.size v4 (v4.alloc (Obj.cells #[Value.int IntKind.i64 i1_0, Value.slice gat x1.length gct] 41)) := (Below.refl _ _).alloc (Nat.le_refl _) _
  have SZKX1 : Hid ((v4.alloc (Obj.cells #[Value.int IntKind.i64 i1_0, Value.slice gat x1.length gct] 41)).heap.size = v4.heap.size + 1) := Lib.hid (World.size_alloc _ _)
  replace Xw := Lib.hid (Xw.out.below q1 Xw.out.size)
  replace Xb := Lib.hid (Xb.out.below q1 Xb.out.size)
  replace Xt := Lib.hid (Xt.out.below q1 Xt.out.size)
  replace K0 := Lib.hid (K0.out.below q1 K0.out.lt)
  replace K1 := Lib.hid (K1.out.below q1 K1.out.lt)
  replace Kw := Lib.hid (Kw.out.below q1 Kw.out.lt)
  replace KX0 := Lib.hid (KX0.out.below q1 KX0.out.lt)
  replace HT := Lib.hid (HT.out.trans (q1.mono HT.out.size))
  clear q1
  have KX1 : Hid (Cels (v4.alloc (Obj.cells #[Value.int IntKind.i64 i1_0, Value.slice gat x1.length gct] 41)) v4.heap.size 41 [Value.int IntKind.i64 i1_0, Value.slice gat x1.length gct]) := Lib.hid (Cels.new _ _ _)
  clear zzK1_0 zzK1_1
  have zzKX0_0 := KX0.out.cell 0 rfl
  have zzKX1_0 := KX1.out.cell 0 rfl
  have zzKX1_1 := KX1.out.cell 1 rfl
  go_wp2_with fail
  refine (implRunCycL _ y0 i1_0 _ x1 a2 _ Xb.out.rdl Xt.out.rd (HN.out.below HT.out (Nat.le_refl _))).mono ?_
  rintro e v5 ⟨ug, rfl, og, b5⟩
  have SZ5 := Lib.hid b5.size
  replace Xw := Lib.hid (Xw.out.below b5 Xw.out.size)
  replace Xb := Lib.hid (Xb.out.below b5 Xb.out.size)
  replace Xt := Lib.hid (Xt.out.below b5 Xt.out.size)
  replace K0 := Lib.hid (K0.out.below b5 K0.out.lt)
  replace K1 := Lib.hid (K1.out.below b5 K1.out.lt)
  replace Kw := Lib.hid (Kw.out.below b5 Kw.out.lt)
  replace KX0 := Lib.hid (KX0.out.below b5 KX0.out.lt)
  replace KX1 := Lib.hid (KX1.out.below b5 KX1.out.lt)
  replace HT := Lib.hid (HT.out.trans (b5.mono HT.out.size))
  clear b5
  obtain ⟨gag, gcg, hug⟩ := og.shape
  subst hug
  have Xg := Lib.hid og
  clear og
  have q1 : Below v5.heap.size v5 (v5.alloc (Obj.cells #[.int .i64 (ryR y0 i1_0 x1 a2).at', .slice gag (ryR y0 i1_0 x1 a2).cs.length gcg] 41)) := (Below.refl _ _).alloc (Nat.le_refl _) _
  have SZKg : Hid ((v5.alloc (Obj.cells #[.int .i64 (ryR y0 i1_0 x1 a2).at', .slice gag (ryR y0 i1_0 x1 a2).cs.length gcg] 41)).heap.size = v5.heap.size + 1) := Lib.hid (World.size_alloc _ _)
  replace Xw := Lib.hid (Xw.out.below q1 Xw.out.size)
  replace Xb := Lib.hid (Xb.out.below q1 Xb.out.size)
  replace Xt := Lib.hid (Xt.out.below q1 Xt.out.size)
  replace Xg := Lib.hid (Xg.out.below q1 Xg.out.size)
  replace K0 := Lib.hid (K0.out.below q1 K0.out.lt)
  replace K1 := Lib.hid (K1.out.below q1 K1.out.lt)
  replace Kw := Lib.hid (Kw.out.below q1 Kw.out.lt)
  replace KX0 := Lib.hid (KX0.out.below q1 KX0.out.lt)
  replace KX1 := Lib.hid (KX1.out.below q1 KX1.out.lt)
  replace HT := Lib.hid (HT.out.trans (q1.mono HT.out.size))
  clear q1
  have Kg : Hid (Cels (v5.alloc (Obj.cells #[.int .i64 (ryR y0 i1_0 x1 a2).at', .slice gag (ryR y0 i1_0 x1 a2).cs.length gcg] 41)) v5.heap.size 41 [.int .i64 (ryR y0 i1_0 x1 a2).at', .slice gag (ryR y0 i1_0 x1 a2).cs.length gcg]) := Lib.hid (Cels.new _ _ _)
  clear zzKX0_0 zzKX1_0 zzKX1_1
  have zzKg_0 := Kg.out.cell 0 rfl
  have zzKg_1 := Kg.out.cell 1 rfl
  have zzKw_0 := Kw.out.cell 0 rfl
  have zzKw_1 := Kw.out.cell 1 rfl
  go_wp2_with fail
  refine (eqTrn (ryR y0 i1_0 x1 a2).at' _ _ (ryR y0 i1_0 x1 a2).cs _ Xg.out.rd Xw.out.rd).mono ?_
  rintro e v6 ⟨rfl, b6⟩
  have SZ6 := Lib.hid b6.size
  replace Xw := Lib.hid (Xw.out.below b6 Xw.out.size)
  replace Xb := Lib.hid (Xb.out.below b6 Xb.out.size)
  replace Xt := Lib.hid (Xt.out.below b6 Xt.out.size)
  replace Xg := Lib.hid (Xg.out.below b6 Xg.out.size)
  replace K0 := Lib.hid (K0.out.below b6 K0.out.lt)
  replace K1 := Lib.hid (K1.out.below b6 K1.out.lt)
  replace Kw := Lib.hid (Kw.out.below b6 Kw.out.lt)
  replace KX0 := Lib.hid (KX0.out.below b6 KX0.out.lt)
  replace KX1 := Lib.hid (KX1.out.below b6 KX1.out.lt)
  replace Kg := Lib.hid (Kg.out.below b6 Kg.out.lt)
  replace HT := Lib.hid (HT.out.trans (b6.mono HT.out.size))
  clear b6
  clear zzKg_0 zzKg_1 zzKw_0 zzKw_1
  go_wp2_with fail
  have HS : Hid (∀ W', Below v6.heap.size v6 W' → W'.cell? ⟨v3.heap.size, 0, none⟩ = some (Value.slice gab y0.length gcb) ∧ W'.cell? ⟨w.heap.size, 0, none⟩ = some (.slice a0_0 len0_0 cap0_0)) := Lib.hid (fun W' hW' => ⟨(KX0.out.below hW' KX0.out.lt).cell 0 rfl, (K0.out.below hW' K0.out.lt).cell 0 rfl⟩)
  have HD : Hid (Below v6.heap.size v6 v6.drew) := Lib.hid (Below.refl _ _).drew
  go_cut [82] (fun sq wx => sq = .bool false ∧ Below v6.heap.size v6 wx)
  case first =>
    go_region_held3 (fun w' => w'.cell? ⟨v3.heap.size, 0, none⟩ = some (Value.slice gab y0.length gcb) ∧ w'.cell? ⟨w.heap.size, 0, none⟩ = some (.slice a0_0 len0_0 cap0_0)) (exact HS.out _ HD.out) (first | (go_at_call 20; with_reducible refine (toCycT _ y0 _ (R0.out.below (HT.out.trans (HD.out.mono HT.out.size)) (Nat.le_refl _))).mono ?_; rintro e w7 ⟨uc, rfl, oc, bq⟩; replace HD := Lib.hid (HD.out.trans (bq.mono HD.out.size)); obtain ⟨gac, gcc, huc⟩ := oc.shape; subst huc; have Xc := Lib.hid oc.rdl; clear oc bq) | (go_at_call 24; with_reducible refine (eqCyc _ _ y0 _ (Xb.out.rdl.below HD.out (Nat.le_refl _)) Xc.out).mono ?_; rintro e w7 ⟨rfl, bq⟩; replace HD := Lib.hid (HD.out.trans (bq.mono HD.out.size)); clear bq))
    all_goals (go_wp2_with fail; go_meet)
    all_goals exact ⟨rfl, HD.out⟩
  obtain ⟨rfl, hcb⟩ := hcut
  obtain ⟨v7, hv7⟩ : ∃ x, x = wc := ⟨_, rfl⟩
  subst hv7
  have SZ7 := Lib.hid hcb.size
  replace Xw := Lib.hid (Xw.out.below hcb Xw.out.size)
  replace Xb := Lib.hid (Xb.out.below hcb Xb.out.size)
  replace Xt := Lib.hid (Xt.out.below hcb Xt.out.size)
  replace Xg := Lib.hid (Xg.out.below hcb Xg.out.size)
  replace K0 := Lib.hid (K0.out.below hcb K0.out.lt)
  replace K1 := Lib.hid (K1.out.below hcb K1.out.lt)
  replace Kw := Lib.hid (Kw.out.below hcb Kw.out.lt)
  replace KX0 := Lib.hid (KX0.out.below hcb KX0.out.lt)
  replace KX1 := Lib.hid (KX1.out.below hcb KX1.out.lt)
  replace Kg := Lib.hid (Kg.out.below hcb Kg.out.lt)
  replace HT := Lib.hid (HT.out.trans (hcb.mono HT.out.size))
  clear hcb HS HD
  go_wp2_with fail
  have HS : Hid (∀ W', Below v7.heap.size v7 W' → W'.cell? ⟨v4.heap.size, 0, none⟩ = some (Value.int IntKind.i64 i1_0) ∧ W'.cell? ⟨v4.heap.size, 1, none⟩ = some (Value.slice gat x1.length gct) ∧ W'.cell? ⟨w.heap.size + 1, 0, none⟩ = some (.int .i64 i1_0) ∧ W'.cell? ⟨w.heap.size + 1, 1, none⟩ = some (.slice a1_0 len1_0 cap1_0)) := Lib.hid (fun W' hW' => ⟨(KX1.out.below hW' KX1.out.lt).cell 0 rfl, (KX1.out.below hW' KX1.out.lt).cell 1 rfl, (K1.out.below hW' K1.out.lt).cell 0 rfl, (K1.out.below hW' K1.out.lt).cell 1 rfl⟩)
  have HD : Hid (Below v7.heap.size v7 v7.drew) := Lib.hid (Below.refl _ _).drew
  go_cut [87] (fun sq wx => sq = .bool false ∧ Below v7.heap.size v7 wx)
  case first =>
    go_region_held3 (fun w' => w'.cell? ⟨v4.heap.size, 0, none⟩ = some (Value.int IntKind.i64 i1_0) ∧ w'.cell? ⟨v4.heap.size, 1, none⟩ = some (Value.slice gat x1.length gct) ∧ w'.cell? ⟨w.heap.size + 1, 0, none⟩ = some (.int .i64 i1_0) ∧ w'.cell? ⟨w.heap.size + 1, 1, none⟩ = some (.slice a1_0 len1_0 cap1_0)) (exact HS.out _ HD.out) (first | (go_at_call 21; with_reducible refine (toTrn i1_0 _ x1 _ (Q1.out.below (HT.out.trans (HD.out.mono HT.out.size)) (Nat.le_refl _))).mono ?_; rintro e w7 ⟨uc, rfl, oc, bq⟩; replace HD := Lib.hid (HD.out.trans (bq.mono HD.out.size)); obtain ⟨gac, gcc, huc⟩ := oc.shape; subst huc; have Xc := Lib.hid oc.rd; clear oc bq) | (go_at_call 23; with_reducible refine (eqTrn i1_0 _ _ x1 _ (Xt.out.rd.below HD.out (Nat.le_refl _)) Xc.out).mono ?_; rintro e w7 ⟨rfl, bq⟩; replace HD := Lib.hid (HD.out.trans (bq.mono HD.out.size)); clear bq))
    all_goals (go_wp2_with fail; go_meet)
    all_goals exact ⟨rfl, HD.out⟩
  obtain ⟨rfl, hcb⟩ := hcut
  obtain ⟨v8, hv8⟩ : ∃ x, x = wc := ⟨_, rfl⟩
  subst hv8
  have SZ8 := Lib.hid hcb.size
  replace Xw := Lib.hid (Xw.out.below hcb Xw.out.size)
  replace Xb := Lib.hid (Xb.out.below hcb Xb.out.size)
  replace Xt := Lib.hid (Xt.out.below hcb Xt.out.size)
  replace Xg := Lib.hid (Xg.out.below hcb Xg.out.size)
  replace K0 := Lib.hid (K0.out.below hcb K0.out.lt)
  replace K1 := Lib.hid (K1.out.below hcb K1.out.lt)
  replace Kw := Lib.hid (Kw.out.below hcb Kw.out.lt)
  replace KX0 := Lib.hid (KX0.out.below hcb KX0.out.lt)
  replace KX1 := Lib.hid (KX1.out.below hcb KX1.out.lt)
  replace Kg := Lib.hid (Kg.out.below hcb Kg.out.lt)
  replace HT := Lib.hid (HT.out.trans (hcb.mono HT.out.size))
  clear hcb HS HD
  have zzKX0_0 := KX0.out.cell 0 rfl
  go_wp2_with fail
  refine (markCyc _ y0 1 v2.heap.size v3.heap.size _ Xb.out (by have := HTOT.out; omega)).mono ?_
  rintro e v9 ⟨rfl, wm, bm, ho⟩
  have SZ9 := Lib.hid (Nat.le_trans bm.size ho.size)
  clear Xb
  replace Xw := Lib.hid (Xw.out.below bm Xw.out.size)
  replace Xt := Lib.hid (Xt.out.below bm Xt.out.size)
  replace Xg := Lib.hid (Xg.out.below bm Xg.out.size)
  replace K0 := Lib.hid (K0.out.below bm K0.out.lt)
  replace K1 := Lib.hid (K1.out.below bm K1.out.lt)
  replace Kw := Lib.hid (Kw.out.below bm Kw.out.lt)
  replace KX0 := Lib.hid (KX0.out.below bm KX0.out.lt)
  replace KX1 := Lib.hid (KX1.out.below bm KX1.out.lt)
  replace Kg := Lib.hid (Kg.out.below bm Kg.out.lt)
  replace HT := Lib.hid (HT.out.trans (bm.mono HT.out.size))
  clear bm
  replace Xw := Lib.hid (Xw.out.onlyQ ho (fun b h1 h2 h3 => by have := HB0.out.size; have := HLT0.out; have := HLV0.out; have := SZ2.out; have := HBw.out; have := SZ3.out; have := SZKX0.out; have := SZ4.out; have := SZKX1.out; have := SZ5.out; have := SZKg.out; have := SZ6.out; have := SZ7.out; have := SZ8.out; have := SZ9.out; omega))
  replace Xt := Lib.hid (Xt.out.onlyQ ho (fun b h1 h2 h3 => by have := HB0.out.size; have := HLT0.out; have := HLV0.out; have := SZ2.out; have := HBw.out; have := SZ3.out; have := SZKX0.out; have := SZ4.out; have := SZKX1.out; have := SZ5.out; have := SZKg.out; have := SZ6.out; have := SZ7.out; have := SZ8.out; have := SZ9.out; omega))
  replace Xg := Lib.hid (Xg.out.onlyQ ho (fun b h1 h2 h3 => by have := HB0.out.size; have := HLT0.out; have := HLV0.out; have := SZ2.out; have := HBw.out; have := SZ3.out; have := SZKX0.out; have := SZ4.out; have := SZKX1.out; have := SZ5.out; have := SZKg.out; have := SZ6.out; have := SZ7.out; have := SZ8.out; have := SZ9.out; omega))
  replace K0 := Lib.hid (show Cels _ _ _ _ from ho.kept K0.out (fun h3 => by have := K0.out.lt; have := HB0.out.size; have := HLT0.out; have := HLV0.out; have := SZ2.out; have := HBw.out; have := SZ3.out; have := SZKX0.out; have := SZ4.out; have := SZKX1.out; have := SZ5.out; have := SZKg.out; have := SZ6.out; have := SZ7.out; have := SZ8.out; have := SZ9.out; omega))
  replace K1 := Lib.hid (show Cels _ _ _ _ from ho.kept K1.out (fun h3 => by have := K1.out.lt; have := HB0.out.size; have := HLT0.out; have := HLV0.out; have := SZ2.out; have := HBw.out; have := SZ3.out; have := SZKX0.out; have := SZ4.out; have := SZKX1.out; have := SZ5.out; have := SZKg.out; have := SZ6.out; have := SZ7.out; have := SZ8.out; have := SZ9.out; omega))
  replace Kw := Lib.hid (show Cels _ _ _ _ from ho.kept Kw.out (fun h3 => by have := Kw.out.lt; have := HB0.out.size; have := HLT0.out; have := HLV0.out; have := SZ2.out; have := HBw.out; have := SZ3.out; have := SZKX0.out; have := SZ4.out; have := SZKX1.out; have := SZ5.out; have := SZKg.out; have := SZ6.out; have := SZ7.out; have := SZ8.out; have := SZ9.out; omega))
  replace KX0 := Lib.hid (show Cels _ _ _ _ from ho.kept KX0.out (fun h3 => by have := KX0.out.lt; have := HB0.out.size; have := HLT0.out; have := HLV0.out; have := SZ2.out; have := HBw.out; have := SZ3.out; have := SZKX0.out; have := SZ4.out; have := SZKX1.out; have := SZ5.out; have := SZKg.out; have := SZ6.out; have := SZ7.out; have := SZ8.out; have := SZ9.out; omega))
  replace KX1 := Lib.hid (show Cels _ _ _ _ from ho.kept KX1.out (fun h3 => by have := KX1.out.lt; have := HB0.out.size; have := HLT0.out; have := HLV0.out; have := SZ2.out; have := HBw.out; have := SZ3.out; have := SZKX0.out; have := SZ4.out; have := SZKX1.out; have := SZ5.out; have := SZKg.out; have := SZ6.out; have := SZ7.out; have := SZ8.out; have := SZ9.out; omega))
  replace Kg := Lib.hid (show Cels _ _ _ _ from ho.kept Kg.out (fun h3 => by have := Kg.out.lt; have := HB0.out.size; have := HLT0.out; have := HLV0.out; have := SZ2.out; have := HBw.out; have := SZ3.out; have := SZKX0.out; have := SZ4.out; have := SZKX1.out; have := SZ5.out; have := SZKg.out; have := SZ6.out; have := SZ7.out; have := SZ8.out; have := SZ9.out; omega))
  replace HT := Lib.hid (HT.out.trans (ho.below (fun b h3 => by have := HB0.out.size; have := HLT0.out; have := HLV0.out; have := SZ2.out; have := HBw.out; have := SZ3.out; have := SZKX0.out; have := SZ4.out; have := SZKX1.out; have := SZ5.out; have := SZKg.out; have := SZ6.out; have := SZ7.out; have := SZ8.out; have := SZ9.out; omega) HT.out.size))
  clear ho
  obtain ⟨k1, hk1⟩ : ∃ k, k = 1 + tot y0 := ⟨_, rfl⟩
  have HK1 : Hid (k1 ≤ 100000000) := Lib.hid (by rw [hk1]; have := HTOT.out; omega)
  rw [← hk1]
  clear hk1
  clear zzKX0_0
  have zzKX1_0 := KX1.out.cell 0 rfl
  have zzKX1_1 := KX1.out.cell 1 rfl
  go_wp2_with fail
  refine (markTrn i1_0 _ x1 (k1 : Int) (v3.alloc (Obj.cells #[Value.slice gab y0.length gcb] 44)).heap.size v4.heap.size _ Xt.out (by omega) (by have := HK1.out; omega)).mono ?_
  rintro e v10 ⟨rfl, oo, hg⟩
  have ho : Only (fun b => (v3.alloc (Obj.cells #[Value.slice gab y0.length gcb] 44)).heap.size ≤ b ∧ b < v4.heap.size) v9 v10 := ⟨hg.os, hg.tape, hg.output, hg.size, fun b hb hn => hg.block b hb (fun e => hn ⟨(Xt.out.row.lt b e.symm).1, Xt.out.top b e.symm⟩)⟩
  have SZ10 := Lib.hid hg.size
  replace Xw := Lib.hid (Xw.out.onlyQ ho (fun b h1 h2 h3 => by have := HB0.out.size; have := HLT0.out; have := HLV0.out; have := SZ2.out; have := HBw.out; have := SZ3.out; have := SZKX0.out; have := SZ4.out; have := SZKX1.out; have := SZ5.out; have := SZKg.out; have := SZ6.out; have := SZ7.out; have := SZ8.out; have := SZ9.out; have := SZ10.out; omega))
  replace Xg := Lib.hid (Xg.out.onlyQ ho (fun b h1 h2 h3 => by have := HB0.out.size; have := HLT0.out; have := HLV0.out; have := SZ2.out; have := HBw.out; have := SZ3.out; have := SZKX0.out; have := SZ4.out; have := SZKX1.out; have := SZ5.out; have := SZKg.out; have := SZ6.out; have := SZ7.out; have := SZ8.out; have := SZ9.out; have := SZ10.out; omega))
  replace K0 := Lib.hid (show Cels _ _ _ _ from ho.kept K0.out (fun h3 => by have := K0.out.lt; have := HB0.out.size; have := HLT0.out; have := HLV0.out; have := SZ2.out; have := HBw.out; have := SZ3.out; have := SZKX0.out; have := SZ4.out; have := SZKX1.out; have := SZ5.out; have := SZKg.out; have := SZ6.out; have := SZ7.out; have := SZ8.out; have := SZ9.out; have := SZ10.out; omega))
  replace K1 := Lib.hid (show Cels _ _ _ _ from ho.kept K1.out (fun h3 => by have := K1.out.lt; have := HB0.out.size; have := HLT0.out; have := HLV0.out; have := SZ2.out; have := HBw.out; have := SZ3.out; have := SZKX0.out; have := SZ4.out; have := SZKX1.out; have := SZ5.out; have := SZKg.out; have := SZ6.out; have := SZ7.out; have := SZ8.out; have := SZ9.out; have := SZ10.out; omega))
  replace Kw := Lib.hid (show Cels _ _ _ _ from ho.kept Kw.out (fun h3 => by have := Kw.out.lt; have := HB0.out.size; have := HLT0.out; have := HLV0.out; have := SZ2.out; have := HBw.out; have := SZ3.out; have := SZKX0.out; have := SZ4.out; have := SZKX1.out; have := SZ5.out; have := SZKg.out; have := SZ6.out; have := SZ7.out; have := SZ8.out; have := SZ9.out; have := SZ10.out; omega))
  replace KX0 := Lib.hid (show Cels _ _ _ _ from ho.kept KX0.out (fun h3 => by have := KX0.out.lt; have := HB0.out.size; have := HLT0.out; have := HLV0.out; have := SZ2.out; have := HBw.out; have := SZ3.out; have := SZKX0.out; have := SZ4.out; have := SZKX1.out; have := SZ5.out; have := SZKg.out; have := SZ6.out; have := SZ7.out; have := SZ8.out; have := SZ9.out; have := SZ10.out; omega))
  replace KX1 := Lib.hid (show Cels _ _ _ _ from ho.kept KX1.out (fun h3 => by have := KX1.out.lt; have := HB0.out.size; have := HLT0.out; have := HLV0.out; have := SZ2.out; have := HBw.out; have := SZ3.out; have := SZKX0.out; have := SZ4.out; have := SZKX1.out; have := SZ5.out; have := SZKg.out; have := SZ6.out; have := SZ7.out; have := SZ8.out; have := SZ9.out; have := SZ10.out; omega))
  replace Kg := Lib.hid (show Cels _ _ _ _ from ho.kept Kg.out (fun h3 => by have := Kg.out.lt; have := HB0.out.size; have := HLT0.out; have := HLV0.out; have := SZ2.out; have := HBw.out; have := SZ3.out; have := SZKX0.out; have := SZ4.out; have := SZKX1.out; have := SZ5.out; have := SZKg.out; have := SZ6.out; have := SZ7.out; have := SZ8.out; have := SZ9.out; have := SZ10.out; omega))
  replace HT := Lib.hid (HT.out.trans (ho.below (fun b h3 => by have := HB0.out.size; have := HLT0.out; have := HLV0.out; have := SZ2.out; have := HBw.out; have := SZ3.out; have := SZKX0.out; have := SZ4.out; have := SZKX1.out; have := SZ5.out; have := SZKg.out; have := SZ6.out; have := SZ7.out; have := SZ8.out; have := SZ9.out; have := SZ10.out; omega) HT.out.size))
  replace Xt := Lib.hid oo
  clear hg ho oo
  have hkn : ¬ ((k1 : Int) + (x1.length : Int) < 0) := by omega
  clear zzKX1_0 zzKX1_1
  have zzKg_0 := Kg.out.cell 0 rfl
  have zzKg_1 := Kg.out.cell 1 rfl
  have zzKw_0 := Kw.out.cell 0 rfl
  have zzKw_1 := Kw.out.cell 1 rfl
  go_wp2_with fail
  refine (eqTrn (ryR y0 i1_0 x1 a2).at' _ _ (ryR y0 i1_0 x1 a2).cs _ Xg.out.rd Xw.out.rd).mono ?_
  rintro e v11 ⟨rfl, b11⟩
  have SZ11 := Lib.hid b11.size
  replace Xw := Lib.hid (Xw.out.below b11 Xw.out.size)
  replace Xt := Lib.hid (Xt.out.below b11 Xt.out.size)
  replace Xg := Lib.hid (Xg.out.below b11 Xg.out.size)
  replace K0 := Lib.hid (K0.out.below b11 K0.out.lt)
  replace K1 := Lib.hid (K1.out.below b11 K1.out.lt)
  replace Kw := Lib.hid (Kw.out.below b11 Kw.out.lt)
  replace KX0 := Lib.hid (KX0.out.below b11 KX0.out.lt)
  replace KX1 := Lib.hid (KX1.out.below b11 KX1.out.lt)
  replace Kg := Lib.hid (Kg.out.below b11 Kg.out.lt)
  replace HT := Lib.hid (HT.out.trans (b11.mono HT.out.size))
  clear b11
  have HLG := Lib.hid Xg.out.len
  obtain ⟨RW, hRW⟩ : ∃ R, R = (ryR y0 i1_0 x1 a2).cs := ⟨_, rfl⟩
  have HRW := Lib.hid hRW
  rw [← hRW] at Xg Xw HLG Kg Kw ⊢
  clear hRW
  clear zzKg_0 zzKg_1 zzKw_0 zzKw_1
  have zzKg_0 := Kg.out.cell 0 rfl
  have zzKg_1 := Kg.out.cell 1 rfl
  go_wp2_with fail
  refine (markTrn (ryR y0 i1_0 x1 a2).at' _ RW 1 (v4.alloc (Obj.cells #[Value.int IntKind.i64 i1_0, Value.slice gat x1.length gct] 41)).heap.size v5.heap.size _ Xg.out (by omega) (by have := HK1.out; omega)).mono ?_
  rintro e v12 ⟨rfl, oo, hg⟩
  have ho : Only (fun b => (v4.alloc (Obj.cells #[Value.int IntKind.i64 i1_0, Value.slice gat x1.length gct] 41)).heap.size ≤ b ∧ b < v5.heap.size) v11 v12 := ⟨hg.os, hg.tape, hg.output, hg.size, fun b hb hn => hg.block b hb (fun e => hn ⟨(Xg.out.row.lt b e.symm).1, Xg.out.top b e.symm⟩)⟩
  have SZ12 := Lib.hid hg.size
  replace Xw := Lib.hid (Xw.out.onlyQ ho (fun b h1 h2 h3 => by have := HB0.out.size; have := HLT0.out; have := HLV0.out; have := SZ2.out; have := HBw.out; have := SZ3.out; have := SZKX0.out; have := SZ4.out; have := SZKX1.out; have := SZ5.out; have := SZKg.out; have := SZ6.out; have := SZ7.out; have := SZ8.out; have := SZ9.out; have := SZ10.out; have := SZ11.out; have := SZ12.out; omega))
  replace Xt := Lib.hid (Xt.out.onlyQ ho (fun b h1 h2 h3 => by have := HB0.out.size; have := HLT0.out; have := HLV0.out; have := SZ2.out; have := HBw.out; have := SZ3.out; have := SZKX0.out; have := SZ4.out; have := SZKX1.out; have := SZ5.out; have := SZKg.out; have := SZ6.out; have := SZ7.out; have := SZ8.out; have := SZ9.out; have := SZ10.out; have := SZ11.out; have := SZ12.out; omega))
  replace K0 := Lib.hid (show Cels _ _ _ _ from ho.kept K0.out (fun h3 => by have := K0.out.lt; have := HB0.out.size; have := HLT0.out; have := HLV0.out; have := SZ2.out; have := HBw.out; have := SZ3.out; have := SZKX0.out; have := SZ4.out; have := SZKX1.out; have := SZ5.out; have := SZKg.out; have := SZ6.out; have := SZ7.out; have := SZ8.out; have := SZ9.out; have := SZ10.out; have := SZ11.out; have := SZ12.out; omega))
  replace K1 := Lib.hid (show Cels _ _ _ _ from ho.kept K1.out (fun h3 => by have := K1.out.lt; have := HB0.out.size; have := HLT0.out; have := HLV0.out; have := SZ2.out; have := HBw.out; have := SZ3.out; have := SZKX0.out; have := SZ4.out; have := SZKX1.out; have := SZ5.out; have := SZKg.out; have := SZ6.out; have := SZ7.out; have := SZ8.out; have := SZ9.out; have := SZ10.out; have := SZ11.out; have := SZ12.out; omega))
  replace Kw := Lib.hid (show Cels _ _ _ _ from ho.kept Kw.out (fun h3 => by have := Kw.out.lt; have := HB0.out.size; have := HLT0.out; have := HLV0.out; have := SZ2.out; have := HBw.out; have := SZ3.out; have := SZKX0.out; have := SZ4.out; have := SZKX1.out; have := SZ5.out; have := SZKg.out; have := SZ6.out; have := SZ7.out; have := SZ8.out; have := SZ9.out; have := SZ10.out; have := SZ11.out; have := SZ12.out; omega))
  replace KX0 := Lib.hid (show Cels _ _ _ _ from ho.kept KX0.out (fun h3 => by have := KX0.out.lt; have := HB0.out.size; have := HLT0.out; have := HLV0.out; have := SZ2.out; have := HBw.out; have := SZ3.out; have := SZKX0.out; have := SZ4.out; have := SZKX1.out; have := SZ5.out; have := SZKg.out; have := SZ6.out; have := SZ7.out; have := SZ8.out; have := SZ9.out; have := SZ10.out; have := SZ11.out; have := SZ12.out; omega))
  replace KX1 := Lib.hid (show Cels _ _ _ _ from ho.kept KX1.out (fun h3 => by have := KX1.out.lt; have := HB0.out.size; have := HLT0.out; have := HLV0.out; have := SZ2.out; have := HBw.out; have := SZ3.out; have := SZKX0.out; have := SZ4.out; have := SZKX1.out; have := SZ5.out; have := SZKg.out; have := SZ6.out; have := SZ7.out; have := SZ8.out; have := SZ9.out; have := SZ10.out; have := SZ11.out; have := SZ12.out; omega))
  replace Kg := Lib.hid (show Cels _ _ _ _ from ho.kept Kg.out (fun h3 => by have := Kg.out.lt; have := HB0.out.size; have := HLT0.out; have := HLV0.out; have := SZ2.out; have := HBw.out; have := SZ3.out; have := SZKX0.out; have := SZ4.out; have := SZKX1.out; have := SZ5.out; have := SZKg.out; have := SZ6.out; have := SZ7.out; have := SZ8.out; have := SZ9.out; have := SZ10.out; have := SZ11.out; have := SZ12.out; omega))
  replace HT := Lib.hid (HT.out.trans (ho.below (fun b h3 => by have := HB0.out.size; have := HLT0.out; have := HLV0.out; have := SZ2.out; have := HBw.out; have := SZ3.out; have := SZKX0.out; have := SZ4.out; have := SZKX1.out; have := SZ5.out; have := SZKg.out; have := SZ6.out; have := SZ7.out; have := SZ8.out; have := SZ9.out; have := SZ10.out; have := SZ11.out; have := SZ12.out; omega) HT.out.size))
  replace Xg := Lib.hid oo
  clear hg ho oo
  have hn1 : ¬ ((1 : Int) + (RW.length : Int) < 0) := by omega
  have HLM : Hid (RW.length ≤ 16777216) := Lib.hid (by have := HLG.out; omega)
  have HMR : Hid (Rd v12 (.slice gag RW.length gcg) (marks 1 RW.length)) := Lib.hid Xg.out.rd
  clear HMR
  clear zzKg_0 zzKg_1
  have zzKg_0 := Kg.out.cell 0 rfl
  have zzKg_1 := Kg.out.cell 1 rfl
  go_wp2_with fail
  refine (heldTrn (ryR y0 i1_0 x1 a2).at' _ RW.length 1 _ Xg.out.rd (by omega) (by omega) HLM.out).mono ?_
  rintro e v13 ⟨rfl, b13⟩
  have SZ13 := Lib.hid b13.size
  replace Xw := Lib.hid (Xw.out.below b13 Xw.out.size)
  replace Xt := Lib.hid (Xt.out.below b13 Xt.out.size)
  replace Xg := Lib.hid (Xg.out.below b13 Xg.out.size)
  replace K0 := Lib.hid (K0.out.below b13 K0.out.lt)
  replace K1 := Lib.hid (K1.out.below b13 K1.out.lt)
  replace Kw := Lib.hid (Kw.out.below b13 Kw.out.lt)
  replace KX0 := Lib.hid (KX0.out.below b13 KX0.out.lt)
  replace KX1 := Lib.hid (KX1.out.below b13 KX1.out.lt)
  replace Kg := Lib.hid (Kg.out.below b13 Kg.out.lt)
  replace HT := Lib.hid (HT.out.trans (b13.mono HT.out.size))
  clear b13
  have hn2 : ¬ ((1 : Int) + (RW.length : Int) < 0) := by omega
  have HCALL : Hid (∀ (va vb : Value) (W : World), RdL W va y0 → Rd W vb x1 → EtV W → Calls Tryd.prog 29 #[.agg #[va], .agg #[.int .i64 i1_0, vb], .int .i64 a2] W fun e w' => ∃ u, e = .returned (.tuple #[.agg #[.int .i64 (ryR y0 i1_0 x1 a2).at', u], .int .i64 (ryR y0 i1_0 x1 a2).n, .bool (ryR y0 i1_0 x1 a2).h, .int .i64 (ryR y0 i1_0 x1 a2).code]) ∧ Ow w' W.heap.size w'.heap.size u RW ∧ Below W.heap.size W w') := Lib.hid (fun va vb W h1 h2 h3 => by rw [HRW.out]; exact implRunCycL va y0 i1_0 vb x1 a2 W h1 h2 h3)
  clear zzKg_0 zzKg_1
  go_upto_region 31 with fail
  go_cut [21, 22, 23, 24] (fun s21 s22 s23 s24 wx => ∃ (bh : Nat) (uh : Value), s21 = .pointer (some ⟨bh, 0, none⟩) ∧ s22 = .int .i64 (ryR y0 i1_0 x1 a2).n ∧ s23 = .bool (ryR y0 i1_0 x1 a2).h ∧ s24 = .int .i64 (ryR y0 i1_0 x1 a2).code ∧ Below v13.heap.size v13 wx ∧ v13.heap.size ≤ bh ∧ Cels wx bh 41 [.int .i64 (ryR y0 i1_0 x1 a2).at', uh] ∧ Ow wx v13.heap.size wx.heap.size uh RW)
  case first =>
    have HS : Hid (∀ W', Below v13.heap.size v13 W' → W'.cell? ⟨w.heap.size, 0, none⟩ = some (.slice a0_0 len0_0 cap0_0) ∧ W'.cell? ⟨w.heap.size + 1, 0, none⟩ = some (.int .i64 i1_0) ∧ W'.cell? ⟨w.heap.size + 1, 1, none⟩ = some (.slice a1_0 len1_0 cap1_0)) := Lib.hid (fun W' hW' => ⟨(K0.out.below hW' K0.out.lt).cell 0 rfl, (K1.out.below hW' K1.out.lt).cell 0 rfl, (K1.out.below hW' K1.out.lt).cell 1 rfl⟩)
    have HD : Hid (Below v13.heap.size v13 v13.drew) := Lib.hid (Below.refl _ _).drew
    go_region_held3 (fun w' => w'.cell? ⟨w.heap.size, 0, none⟩ = some (.slice a0_0 len0_0 cap0_0) ∧ w'.cell? ⟨w.heap.size + 1, 0, none⟩ = some (.int .i64 i1_0) ∧ w'.cell? ⟨w.heap.size + 1, 1, none⟩ = some (.slice a1_0 len1_0 cap1_0)) (first | exact HS.out _ HD.out | exact HS.out _ (HD.out.alloc HD.out.size _) | exact HS.out _ (((Below.refl _ _).alloc (Nat.le_refl _) _).drew) | exact HS.out _ (below_set (below_set HD.out HZb.out _ _) HZb.out _ _) | exact HS.out _ (below_set (below_set (HD.out.alloc HD.out.size _) HD.out.size _ _) HD.out.size _ _)) (first | (go_at_call 20; with_reducible refine (toCycT _ y0 _ (by first | exact R0.out.below (HT.out.trans (HD.out.mono HT.out.size)) (Nat.le_refl _) | exact R0.out.below (HT.out.trans ((HD.out.alloc HD.out.size _).mono HT.out.size)) (Nat.le_refl _) | exact R0.out.below (HT.out.trans ((((Below.refl _ _).alloc (Nat.le_refl _) _).drew).mono HT.out.size)) (Nat.le_refl _))).mono ?_; rintro e w7 ⟨uc, rfl, oc, bq⟩; (try (with_reducible have KZ := Lib.hid (cels_pre bq); have HZb := Lib.hid HD.out.size)); (try (with_reducible have KZ := Lib.hid (cels_preD bq); have HZb := Lib.hid (Nat.le_refl v13.heap.size))); (try with_reducible replace bq := below_pre bq); (try with_reducible replace bq := below_preD bq); (try replace KZ := Lib.hid (KZ.out.below bq KZ.out.lt)); (try (with_reducible replace Xt := Lib.hid (Xt.out.below bq (Nat.le_refl _)))); obtain ⟨gac, gcc, huc⟩ := oc.shape; subst huc; have Xc := Lib.hid oc.rdl; clear oc; replace HD := Lib.hid (HD.out.trans (bq.mono HD.out.size)); clear bq) | (go_at_call 21; with_reducible refine (toTrn i1_0 _ x1 _ (by first | exact Q1.out.below (HT.out.trans (HD.out.mono HT.out.size)) (Nat.le_refl _) | exact Q1.out.below (HT.out.trans ((HD.out.alloc HD.out.size _).mono HT.out.size)) (Nat.le_refl _) | exact Q1.out.below (HT.out.trans ((((Below.refl _ _).alloc (Nat.le_refl _) _).drew).mono HT.out.size)) (Nat.le_refl _))).mono ?_; rintro e w7 ⟨ut, rfl, ot, bq⟩; (try (with_reducible have KZ := Lib.hid (cels_pre bq); have HZb := Lib.hid HD.out.size)); (try (with_reducible have KZ := Lib.hid (cels_preD bq); have HZb := Lib.hid (Nat.le_refl v13.heap.size))); (try with_reducible replace bq := below_pre bq); (try with_reducible replace bq := below_preD bq); (try replace KZ := Lib.hid (KZ.out.below bq KZ.out.lt)); (try (with_reducible replace Xc := Lib.hid (Xc.out.below bq (Nat.le_refl _)))); obtain ⟨gat, gct, hut⟩ := ot.shape; subst hut; have Xt := Lib.hid ot.rd; clear ot; replace HD := Lib.hid (HD.out.trans (bq.mono HD.out.size)); clear bq) | (go_at_call 29; with_reducible refine (HCALL.out _ _ _ (by first | exact Xc.out | exact Xc.out.below ((Below.refl _ _).alloc (Nat.le_refl _) _) (Nat.le_refl _)) (by first | exact Xt.out | exact Xt.out.below ((Below.refl _ _).alloc (Nat.le_refl _) _) (Nat.le_refl _)) (by first | exact HN.out.below (HT.out.trans (HD.out.mono HT.out.size)) (Nat.le_refl _) | exact HN.out.below (HT.out.trans ((HD.out.alloc HD.out.size _).mono HT.out.size)) (Nat.le_refl _) | exact HN.out.below (HT.out.trans ((((Below.refl _ _).alloc (Nat.le_refl _) _).drew).mono HT.out.size)) (Nat.le_refl _))).mono ?_; rintro e w7 ⟨ur, rfl, or, bq⟩; (try (with_reducible have KZ := Lib.hid (cels_pre bq); have HZb := Lib.hid HD.out.size)); (try (with_reducible have KZ := Lib.hid (cels_preD bq); have HZb := Lib.hid (Nat.le_refl v13.heap.size))); have Xr := Lib.hid (or.mono (by first | exact HD.out.size | exact (HD.out.alloc HD.out.size _).size | exact (((Below.refl _ _).alloc (Nat.le_refl _) _).drew).size : v13.heap.size ≤ _) (Nat.le_refl _) (Nat.le_refl _)); (try with_reducible replace bq := below_pre bq); (try with_reducible replace bq := below_preD bq); (try replace KZ := Lib.hid (KZ.out.below bq KZ.out.lt)); obtain ⟨gar, gcr, hur⟩ := or.shape; subst hur; clear or; replace HD := Lib.hid (HD.out.trans (bq.mono HD.out.size)); clear bq; (try (have HF := Lib.hid (put2y KZ.out (.int .i64 (ryR y0 i1_0 x1 a2).at') (.slice gar RW.length gcr)); obtain ⟨f1, f2, f3, f4, f7⟩ := HF.out; have HF7 := Lib.hid f7; clear f7))))
    all_goals (go_wp2_with fail; go_meet)
    all_goals first | exact ⟨_, _, rfl, rfl, rfl, rfl, below_set (below_set HD.out HZb.out _ _) HZb.out _ _, HZb.out, HF7.out, (Xr.out.grown (put2yg KZ.out _ _) (Or.inr (Xr.out.nblk KZ.out (by decide)))).up⟩ | exact ⟨_, _, rfl, rfl, rfl, rfl, HD.out.alloc HD.out.size _, HD.out.size, Cels.new _ _ _, (Xr.out.below ((Below.refl _ _).alloc (Nat.le_refl _) _) Xr.out.size).up⟩
  obtain ⟨bh, uh, rfl, rfl, rfl, rfl, bq, hbh, hKh, oh⟩ := hcut
  obtain ⟨v14, hv14⟩ : ∃ x, x = wc := ⟨_, rfl⟩
  subst hv14
  have SZ14 := Lib.hid bq.size
  replace Xw := Lib.hid (Xw.out.below bq Xw.out.size)
  replace Xt := Lib.hid (Xt.out.below bq Xt.out.size)
  replace Xg := Lib.hid (Xg.out.below bq Xg.out.size)
  replace K0 := Lib.hid (K0.out.below bq K0.out.lt)
  replace K1 := Lib.hid (K1.out.below bq K1.out.lt)
  replace Kw := Lib.hid (Kw.out.below bq Kw.out.lt)
  replace KX0 := Lib.hid (KX0.out.below bq KX0.out.lt)
  replace KX1 := Lib.hid (KX1.out.below bq KX1.out.lt)
  replace Kg := Lib.hid (Kg.out.below bq Kg.out.lt)
  replace HT := Lib.hid (HT.out.trans (bq.mono HT.out.size))
  clear bq
  obtain ⟨gah, gch, huh⟩ := oh.shape
  subst huh
  have Xh := Lib.hid oh
  have Kh := Lib.hid hKh
  clear oh hKh
  have HBh := Lib.hid (And.intro hbh Kh.out.lt)
  clear hbh
  have zzKh_0 := Kh.out.cell 0 rfl
  have zzKh_1 := Kh.out.cell 1 rfl
  have zzKw_0 := Kw.out.cell 0 rfl
  have zzKw_1 := Kw.out.cell 1 rfl
  go_wp2_with fail
  refine (eqTrn (ryR y0 i1_0 x1 a2).at' _ _ RW _ Xh.out.rd Xw.out.rd).mono ?_
  rintro e v15 ⟨rfl, b15⟩
  have SZ15 := Lib.hid b15.size
  replace Xw := Lib.hid (Xw.out.below b15 Xw.out.size)
  replace Xt := Lib.hid (Xt.out.below b15 Xt.out.size)
  replace Xg := Lib.hid (Xg.out.below b15 Xg.out.size)
  replace Xh := Lib.hid (Xh.out.below b15 Xh.out.size)
  replace K0 := Lib.hid (K0.out.below b15 K0.out.lt)
  replace K1 := Lib.hid (K1.out.below b15 K1.out.lt)
  replace Kw := Lib.hid (Kw.out.below b15 Kw.out.lt)
  replace KX0 := Lib.hid (KX0.out.below b15 KX0.out.lt)
  replace KX1 := Lib.hid (KX1.out.below b15 KX1.out.lt)
  replace Kg := Lib.hid (Kg.out.below b15 Kg.out.lt)
  replace Kh := Lib.hid (Kh.out.below b15 Kh.out.lt)
  replace HT := Lib.hid (HT.out.trans (b15.mono HT.out.size))
  clear b15
  clear zzKh_0 zzKh_1 zzKw_0 zzKw_1
  have zzKg_0 := Kg.out.cell 0 rfl
  have zzKg_1 := Kg.out.cell 1 rfl
  go_wp2_with fail
  refine (heldTrn (ryR y0 i1_0 x1 a2).at' _ RW.length 1 _ Xg.out.rd (by omega) (by omega) HLM.out).mono ?_
  rintro e v16 ⟨rfl, b16⟩
  have SZ16 := Lib.hid b16.size
  replace Xw := Lib.hid (Xw.out.below b16 Xw.out.size)
  replace Xt := Lib.hid (Xt.out.below b16 Xt.out.size)
  replace Xg := Lib.hid (Xg.out.below b16 Xg.out.size)
  replace Xh := Lib.hid (Xh.out.below b16 Xh.out.size)
  replace K0 := Lib.hid (K0.out.below b16 K0.out.lt)
  replace K1 := Lib.hid (K1.out.below b16 K1.out.lt)
  replace Kw := Lib.hid (Kw.out.below b16 Kw.out.lt)
  replace KX0 := Lib.hid (KX0.out.below b16 KX0.out.lt)
  replace KX1 := Lib.hid (KX1.out.below b16 KX1.out.lt)
  replace Kg := Lib.hid (Kg.out.below b16 Kg.out.lt)
  replace Kh := Lib.hid (Kh.out.below b16 Kh.out.lt)
  replace HT := Lib.hid (HT.out.trans (b16.mono HT.out.size))
  clear b16
  go_wp2
  go_ret
  exact ⟨rfl, HB0.out.trans (HT.out.mono HB0.out.size)⟩

noncomputable def laidWorld (os : Os) : World :=
  let w0 := World.holding Tryd.prog os ⟨#[], #[], []⟩
  { w0 with heap := w0.heap.modify 0 fun
      | .cells _ t frozen => .cells #[.iface 226 (.agg #[.pointer (some ⟨1, 114, none⟩)])] t frozen
      | o => o }
theorem laidWorld_met (os : Os) (args : Array Value) : laidMetH Tryd.prog Rows.fnExactRunCyclicRow.laid ((laidWorld os).forCall (fun _ _ => 0) ⟨#[], args, []⟩).memory :=
  laidMetH_of_parts (laidMet_nil _ _) (by kernel_rfl)

set_option maxRecDepth 100000 in
theorem lifted (os : Os) (started : os.Started) (H : Type) (enc : TypeId × Value → H) :
    ReturnsInHanded {} Tryd.checked os 5 .any (fun w args => (Rows.fnExactRunCyclicSpec.pre enc Tryd.prog Tryd.f5 [] false w args ∧ laidMetH Tryd.prog Rows.fnExactRunCyclicRow.laid w) ∧ sizedMet enc Tryd.prog Tryd.f5 (OpenSpec.ofChange Rows.fnExactRunCyclicSpec) false w args) (Rows.fnExactRunCyclicSpec.post enc Tryd.prog Tryd.f5 false true false false) := by
  refine returnsInHanded_of_change_and (C := Tryd.checked) (X := fun w _ => laidMetH Tryd.prog Rows.fnExactRunCyclicRow.laid w) (fun _ _ _ hh h => h.of_heap hh) own started (by kernel_rfl) Tryd.func5
    (ChangeSpec.witness_at (enc := enc) (C := Tryd.checked) (os := os) (X := fun w _ => laidMetH Tryd.prog Rows.fnExactRunCyclicRow.laid w) false (laidWorld os) #[.agg #[.slice none 0 0], .agg #[.int .i64 0, .slice none 0 0], .int .i64 0] 8 rfl (by kernel_rfl) (by kernel_rfl) (by kernel_rfl) (by kernel_rfl) (by kernel_rfl) (laidWorld_met os _)) ?_
  intro W base args ds gs before hval0 hW _ _ hL _
  have hval : ∀ (j : Nat) t v, Tryd.f5.params[j]? = some t → args[j]? = some v → Value.okWide Tryd.prog W .any base t v := hval0
  have hW' := hW
  obtain ⟨p, q, hA0, hV, rfl, hfz, hnd⟩ := hW
  have hA : DataW.TrodAll enc Tryd.prog W 0 (fun _ => true) true Tryd.f5.params.toList args.toList ds p := hA0
  rw [Tryd.params5] at hA hval
  obtain ⟨v0, vs0, d0, ds0, p0, q0, hargs, rfl, rfl, h0, r0⟩ := trodAll_cons hA
  obtain ⟨v1, vs1, d1, ds1, p1, q1, rfl, rfl, rfl, h1, r1⟩ := trodAll_cons r0
  obtain ⟨v2, vs2, d2, ds2, p2, q2, rfl, rfl, rfl, h2, r2⟩ := trodAll_cons r1
  obtain ⟨rfl, rfl, rfl⟩ := trodAll_nil r2
  obtain rfl : args = #[v0, v1, v2] := by cases args; simp_all
  obtain ⟨rfl, rfl⟩ := trodVars_none hV
  have k0 := h0
  have lt0 : ∀ x ∈ p0, x.block < W.heap.size := by obtain ⟨m, hm⟩ := k0; exact DataW.trod_lt m _ _ _ hm
  obtain ⟨c0_0, y0_0, n0, rfl, _, _, t0_0⟩ := open_one Tryd.underlying36 (by kernel_rfl) (by kernel_rfl) (hval 0 36 v0 rfl rfl) h0
  obtain ⟨a0_0, len0_0, cap0_0, z0_0, e0_0, w0_0⟩ := open_lists t0_0
  simp only [List.cons.injEq, and_true] at e0_0
  subst e0_0
  have k1 := h1
  have lt1 : ∀ x ∈ p1, x.block < W.heap.size := by obtain ⟨m, hm⟩ := k1; exact DataW.trod_lt m _ _ _ hm
  obtain ⟨c1_0, c1_1, y1_0, y1_1, n1, rfl, _, _, t1_0, t1_1⟩ := Go.Joins.open_agg2 Tryd.underlying38 (by kernel_rfl) (by kernel_rfl) (hval 1 38 v1 rfl rfl) h1
  obtain ⟨i1_0, e1_0, _, j1_0⟩ := DataW.trod_int Tryd.underlying2 t1_0
  simp only [List.cons.injEq, and_true] at e1_0
  subst e1_0
  obtain ⟨a1_0, len1_0, cap1_0, z1_0, e1_0, w1_0⟩ := open_list t1_1
  simp only [List.cons.injEq, and_true] at e1_0
  subst e1_0
  obtain ⟨a2, rfl, rfl, rfl, w2⟩ := open_int Tryd.underlying2 (hval 2 2 v2 rfl rfl) h2
  clear hA0 hval0
  refine (walk a0_0 len0_0 cap0_0 z0_0 i1_0 a1_0 len1_0 cap1_0 z1_0 a2 W w0_0 j1_0 w1_0 w2 (etV_of_laid hL)).mono fun e W' ⟨he, bel⟩ => ?_
  subst he
  exact ⟨_, rfl, _, _, _, [], _, [], hW', trodAll_mk1 (shut_bool Tryd.underlying4 _), (trodAll_cons_mk (Below.trod laidOut (by kernel_rfl) (of_decide_eq_true (by kernel_rfl)) k0 bel lt0) (trodAll_cons_mk (Below.trod laidOut (by kernel_rfl) (of_decide_eq_true (by kernel_rfl)) k1 bel lt1) (trodAll_cons_mk (shut_int Tryd.underlying2 w2) trodAll_mk0))), rfl, bel.frame _, fun h => by cases h⟩

theorem over : Rows.fnExactRunCyclicRow.holds Tryd.pinned (OpenSpec.ofChange Rows.fnExactRunCyclicSpec) :=
  OpenClaim.holds_of_wide 5 Tryd.f5 rfl rfl rfl rfl rfl rfl rfl ⟨rfl, rfl, rfl, rfl, rfl⟩ rfl rfl rfl rfl rfl (by kernel_rfl) Tryd.func5 (by kernel_rfl)
    (of_decide_eq_true (by kernel_rfl)) (by unfold Func.isWrapper; first | (rw [if_pos (by decide +kernel)]; kernel_rfl) | (rw [if_neg (by decide +kernel)]; exact ⟨rfl, rfl⟩))
    (fun os started H enc _ => lifted os started H enc)

/-- The statement: the tied card. -/
theorem proved : Rows.FnExactRunCyclicCardSaid :=
  Claim7.holds_tied_plain_at .later [] [.handle] true (true, "c0fc20f790dd7a661bba9688d90c0549d2b2be9d4476f1098c010769c9aec365") true over (fun _ h => by cases h) (by kernel_rfl) (fun _ h => by cases h) fnExactRunCyclic_row_tie rfl ⟨rfl, rfl⟩ (by kernel_rfl) rfl
    (fun f fn hf hfn => by
      obtain rfl : f = 5 := Option.some.inj ((show Tryd.prog.funcNamed "loop.example/g01079/laws.FnExactRunCyclic" = some 5 by kernel_rfl).symm.trans hf) |>.symm
      obtain rfl : fn = Tryd.f5 := (Option.some.inj (Tryd.func5.symm.trans hfn)).symm
      exact ⟨by kernel_rfl, fun j t ht => by
        rw [Tryd.params5] at ht
        have hm : t ∈ [36, 38, 2] := by simpa using Array.mem_of_getElem? ht
        have hall : ([36, 38, 2].all fun u => !Tryd.prog.wantsStandIn u) = true := by kernel_rfl
        exact (show Tryd.prog.wantsStandIn t = false by simpa using List.all_eq_true.1 hall t hm)⟩)
    (by kernel_rfl)
#print axioms proved
end Go.Proofs.YtkjoakdepjpkhaaDoor.fnExactRunCyclic
