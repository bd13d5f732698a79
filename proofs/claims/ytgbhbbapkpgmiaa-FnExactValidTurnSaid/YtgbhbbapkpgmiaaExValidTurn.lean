/-   FnExactValidTurn: for every cyclic tag system and every turn the program's ValidTurn answers as its model, and leaves its arguments alone. No condition. -/
import Derived.Test.YtgbhbbapkpgmiaaRows
import Derived.WalkKit
import Derived.ProofKit
import Derived.OpenShut
import Derived.ShutString
import Derived.ChangeOld
import Derived.Below
import Derived.Lib.SmallJoins
import Derived.Deep.Strs
import Derived.OpenVars
import Derived.Handy
import Derived.Lib.Hide
import Derived.Deep.RegionHeld3
import Derived.Deep.DeepCutAuto
import Derived.Test.YtgbhbbapkpgmiaaTgV
import Derived.Test.YtgbhbbapkpgmiaaTgC
import Derived.Test.YtgbhbbapkpgmiaaTrn
namespace Go.Proofs.Ytgbhbbapkpgmiaa.fnExactValidTurn
open Go.ChangeShapes Go.WideShapes Go.ChangeAt Go.RowKit
set_option linter.unusedVariables false
set_option linter.unusedSimpArgs false

theorem own : ownKnob Try.prog.godebug = none := by kernel_rfl
theorem laidOut : laidOutB Try.prog = true := by kernel_rfl
open Ints

set_option maxRecDepth 100000 in
set_option maxHeartbeats 8000000 in
theorem walk (a0_0 : Option Addr) (len0_0 cap0_0 : Nat) (z0_0 : List Qin) (i1_0 : Int) (a1_0 : Option Addr) (len1_0 cap1_0 : Nat) (z1_0 : List Int) (w : World) (w0_0 : IsLists w a0_0 len0_0 cap0_0 z0_0) (j1_0 : (Lit.int .i64 i1_0).wf = true) (w1_0 : IsList w a1_0 len1_0 cap1_0 z1_0) :
    Calls Try.prog 5 #[.agg #[.slice a0_0 len0_0 cap0_0], .agg #[.int .i64 i1_0, .slice a1_0 len1_0 cap1_0]] w fun e w' => e = .returned (.bool true) ∧ Below w.heap.size w w' := by
  have hz1_0 := w1_0.le
  have HZ1 := Lib.hid hz1_0
  clear hz1_0
  obtain ⟨W0, hW0⟩ : ∃ x, x = ((w.alloc (Obj.cells #[.slice a0_0 len0_0 cap0_0] 33)).alloc (Obj.cells #[.int .i64 i1_0, .slice a1_0 len1_0 cap1_0] 41)) := ⟨_, rfl⟩
  have HB0 : Hid (Below w.heap.size w W0) := Lib.hid (by rw [hW0]; exact (((Below.refl w.heap.size w).alloc (Nat.le_refl _) _).alloc (by simp) _))
  have K0 : Hid (Cels W0 (w.heap.size) 33 [.slice a0_0 len0_0 cap0_0]) := Lib.hid (by rw [hW0]; have h := ((Cels.new w 33 [.slice a0_0 len0_0 cap0_0])).alloc (Obj.cells #[.int .i64 i1_0, .slice a1_0 len1_0 cap1_0] 41); first | exact h | (simp only [World.size_alloc] at h; exact h))
  have HI0 : Hid (IsLists W0 a0_0 len0_0 cap0_0 z0_0) := Lib.hid (by rw [hW0]; exact w0_0|>.alloc _ |>.alloc _)
  have K1 : Hid (Cels W0 (w.heap.size + 1) 41 [.int .i64 i1_0, .slice a1_0 len1_0 cap1_0]) := Lib.hid (by rw [hW0]; have h := (Cels.new (w.alloc (Obj.cells #[.slice a0_0 len0_0 cap0_0] 33)) 41 [.int .i64 i1_0, .slice a1_0 len1_0 cap1_0]); first | exact h | (simp only [World.size_alloc] at h; exact h))
  have HW0 := Lib.hid hW0.symm
  clear hW0
  obtain ⟨s0, hs0⟩ : ∃ s : Int, s = szQV 1048576 len0_0 z0_0 := ⟨_, rfl⟩
  have HS0 := Lib.hid hs0
  clear hs0
  obtain ⟨s1, hs1⟩ : ∃ s : Int, s = szL s0 len1_0 := ⟨_, rfl⟩
  have HS1 := Lib.hid hs1
  clear hs1
  by_cases h0 : 0 ≤ s0
  rotate_left
  · have g0 : s0 < 0 := by omega
    clear h0
    go_enter Try.func5, Try.ntmps5
    go_wp2_with fail
    rw [HW0.out]
    refine (szCyc _ _ _ z0_0 _ HI0.out (by omega) HS0.out).mono ?_
    rintro e v0 ⟨rfl, b0⟩
    rw [if_pos (show s0 < 0 by omega)]
    replace K0 := Lib.hid (K0.out.below b0 K0.out.lt)
    replace K1 := Lib.hid (K1.out.below b0 K1.out.lt)
    have HT := Lib.hid b0
    clear b0
    go_wp2
    go_ret
    exact ⟨rfl, HB0.out.trans (HT.out.mono HB0.out.size)⟩
  have g0 : ¬ s0 < 0 := by omega
  have HQ0 : Hid (0 ≤ s0 ∧ s0 ≤ 1048576) := Lib.hid (by have := szQV_le 1048576 len0_0 z0_0; rw [← HS0.out] at this; omega)
  by_cases h1 : 0 ≤ s1
  rotate_left
  · have g1 : s1 < 0 := by omega
    clear h1
    go_enter Try.func5, Try.ntmps5
    go_wp2_with fail
    rw [HW0.out]
    refine (szCyc _ _ _ z0_0 _ HI0.out (by omega) HS0.out).mono ?_
    rintro e v0 ⟨rfl, b0⟩
    rw [if_neg (show ¬ s0 < 0 by omega)]
    replace K0 := Lib.hid (K0.out.below b0 K0.out.lt)
    replace K1 := Lib.hid (K1.out.below b0 K1.out.lt)
    have HT := Lib.hid b0
    clear b0
    have zz1_0 := K1.out.cell 0 rfl
    have zz1_1 := K1.out.cell 1 rfl
    go_wp2_with fail
    clear zz1_0 zz1_1
    refine (szTrnV i1_0 _ _ _ _ HZ1.out HQ0.out HS1.out).mono ?_
    rintro e v1 ⟨rfl, b1⟩
    rw [if_pos (show s1 < 0 by omega)]
    replace K0 := Lib.hid (K0.out.below b1 K0.out.lt)
    replace K1 := Lib.hid (K1.out.below b1 K1.out.lt)
    replace HT := Lib.hid (HT.out.trans (b1.mono HT.out.size))
    clear b1
    go_wp2
    go_ret
    exact ⟨rfl, HB0.out.trans (HT.out.mono HB0.out.size)⟩
  have g1 : ¬ s1 < 0 := by omega
  have HQ1 : Hid (0 ≤ s1 ∧ s1 ≤ 1048576) := Lib.hid (by have := (szL_good (n := len1_0) (by rw [← HS1.out]; exact h1) HQ0.out.2).2; rw [← HS1.out] at this; omega)
  obtain ⟨y0, hy0⟩ : ∃ y, y = (z0_0.take len0_0).map Qin.q := ⟨_, rfl⟩
  have R0 : Hid (RdL W0 (.slice a0_0 len0_0 cap0_0) y0) := Lib.hid (by rw [hy0]; exact rdl_of_sz (L := 1048576) HI0.out (by omega) (by rw [← HS0.out]; exact h0))
  clear hy0
  obtain ⟨x1, hx1⟩ : ∃ y, y = z1_0.take len1_0 := ⟨_, rfl⟩
  have Q1 : Hid (Rd W0 (.slice a1_0 len1_0 cap1_0) x1) := Lib.hid (by rw [hx1]; exact (rd_of_row w1_0 (szL_good (n := len1_0) (by rw [← HS1.out]; exact h1) HQ0.out.2).1).below HB0.out (Nat.le_refl _))
  clear hx1
  clear h0 h1
  go_enter Try.func5, Try.ntmps5
  go_wp2_with fail
  rw [HW0.out]
  refine (szCyc _ _ _ z0_0 _ HI0.out (by omega) HS0.out).mono ?_
  rintro e v0 ⟨rfl, b0⟩
  rw [if_neg (show ¬ s0 < 0 by omega)]
  replace K0 := Lib.hid (K0.out.below b0 K0.out.lt)
  replace K1 := Lib.hid (K1.out.below b0 K1.out.lt)
  have HT := Lib.hid b0
  clear b0
  have zz1_0 := K1.out.cell 0 rfl
  have zz1_1 := K1.out.cell 1 rfl
  go_wp2_with fail
  clear zz1_0 zz1_1
  refine (szTrnV i1_0 _ _ _ _ HZ1.out HQ0.out HS1.out).mono ?_
  rintro e v1 ⟨rfl, b1⟩
  rw [if_neg (show ¬ s1 < 0 by omega)]
  replace K0 := Lib.hid (K0.out.below b1 K0.out.lt)
  replace K1 := Lib.hid (K1.out.below b1 K1.out.lt)
  replace HT := Lib.hid (HT.out.trans (b1.mono HT.out.size))
  clear b1
  clear HS0 HS1 HQ0 HQ1
  go_wp2_with fail
  have HS : Hid (∀ W', Below v1.heap.size v1 W' → W'.cell? ⟨w.heap.size, 0, none⟩ = some (.slice a0_0 len0_0 cap0_0) ∧ W'.cell? ⟨w.heap.size + 1, 0, none⟩ = some (.int .i64 i1_0) ∧ W'.cell? ⟨w.heap.size + 1, 1, none⟩ = some (.slice a1_0 len1_0 cap1_0)) := Lib.hid (fun W' hW' => ⟨(K0.out.below hW' K0.out.lt).cell 0 rfl, (K1.out.below hW' K1.out.lt).cell 0 rfl, (K1.out.below hW' K1.out.lt).cell 1 rfl⟩)
  have HD : Hid (Below v1.heap.size v1 v1.drew) := Lib.hid (Below.refl _ _).drew
  go_cut [6] (fun s6 wx => s6 = .bool (turnB y0 i1_0 x1) ∧ Below v1.heap.size v1 wx)
  case first =>
    go_region_held3 (fun w' => w'.cell? ⟨w.heap.size, 0, none⟩ = some (.slice a0_0 len0_0 cap0_0) ∧ w'.cell? ⟨w.heap.size + 1, 0, none⟩ = some (.int .i64 i1_0) ∧ w'.cell? ⟨w.heap.size + 1, 1, none⟩ = some (.slice a1_0 len1_0 cap1_0)) (exact HS.out _ HD.out) (first | (go_at_call 13; with_reducible refine (toCyc _ y0 _ (R0.out.below (HT.out.trans (HD.out.mono HT.out.size)) (Nat.le_refl _))).mono ?_; rintro e w7 ⟨us0, rfl, rs0, bq⟩; (try (with_reducible replace Ps1 := Lib.hid (Ps1.out.below bq (Nat.le_refl _)))); replace HD := Lib.hid (HD.out.trans (bq.mono HD.out.size)); obtain ⟨gas0, gcs0, hus0⟩ := rs0.shape; subst hus0; have Xs0 := Lib.hid rs0.rdl; clear rs0; clear bq) | (go_at_call 18; with_reducible refine (toTrn i1_0 _ x1 _ (Q1.out.below (HT.out.trans (HD.out.mono HT.out.size)) (Nat.le_refl _))).mono ?_; rintro e w7 ⟨ts1, rfl, ps1, bq⟩; (try (with_reducible replace Xs0 := Lib.hid (Xs0.out.below bq (Nat.le_refl _)))); replace HD := Lib.hid (HD.out.trans (bq.mono HD.out.size)); obtain ⟨has1, hcs1, hts1⟩ := ps1.shape; subst hts1; have Ps1 := Lib.hid ps1.rd; clear ps1; clear bq) | (go_at_call 17; with_reducible refine (specValidTurn _ y0 i1_0 _ x1 _ Xs0.out Ps1.out).mono ?_; rintro e w7 ⟨rfl, bq⟩; replace HD := Lib.hid (HD.out.trans (bq.mono HD.out.size)); clear bq))
    all_goals (go_wp2_with fail; go_meet)
    all_goals exact ⟨rfl, HD.out⟩
  obtain ⟨rfl, hcb⟩ := hcut
  obtain ⟨v9, hv9⟩ : ∃ x, x = wc := ⟨_, rfl⟩
  subst hv9
  replace K0 := Lib.hid (K0.out.below hcb K0.out.lt)
  replace K1 := Lib.hid (K1.out.below hcb K1.out.lt)
  replace HT := Lib.hid (HT.out.trans (hcb.mono HT.out.size))
  clear hcb HS HD
  have zzK0_0 := K0.out.cell 0 rfl
  go_wp2_with fail
  refine (toCyc _ y0 _ (R0.out.below HT.out (Nat.le_refl _))).mono ?_
  rintro e v11 ⟨ux0, rfl, rx0, bx0⟩
  replace K0 := Lib.hid (K0.out.below bx0 K0.out.lt)
  replace K1 := Lib.hid (K1.out.below bx0 K1.out.lt)
  replace HT := Lib.hid (HT.out.trans (bx0.mono HT.out.size))
  clear bx0
  obtain ⟨gax0, gcx0, hux0⟩ := rx0.shape
  subst hux0
  have Xx0 := Lib.hid rx0.rdl
  clear rx0
  have q1 : Below v11.heap.size v11 (v11.alloc (Obj.cells #[Value.slice gax0 y0.length gcx0] 36)) := (Below.refl _ _).alloc (Nat.le_refl _) _
  replace Xx0 := Lib.hid (Xx0.out.below q1 (Nat.le_refl _))
  replace K0 := Lib.hid (K0.out.below q1 K0.out.lt)
  replace K1 := Lib.hid (K1.out.below q1 K1.out.lt)
  replace HT := Lib.hid (HT.out.trans (q1.mono HT.out.size))
  clear q1
  have KX0 : Hid (Cels (v11.alloc (Obj.cells #[Value.slice gax0 y0.length gcx0] 36)) v11.heap.size 36 [Value.slice gax0 y0.length gcx0]) := Lib.hid (Cels.new _ _ _)
  have AX0 : Hid (v11.heap.size < (v11.alloc (Obj.cells #[Value.slice gax0 y0.length gcx0] 36)).heap.size) := Lib.hid KX0.out.lt
  clear zzK0_0
  have zzK1_0 := K1.out.cell 0 rfl
  have zzK1_1 := K1.out.cell 1 rfl
  go_wp2_with fail
  refine (toTrn i1_0 _ x1 _ (Q1.out.below HT.out (Nat.le_refl _))).mono ?_
  rintro e v12 ⟨tx1, rfl, px1, bx1⟩
  replace Xx0 := Lib.hid (Xx0.out.below bx1 (Nat.le_refl _))
  replace K0 := Lib.hid (K0.out.below bx1 K0.out.lt)
  replace K1 := Lib.hid (K1.out.below bx1 K1.out.lt)
  replace KX0 := Lib.hid (KX0.out.below bx1 KX0.out.lt)
  replace HT := Lib.hid (HT.out.trans (bx1.mono HT.out.size))
  clear bx1
  obtain ⟨hax1, hcx1, htx1⟩ := px1.shape
  subst htx1
  have Px1 := Lib.hid px1.rd
  clear px1
  have q1 : Below v12.heap.size v12 (v12.alloc (Obj.cells #[Value.int .i64 i1_0, Value.slice hax1 x1.length hcx1] 44)) := (Below.refl _ _).alloc (Nat.le_refl _) _
  replace Xx0 := Lib.hid (Xx0.out.below q1 (Nat.le_refl _))
  replace Px1 := Lib.hid (Px1.out.below q1 (Nat.le_refl _))
  replace K0 := Lib.hid (K0.out.below q1 K0.out.lt)
  replace K1 := Lib.hid (K1.out.below q1 K1.out.lt)
  replace KX0 := Lib.hid (KX0.out.below q1 KX0.out.lt)
  replace HT := Lib.hid (HT.out.trans (q1.mono HT.out.size))
  clear q1
  have KX1 : Hid (Cels (v12.alloc (Obj.cells #[Value.int .i64 i1_0, Value.slice hax1 x1.length hcx1] 44)) v12.heap.size 44 [Value.int .i64 i1_0, Value.slice hax1 x1.length hcx1]) := Lib.hid (Cels.new _ _ _)
  have AX1 : Hid (v12.heap.size < (v12.alloc (Obj.cells #[Value.int .i64 i1_0, Value.slice hax1 x1.length hcx1] 44)).heap.size) := Lib.hid KX1.out.lt
  clear zzK1_0 zzK1_1
  have zzKX0_0 := KX0.out.cell 0 rfl
  have zzKX1_0 := KX1.out.cell 0 rfl
  have zzKX1_1 := KX1.out.cell 1 rfl
  go_wp2_with fail
  refine (implValidTurn _ y0 i1_0 _ x1 _ Xx0.out Px1.out).mono ?_
  rintro e v19 ⟨rfl, bi⟩
  replace Xx0 := Lib.hid (Xx0.out.below bi (Nat.le_refl _))
  replace Px1 := Lib.hid (Px1.out.below bi (Nat.le_refl _))
  replace K0 := Lib.hid (K0.out.below bi K0.out.lt)
  replace K1 := Lib.hid (K1.out.below bi K1.out.lt)
  replace KX0 := Lib.hid (KX0.out.below bi KX0.out.lt)
  replace KX1 := Lib.hid (KX1.out.below bi KX1.out.lt)
  replace HT := Lib.hid (HT.out.trans (bi.mono HT.out.size))
  clear bi
  clear zzKX0_0 zzKX1_0 zzKX1_1
  go_wp2_with fail
  have HS : Hid (∀ W', Below v19.heap.size v19 W' → W'.cell? ⟨v11.heap.size, 0, none⟩ = some (.slice gax0 y0.length gcx0) ∧ W'.cell? ⟨w.heap.size, 0, none⟩ = some (.slice a0_0 len0_0 cap0_0)) := Lib.hid (fun W' hW' => ⟨(KX0.out.below hW' KX0.out.lt).cell 0 rfl, (K0.out.below hW' K0.out.lt).cell 0 rfl⟩)
  have HD : Hid (Below v19.heap.size v19 v19.drew) := Lib.hid (Below.refl _ _).drew
  go_cut [39] (fun sq wx => sq = .bool false ∧ Below v19.heap.size v19 wx)
  case first =>
    go_region_held3 (fun w' => w'.cell? ⟨v11.heap.size, 0, none⟩ = some (.slice gax0 y0.length gcx0) ∧ w'.cell? ⟨w.heap.size, 0, none⟩ = some (.slice a0_0 len0_0 cap0_0)) (exact HS.out _ HD.out) (first | (go_at_call 13; with_reducible refine (toCyc _ y0 _ (R0.out.below (HT.out.trans (HD.out.mono HT.out.size)) (Nat.le_refl _))).mono ?_; rintro e w7 ⟨uc0, rfl, rc0, bq⟩; replace HD := Lib.hid (HD.out.trans (bq.mono HD.out.size)); obtain ⟨gac0, gcc0, huc0⟩ := rc0.shape; subst huc0; have Xc0 := Lib.hid rc0.rdl; clear rc0; clear bq) | (go_at_call 15; with_reducible refine (eqCyc _ _ y0 _ (Xx0.out.below HD.out (Nat.le_refl _)) Xc0.out).mono ?_; rintro e w7 ⟨rfl, bq⟩; replace HD := Lib.hid (HD.out.trans (bq.mono HD.out.size)); clear bq))
    all_goals (go_wp2_with fail; go_meet)
    all_goals exact ⟨rfl, HD.out⟩
  obtain ⟨rfl, hcb⟩ := hcut
  obtain ⟨v20, hv2⟩ : ∃ x, x = wc := ⟨_, rfl⟩
  subst hv2
  replace Xx0 := Lib.hid (Xx0.out.below hcb (Nat.le_refl _))
  replace Px1 := Lib.hid (Px1.out.below hcb (Nat.le_refl _))
  replace K0 := Lib.hid (K0.out.below hcb K0.out.lt)
  replace K1 := Lib.hid (K1.out.below hcb K1.out.lt)
  replace KX0 := Lib.hid (KX0.out.below hcb KX0.out.lt)
  replace KX1 := Lib.hid (KX1.out.below hcb KX1.out.lt)
  replace HT := Lib.hid (HT.out.trans (hcb.mono HT.out.size))
  clear hcb HS HD
  go_wp2_with fail
  have HS : Hid (∀ W', Below v20.heap.size v20 W' → W'.cell? ⟨v12.heap.size, 0, none⟩ = some (.int .i64 i1_0) ∧ W'.cell? ⟨v12.heap.size, 1, none⟩ = some (.slice hax1 x1.length hcx1) ∧ W'.cell? ⟨w.heap.size + 1, 0, none⟩ = some (.int .i64 i1_0) ∧ W'.cell? ⟨w.heap.size + 1, 1, none⟩ = some (.slice a1_0 len1_0 cap1_0)) := Lib.hid (fun W' hW' => ⟨(KX1.out.below hW' KX1.out.lt).cell 0 rfl, (KX1.out.below hW' KX1.out.lt).cell 1 rfl, (K1.out.below hW' K1.out.lt).cell 0 rfl, (K1.out.below hW' K1.out.lt).cell 1 rfl⟩)
  have HD : Hid (Below v20.heap.size v20 v20.drew) := Lib.hid (Below.refl _ _).drew
  go_region_held3 (fun w' => w'.cell? ⟨v12.heap.size, 0, none⟩ = some (.int .i64 i1_0) ∧ w'.cell? ⟨v12.heap.size, 1, none⟩ = some (.slice hax1 x1.length hcx1) ∧ w'.cell? ⟨w.heap.size + 1, 0, none⟩ = some (.int .i64 i1_0) ∧ w'.cell? ⟨w.heap.size + 1, 1, none⟩ = some (.slice a1_0 len1_0 cap1_0)) (exact HS.out _ HD.out) (first | (go_at_call 18; with_reducible refine (toTrn i1_0 _ x1 _ (Q1.out.below (HT.out.trans (HD.out.mono HT.out.size)) (Nat.le_refl _))).mono ?_; rintro e w7 ⟨tc1, rfl, pc1, bq⟩; replace HD := Lib.hid (HD.out.trans (bq.mono HD.out.size)); obtain ⟨hac1, hcc1, htc1⟩ := pc1.shape; subst htc1; have Pc1 := Lib.hid pc1.rd; clear pc1; clear bq) | (go_at_call 20; with_reducible refine (eqTrn i1_0 _ _ x1 _ (Px1.out.below HD.out (Nat.le_refl _)) Pc1.out).mono ?_; rintro e w7 ⟨rfl, bq⟩; replace HD := Lib.hid (HD.out.trans (bq.mono HD.out.size)); clear bq))
  all_goals (go_wp2; go_ret; exact ⟨rfl, HB0.out.trans ((HT.out.trans (HD.out.mono HT.out.size)).mono HB0.out.size)⟩)

set_option maxRecDepth 100000 in
theorem lifted (os : Os) (started : os.Started) (H : Type) (enc : TypeId × Value → H) :
    ReturnsInHanded {} Try.checked os 5 .any (Rows.fnExactValidTurnSpec.pre6 enc Try.prog Try.f5 Rows.fnExactValidTurnRow.domain false) (Rows.fnExactValidTurnSpec.post enc Try.prog Try.f5 false true false false) := by
  refine returnsInHanded_of_change (C := Try.checked) own started (by kernel_rfl) Try.func5
    (ChangeSpec.witness6 (enc := enc) (C := Try.checked) false ⟨#[], #[.agg #[.slice none 0 0], .agg #[.int .i64 0, .slice none 0 0]], []⟩ 8 (by kernel_rfl) (by kernel_rfl) (by kernel_rfl) (by kernel_rfl)) ?_
  intro W base args ds gs before hval0 hW hcnd _
  have hval : ∀ (j : Nat) t v, Try.f5.params[j]? = some t → args[j]? = some v → Value.okWide Try.prog W .any base t v := hval0
  have hW' := hW
  obtain ⟨p, q, hA0, hV, rfl, hfz, hnd⟩ := hW
  have hA : DataW.TrodAll enc Try.prog W 0 (fun _ => true) true Try.f5.params.toList args.toList ds p := hA0
  rw [Try.params5] at hA hval
  obtain ⟨v0, vs0, d0, ds0, p0, q0, hargs, rfl, rfl, h0, r0⟩ := trodAll_cons hA
  obtain ⟨v1, vs1, d1, ds1, p1, q1, rfl, rfl, rfl, h1, r1⟩ := trodAll_cons r0
  obtain ⟨rfl, rfl, rfl⟩ := trodAll_nil r1
  obtain rfl : args = #[v0, v1] := by cases args; simp_all
  obtain ⟨rfl, rfl⟩ := trodVars_none hV
  have k0 := h0
  have lt0 : ∀ x ∈ p0, x.block < W.heap.size := by obtain ⟨m, hm⟩ := k0; exact DataW.trod_lt m _ _ _ hm
  obtain ⟨c0_0, y0_0, n0, rfl, _, _, t0_0⟩ := open_one Try.underlying33 (by kernel_rfl) (by kernel_rfl) (hval 0 33 v0 rfl rfl) h0
  obtain ⟨a0_0, len0_0, cap0_0, z0_0, e0_0, w0_0⟩ := open_lists t0_0
  simp only [List.cons.injEq, and_true] at e0_0
  subst e0_0
  have k1 := h1
  have lt1 : ∀ x ∈ p1, x.block < W.heap.size := by obtain ⟨m, hm⟩ := k1; exact DataW.trod_lt m _ _ _ hm
  obtain ⟨c1_0, c1_1, y1_0, y1_1, n1, rfl, _, _, t1_0, t1_1⟩ := Go.Joins.open_agg2 Try.underlying41 (by kernel_rfl) (by kernel_rfl) (hval 1 41 v1 rfl rfl) h1
  obtain ⟨i1_0, e1_0, _, j1_0⟩ := DataW.trod_int Try.underlying2 t1_0
  simp only [List.cons.injEq, and_true] at e1_0
  subst e1_0
  obtain ⟨a1_0, len1_0, cap1_0, z1_0, e1_0, w1_0⟩ := open_list t1_1
  simp only [List.cons.injEq, and_true] at e1_0
  subst e1_0
  clear hA0 hval0
  refine (walk a0_0 len0_0 cap0_0 z0_0 i1_0 a1_0 len1_0 cap1_0 z1_0 W w0_0 j1_0 w1_0).mono fun e W' ⟨he, bel⟩ => ?_
  subst he
  exact ⟨_, rfl, _, _, _, [], _, [], hW', trodAll_mk1 (shut_bool Try.underlying4 _), (trodAll_cons_mk (Below.trod laidOut (by kernel_rfl) (of_decide_eq_true (by kernel_rfl)) k0 bel lt0) (trodAll_cons_mk (Below.trod laidOut (by kernel_rfl) (of_decide_eq_true (by kernel_rfl)) k1 bel lt1) trodAll_mk0)), rfl, bel.frame _, fun h => by cases h⟩

theorem over : Rows.fnExactValidTurnRow.holds Try.pinned (OpenSpec.ofChange Rows.fnExactValidTurnSpec) :=
  OpenClaim.holds_of_wide 5 Try.f5 rfl rfl rfl rfl rfl rfl rfl ⟨rfl, rfl, rfl, rfl, rfl⟩ rfl rfl rfl rfl rfl (by kernel_rfl) Try.func5 (by kernel_rfl)
    (of_decide_eq_true (by kernel_rfl)) (by unfold Func.isWrapper; first | (rw [if_pos (by decide +kernel)]; kernel_rfl) | (rw [if_neg (by decide +kernel)]; exact ⟨rfl, rfl⟩))
    (fun os started H enc _ => lifted os started H enc)

/-- The statement. -/
theorem proved : Rows.FnExactValidTurnSaid := over
#print axioms proved
end Go.Proofs.Ytgbhbbapkpgmiaa.fnExactValidTurn
