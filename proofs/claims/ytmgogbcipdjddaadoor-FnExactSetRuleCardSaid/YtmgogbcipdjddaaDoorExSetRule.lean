/-   FnExactSetRule: for every machine, number and rule the program's SetRule answers as its model, machine and code, leaves its argument alone, and its answer is its own; the variable noRule is read as start-up lays it (tied). No condition. -/
import Derived.Test.YtmgogbcipdjddaaDoorRows
import Derived.Test.YtmgogbcipdjddaaDoorCards
import Derived.Test.YtmgogbcipdjddaaDoorTie
import Derived.WalkKit
import Derived.ProofKit
import Derived.OpenShut
import Derived.ShutString
import Derived.ChangeOld
import Derived.Below
import Derived.Lib.SmallJoins
import Derived.Deep.Strs
import Derived.OpenVars
import Derived.LaidMore
import Derived.Lay
import Derived.LaidOnce
import Derived.SevenTiedAt
import Derived.Stop.Joined
import Derived.Handy
import Derived.Lib.Hide
import Derived.Deep.RegionHeld3
import Derived.Deep.DeepCutAuto
import Derived.Test.YtmgogbcipdjddaaDoorMark
import Derived.Test.YtmgogbcipdjddaaDoorHeld
import Derived.Test.YtmgogbcipdjddaaDoorSetI
import Derived.Test.YtmgogbcipdjddaaDoorCelD
namespace Go.Proofs.YtmgogbcipdjddaaDoor.fnExactSetRule
open Go.ChangeShapes Go.WideShapes Go.ChangeAt Go.RowKit
set_option linter.unusedVariables false
set_option linter.unusedSimpArgs false

theorem own : ownKnob Tryd.prog.godebug = none := by kernel_rfl
theorem laidOut : laidOutB Tryd.prog = true := by kernel_rfl
open Ints

set_option maxHeartbeats 8000000 in
set_option maxRecDepth 100000 in
theorem walk (i0_0 : Int) (i0_1 : Int) (a0_0 : Option Addr) (len0_0 cap0_0 : Nat) (z0_0 : List Ru) (a1 : Int) (i2_0 : Int) (i2_1 : Int) (i2_2 : Int) (w : World) (j0_0 : (Lit.int .i64 i0_0).wf = true) (j0_1 : (Lit.int .i64 i0_1).wf = true) (w0_0 : IsRules w a0_0 len0_0 cap0_0 z0_0) (w1 : (Lit.int .i64 a1).wf = true) (j2_0 : (Lit.int .i64 i2_0).wf = true) (j2_1 : (Lit.int .i64 i2_1).wf = true) (j2_2 : (Lit.int .i64 i2_2).wf = true) (hnr : NoR w) :
    Calls Tryd.prog 10 #[.agg #[.int .i64 i0_0, .int .i64 i0_1, .slice a0_0 len0_0 cap0_0], .int .i64 a1, .agg #[.int .i64 i2_0, .int .i64 i2_1, .int .i64 i2_2]] w fun e w' => e = .returned (.bool true) ∧ Below w.heap.size w w' := by
  have hz0_0 := w0_0.le
  obtain ⟨l0_0, hl0_0⟩ : ∃ l : Int, l = 1048576 - (len0_0 : Int) := ⟨_, rfl⟩
  by_cases hn0_0 : 0 ≤ l0_0
  rotate_left
  · have hm0_0 : l0_0 < 0 := by omega
    obtain ⟨W0, hW0⟩ : ∃ x, x = ((w.alloc (Obj.cells #[.int .i64 i0_0, .int .i64 i0_1, .slice a0_0 len0_0 cap0_0] 24)).alloc (Obj.cells #[.int .i64 i2_0, .int .i64 i2_1, .int .i64 i2_2] 57)) := ⟨_, rfl⟩
    have HB0 : Hid (Below w.heap.size w W0) := Lib.hid (by rw [hW0]; exact (((Below.refl w.heap.size w).alloc (Nat.le_refl _) _).alloc (by simp) _))
    have K0 : Hid (Cels W0 (w.heap.size) 24 [.int .i64 i0_0, .int .i64 i0_1, .slice a0_0 len0_0 cap0_0]) := Lib.hid (by rw [hW0]; have h := ((Cels.new w 24 [.int .i64 i0_0, .int .i64 i0_1, .slice a0_0 len0_0 cap0_0]).alloc (Obj.cells #[.int .i64 i2_0, .int .i64 i2_1, .int .i64 i2_2] 57)); first | exact h | (simp only [World.size_alloc] at h; exact h))
    have K2 : Hid (Cels W0 (w.heap.size + 1) 57 [.int .i64 i2_0, .int .i64 i2_1, .int .i64 i2_2]) := Lib.hid (by rw [hW0]; have h := (Cels.new (w.alloc (Obj.cells #[.int .i64 i0_0, .int .i64 i0_1, .slice a0_0 len0_0 cap0_0] 24)) 57 [.int .i64 i2_0, .int .i64 i2_1, .int .i64 i2_2]); first | exact h | (simp only [World.size_alloc] at h; exact h))
    have AK0 : Hid (w.heap.size < W0.heap.size) := Lib.hid K0.out.lt
    have AK2 : Hid (w.heap.size + 1 < W0.heap.size) := Lib.hid K2.out.lt
    have HW0 := Lib.hid hW0.symm
    clear hW0
    have HL0_0 := Lib.hid hl0_0
    clear hl0_0
    go_enter Tryd.func10, Tryd.ntmps10
    go_wp2_with fail
    rw [HW0.out]
    have HT : Hid (Below W0.heap.size W0 W0) := Lib.hid (Below.refl _ _)
    refine (szMach_bad0 i0_0 i0_1 _ _ _ _ (by have := HL0_0.out; omega) HL0_0.out hm0_0 hz0_0).mono ?_
    rintro e vz0 ⟨rfl, bz⟩
    replace HT := Lib.hid (HT.out.trans (bz.mono HT.out.size))
    clear bz
    go_wp2
    go_ret
    exact ⟨rfl, HB0.out.trans (HT.out.mono HB0.out.size)⟩
  have hm0_0 : ¬ l0_0 < 0 := by omega
  obtain ⟨y0_0, hy0_0⟩ : ∃ y, y = z0_0.take len0_0 := ⟨_, rfl⟩
  have R0_0 : Hid (RdR w (.slice a0_0 len0_0 cap0_0) y0_0) := Lib.hid (by rw [hy0_0]; exact rdr_of_row w0_0 (by omega))
  clear hy0_0 w0_0
  obtain ⟨W0, hW0⟩ : ∃ x, x = ((w.alloc (Obj.cells #[.int .i64 i0_0, .int .i64 i0_1, .slice a0_0 len0_0 cap0_0] 24)).alloc (Obj.cells #[.int .i64 i2_0, .int .i64 i2_1, .int .i64 i2_2] 57)) := ⟨_, rfl⟩
  have HB0 : Hid (Below w.heap.size w W0) := Lib.hid (by rw [hW0]; exact (((Below.refl w.heap.size w).alloc (Nat.le_refl _) _).alloc (by simp) _))
  have K0 : Hid (Cels W0 (w.heap.size) 24 [.int .i64 i0_0, .int .i64 i0_1, .slice a0_0 len0_0 cap0_0]) := Lib.hid (by rw [hW0]; have h := ((Cels.new w 24 [.int .i64 i0_0, .int .i64 i0_1, .slice a0_0 len0_0 cap0_0]).alloc (Obj.cells #[.int .i64 i2_0, .int .i64 i2_1, .int .i64 i2_2] 57)); first | exact h | (simp only [World.size_alloc] at h; exact h))
  have K2 : Hid (Cels W0 (w.heap.size + 1) 57 [.int .i64 i2_0, .int .i64 i2_1, .int .i64 i2_2]) := Lib.hid (by rw [hW0]; have h := (Cels.new (w.alloc (Obj.cells #[.int .i64 i0_0, .int .i64 i0_1, .slice a0_0 len0_0 cap0_0] 24)) 57 [.int .i64 i2_0, .int .i64 i2_1, .int .i64 i2_2]); first | exact h | (simp only [World.size_alloc] at h; exact h))
  have AK0 : Hid (w.heap.size < W0.heap.size) := Lib.hid K0.out.lt
  have AK2 : Hid (w.heap.size + 1 < W0.heap.size) := Lib.hid K2.out.lt
  have HW0 := Lib.hid hW0.symm
  clear hW0
  have HL0_0 := Lib.hid hl0_0
  clear hl0_0
  replace R0_0 := Lib.hid (R0_0.out.below HB0.out (Nat.le_refl _))
  have HN := Lib.hid (hnr.below HB0.out (Nat.le_refl _))
  clear hnr
  go_enter Tryd.func10, Tryd.ntmps10
  go_wp2_with fail
  rw [HW0.out]
  have HT : Hid (Below W0.heap.size W0 W0) := Lib.hid (Below.refl _ _)
  refine (szMach i0_0 i0_1 _ _ _ _ (by have := HL0_0.out; omega) HL0_0.out hn0_0 hz0_0).mono ?_
  rintro e vz0 ⟨rfl, bz⟩
  replace K0 := Lib.hid (K0.out.below bz K0.out.lt)
  replace K2 := Lib.hid (K2.out.below bz K2.out.lt)
  replace HT := Lib.hid (HT.out.trans (bz.mono HT.out.size))
  clear bz
  clear HL0_0 hn0_0 hz0_0
  go_upto_region 5 with fail
  go_cut [8, 9] (fun s8 s9 wx => ∃ (bw0 : Nat) (uw0_0 : Value), s8 = .pointer (some ⟨bw0, 0, none⟩) ∧ s9 = .int .i64 (srC i0_0 i0_1 y0_0 a1 ⟨i2_0, i2_1, i2_2⟩) ∧ Below vz0.heap.size vz0 wx ∧ vz0.heap.size ≤ bw0 ∧ Cels wx bw0 33 [.int .i64 (srI i0_0 i0_1 y0_0 a1 ⟨i2_0, i2_1, i2_2⟩ i0_0), .int .i64 (srI i0_0 i0_1 y0_0 a1 ⟨i2_0, i2_1, i2_2⟩ i0_1), uw0_0] ∧ OwR wx vz0.heap.size wx.heap.size uw0_0 (srR i0_0 i0_1 y0_0 a1 ⟨i2_0, i2_1, i2_2⟩))
  case first =>
    have HS1 : Hid (∀ W', Below vz0.heap.size vz0 W' → W'.cell? ⟨w.heap.size, 0, none⟩ = some (.int .i64 i0_0) ∧ W'.cell? ⟨w.heap.size, 1, none⟩ = some (.int .i64 i0_1) ∧ W'.cell? ⟨w.heap.size, 2, none⟩ = some (.slice a0_0 len0_0 cap0_0) ∧ W'.cell? ⟨w.heap.size + 1, 0, none⟩ = some (.int .i64 i2_0) ∧ W'.cell? ⟨w.heap.size + 1, 1, none⟩ = some (.int .i64 i2_1) ∧ W'.cell? ⟨w.heap.size + 1, 2, none⟩ = some (.int .i64 i2_2)) := Lib.hid (fun W' hW' => ⟨(K0.out.below hW' K0.out.lt).cell 0 rfl, (K0.out.below hW' K0.out.lt).cell 1 rfl, (K0.out.below hW' K0.out.lt).cell 2 rfl, (K2.out.below hW' K2.out.lt).cell 0 rfl, (K2.out.below hW' K2.out.lt).cell 1 rfl, (K2.out.below hW' K2.out.lt).cell 2 rfl⟩)
    have HD : Hid (Below vz0.heap.size vz0 vz0.drew) := Lib.hid (Below.refl _ _).drew
    go_region_held3 (fun w' => w'.cell? ⟨w.heap.size, 0, none⟩ = some (.int .i64 i0_0) ∧ w'.cell? ⟨w.heap.size, 1, none⟩ = some (.int .i64 i0_1) ∧ w'.cell? ⟨w.heap.size, 2, none⟩ = some (.slice a0_0 len0_0 cap0_0) ∧ w'.cell? ⟨w.heap.size + 1, 0, none⟩ = some (.int .i64 i2_0) ∧ w'.cell? ⟨w.heap.size + 1, 1, none⟩ = some (.int .i64 i2_1) ∧ w'.cell? ⟨w.heap.size + 1, 2, none⟩ = some (.int .i64 i2_2)) (first | exact HS1.out _ HD.out | exact HS1.out _ (HD.out.alloc HD.out.size _) | exact HS1.out _ (((Below.refl _ _).alloc (Nat.le_refl _) _).drew) | exact HS1.out _ (below_set (below_set (below_set HD.out HZb.out _ _) HZb.out _ _) HZb.out _ _) | exact HS1.out _ (below_set (below_set (below_set (HD.out.alloc HD.out.size _) HD.out.size _ _) HD.out.size _ _) HD.out.size _ _)) (first | (go_at_call 14; with_reducible refine (toMach i0_0 i0_1 _ y0_0 _ (by first | exact R0_0.out.below (HT.out.trans (HD.out.mono HT.out.size)) (Nat.le_refl _) | exact R0_0.out.below (HT.out.trans ((HD.out.alloc HD.out.size _).mono HT.out.size)) (Nat.le_refl _) | exact R0_0.out.below (HT.out.trans ((((Below.refl _ _).alloc (Nat.le_refl _) _).drew).mono HT.out.size)) (Nat.le_refl _))).mono ?_; rintro e w1 ⟨us0_0, rfl, os0_0, bq⟩; (try (with_reducible have KZ := Lib.hid (cels_pre bq); have HZb := Lib.hid HD.out.size)); (try (with_reducible have KZ := Lib.hid (cels_preD bq); have HZb := Lib.hid (Nat.le_refl vz0.heap.size))); (try with_reducible replace bq := below_pre bq); (try with_reducible replace bq := below_preD bq); (try replace KZ := Lib.hid (KZ.out.below bq KZ.out.lt)); have Xs0_0 := Lib.hid (os0_0.mono (by first | exact HD.out.size | exact (HD.out.alloc HD.out.size _).size | exact (((Below.refl _ _).alloc (Nat.le_refl _) _).drew).size : vz0.heap.size ≤ _) (Nat.le_refl _) (Nat.le_refl _)); obtain ⟨gas0_0, gcs0_0, hus0_0⟩ := os0_0.shape; subst hus0_0; clear os0_0; replace HD := Lib.hid (HD.out.trans (bq.mono HD.out.size)); clear bq) | (go_at_call 40; with_reducible refine (toRule i2_0 i2_1 i2_2  _ ).mono ?_; rintro e w1 ⟨rfl, bq⟩; (try (with_reducible have KZ := Lib.hid (cels_pre bq); have HZb := Lib.hid HD.out.size)); (try (with_reducible have KZ := Lib.hid (cels_preD bq); have HZb := Lib.hid (Nat.le_refl vz0.heap.size))); (try with_reducible replace bq := below_pre bq); (try with_reducible replace bq := below_preD bq); (try replace KZ := Lib.hid (KZ.out.below bq KZ.out.lt)); replace Xs0_0 := Lib.hid (Xs0_0.out.below bq Xs0_0.out.size); replace HD := Lib.hid (HD.out.trans (bq.mono HD.out.size)); clear bq) | (go_at_call 39; with_reducible refine (specSetRule i0_0 i0_1 _ y0_0 a1 i2_0 i2_1 i2_2 _ (by first | exact Xs0_0.out.rd | exact (Xs0_0.out.below ((Below.refl _ _).alloc (Nat.le_refl _) _) Xs0_0.out.size).rd)).mono ?_; rintro e w1 ⟨uw0_0, rfl, ow0_0, bq⟩; (try (with_reducible have KZ := Lib.hid (cels_pre bq); have HZb := Lib.hid HD.out.size)); (try (with_reducible have KZ := Lib.hid (cels_preD bq); have HZb := Lib.hid (Nat.le_refl vz0.heap.size))); (try with_reducible replace bq := below_pre bq); (try with_reducible replace bq := below_preD bq); (try replace KZ := Lib.hid (KZ.out.below bq KZ.out.lt)); have Xw0_0 := Lib.hid (ow0_0.mono (by first | exact HD.out.size | exact (HD.out.alloc HD.out.size _).size | exact (((Below.refl _ _).alloc (Nat.le_refl _) _).drew).size : vz0.heap.size ≤ _) (Nat.le_refl _) (Nat.le_refl _)); replace Xs0_0 := Lib.hid (Xs0_0.out.below bq Xs0_0.out.size); obtain ⟨gaw0_0, gcw0_0, huw0_0⟩ := ow0_0.shape; subst huw0_0; clear ow0_0; replace HD := Lib.hid (HD.out.trans (bq.mono HD.out.size)); clear bq; (try (have HF := Lib.hid (put3 KZ.out (.int .i64 (srI i0_0 i0_1 y0_0 a1 ⟨i2_0, i2_1, i2_2⟩ i0_0)) (.int .i64 (srI i0_0 i0_1 y0_0 a1 ⟨i2_0, i2_1, i2_2⟩ i0_1)) (.slice gaw0_0 (srR i0_0 i0_1 y0_0 a1 ⟨i2_0, i2_1, i2_2⟩).length gcw0_0)); obtain ⟨f1, f2, f3, f4, f5, f6, f7⟩ := HF.out; have HF7 := Lib.hid f7; clear f7))))
    all_goals (go_wp2_with fail; go_meet)
    all_goals first | exact ⟨_, _, rfl, rfl, below_set (below_set (below_set HD.out HZb.out _ _) HZb.out _ _) HZb.out _ _, HZb.out, HF7.out, (Xw0_0.out.grown (put3g KZ.out _ _ _) (Or.inr (Xw0_0.out.nblk KZ.out (by decide)))).up⟩ | exact ⟨_, _, rfl, rfl, HD.out.alloc HD.out.size _, HD.out.size, Cels.new _ _ _, (Xw0_0.out.below ((Below.refl _ _).alloc (Nat.le_refl _) _) Xw0_0.out.size).up⟩
  obtain ⟨bw0, uw0_0, rfl, rfl, bq, hb1, hK1, ow0_0⟩ := hcut
  obtain ⟨w1, hw1⟩ : ∃ x, x = wc := ⟨_, rfl⟩
  subst hw1
  have Lw0_0 := Lib.hid HT.out.size
  replace K0 := Lib.hid (K0.out.below bq K0.out.lt)
  replace K2 := Lib.hid (K2.out.below bq K2.out.lt)
  replace HT := Lib.hid (HT.out.trans (bq.mono HT.out.size))
  have Xw0_0 := Lib.hid ow0_0
  obtain ⟨gaw0_0, gcw0_0, huw0_0⟩ := ow0_0.shape
  subst huw0_0
  clear ow0_0
  clear bq
  have Kw0 := Lib.hid hK1
  clear hK1 hb1
  have zzK0_0 := K0.out.cell 0 rfl
  have zzK0_1 := K0.out.cell 1 rfl
  have zzK0_2 := K0.out.cell 2 rfl
  go_wp2_with fail
  refine (toMach i0_0 i0_1 _ y0_0 _ (R0_0.out.below HT.out (Nat.le_refl _))).mono ?_
  rintro e v2 ⟨ux0_0, rfl, ox0_0, b2⟩
  have Sw0_0_x0_0 := Lib.hid (sep_of Xw0_0.out.top ox0_0.row.lt Xw0_0.out.size)
  have Lx0_0 := Lib.hid HT.out.size
  replace Xw0_0 := Lib.hid (Xw0_0.out.below b2 Xw0_0.out.size)
  replace K0 := Lib.hid (K0.out.below b2 K0.out.lt)
  replace K2 := Lib.hid (K2.out.below b2 K2.out.lt)
  replace Kw0 := Lib.hid (Kw0.out.below b2 Kw0.out.lt)
  replace HT := Lib.hid (HT.out.trans (b2.mono HT.out.size))
  have Xx0_0 := Lib.hid ox0_0
  obtain ⟨gax0_0, gcx0_0, hux0_0⟩ := ox0_0.shape
  subst hux0_0
  clear ox0_0
  clear b2
  have q1 : Below v2.heap.size v2 (v2.alloc (Obj.cells #[.int .i64 i0_0, .int .i64 i0_1, .slice gax0_0 y0_0.length gcx0_0] 33)) := (Below.refl _ _).alloc (Nat.le_refl _) _
  have Kx0 : Hid (Cels (v2.alloc (Obj.cells #[.int .i64 i0_0, .int .i64 i0_1, .slice gax0_0 y0_0.length gcx0_0] 33)) v2.heap.size 33 [.int .i64 i0_0, .int .i64 i0_1, .slice gax0_0 y0_0.length gcx0_0]) := Lib.hid (Cels.new _ _ _)
  replace Xw0_0 := Lib.hid (Xw0_0.out.below q1 Xw0_0.out.size)
  replace Xx0_0 := Lib.hid (Xx0_0.out.below q1 Xx0_0.out.size)
  replace K0 := Lib.hid (K0.out.below q1 K0.out.lt)
  replace K2 := Lib.hid (K2.out.below q1 K2.out.lt)
  replace Kw0 := Lib.hid (Kw0.out.below q1 Kw0.out.lt)
  replace HT := Lib.hid (HT.out.trans (q1.mono HT.out.size))
  clear q1
  clear zzK0_0 zzK0_1 zzK0_2
  go_upto_region 7 with fail
  obtain ⟨wq3, hwq3⟩ : ∃ x, x = (v2.alloc (Obj.cells #[.int .i64 i0_0, .int .i64 i0_1, .slice gax0_0 y0_0.length gcx0_0] 33)) := ⟨_, rfl⟩
  rw [← hwq3] at Xw0_0 Xx0_0 K0 K2 Kw0 Kx0 HT ⊢
  clear hwq3
  go_cut [11, 12] (fun s11 s12 wx => ∃ (bg0 : Nat) (ug0_0 : Value), s11 = .pointer (some ⟨bg0, 0, none⟩) ∧ s12 = .int .i64 (srC i0_0 i0_1 y0_0 a1 ⟨i2_0, i2_1, i2_2⟩) ∧ Below wq3.heap.size wq3 wx ∧ wq3.heap.size ≤ bg0 ∧ Cels wx bg0 33 [.int .i64 (srI i0_0 i0_1 y0_0 a1 ⟨i2_0, i2_1, i2_2⟩ i0_0), .int .i64 (srI i0_0 i0_1 y0_0 a1 ⟨i2_0, i2_1, i2_2⟩ i0_1), ug0_0] ∧ OwR wx wq3.heap.size wx.heap.size ug0_0 (srR i0_0 i0_1 y0_0 a1 ⟨i2_0, i2_1, i2_2⟩))
  case first =>
    have HS3 : Hid (∀ W', Below wq3.heap.size wq3 W' → W'.cell? ⟨v2.heap.size, 0, none⟩ = some (.int .i64 i0_0) ∧ W'.cell? ⟨v2.heap.size, 1, none⟩ = some (.int .i64 i0_1) ∧ W'.cell? ⟨v2.heap.size, 2, none⟩ = some (.slice gax0_0 y0_0.length gcx0_0) ∧ W'.cell? ⟨w.heap.size + 1, 0, none⟩ = some (.int .i64 i2_0) ∧ W'.cell? ⟨w.heap.size + 1, 1, none⟩ = some (.int .i64 i2_1) ∧ W'.cell? ⟨w.heap.size + 1, 2, none⟩ = some (.int .i64 i2_2)) := Lib.hid (fun W' hW' => ⟨(Kx0.out.below hW' Kx0.out.lt).cell 0 rfl, (Kx0.out.below hW' Kx0.out.lt).cell 1 rfl, (Kx0.out.below hW' Kx0.out.lt).cell 2 rfl, (K2.out.below hW' K2.out.lt).cell 0 rfl, (K2.out.below hW' K2.out.lt).cell 1 rfl, (K2.out.below hW' K2.out.lt).cell 2 rfl⟩)
    have HD : Hid (Below wq3.heap.size wq3 wq3.drew) := Lib.hid (Below.refl _ _).drew
    go_region_held3 (fun w' => w'.cell? ⟨v2.heap.size, 0, none⟩ = some (.int .i64 i0_0) ∧ w'.cell? ⟨v2.heap.size, 1, none⟩ = some (.int .i64 i0_1) ∧ w'.cell? ⟨v2.heap.size, 2, none⟩ = some (.slice gax0_0 y0_0.length gcx0_0) ∧ w'.cell? ⟨w.heap.size + 1, 0, none⟩ = some (.int .i64 i2_0) ∧ w'.cell? ⟨w.heap.size + 1, 1, none⟩ = some (.int .i64 i2_1) ∧ w'.cell? ⟨w.heap.size + 1, 2, none⟩ = some (.int .i64 i2_2)) (first | exact HS3.out _ HD.out | exact HS3.out _ (HD.out.alloc HD.out.size _) | exact HS3.out _ (((Below.refl _ _).alloc (Nat.le_refl _) _).drew) | exact HS3.out _ (below_set (below_set (below_set HD.out HZb.out _ _) HZb.out _ _) HZb.out _ _) | exact HS3.out _ (below_set (below_set (below_set (HD.out.alloc HD.out.size _) HD.out.size _ _) HD.out.size _ _) HD.out.size _ _)) (first | (go_at_call 40; with_reducible refine (toRule i2_0 i2_1 i2_2  _ ).mono ?_; rintro e w3 ⟨rfl, bq⟩; (try (with_reducible have KZ := Lib.hid (cels_pre bq); have HZb := Lib.hid HD.out.size)); (try (with_reducible have KZ := Lib.hid (cels_preD bq); have HZb := Lib.hid (Nat.le_refl wq3.heap.size))); (try with_reducible replace bq := below_pre bq); (try with_reducible replace bq := below_preD bq); (try replace KZ := Lib.hid (KZ.out.below bq KZ.out.lt)); replace HD := Lib.hid (HD.out.trans (bq.mono HD.out.size)); clear bq) | (go_at_call 41; with_reducible refine (implSetRule i0_0 i0_1 _ y0_0 a1 i2_0 i2_1 i2_2 _ (by first | exact Xx0_0.out.rd.below HD.out (Nat.le_refl _) | exact Xx0_0.out.rd.below (HD.out.alloc HD.out.size _) (Nat.le_refl _) | exact Xx0_0.out.rd.below (((Below.refl _ _).alloc (Nat.le_refl _) _).drew) (Nat.le_refl _)) (by first | exact HN.out.below (HT.out.trans (HD.out.mono HT.out.size)) (Nat.le_refl _) | exact HN.out.below (HT.out.trans ((HD.out.alloc HD.out.size _).mono HT.out.size)) (Nat.le_refl _) | exact HN.out.below (HT.out.trans ((((Below.refl _ _).alloc (Nat.le_refl _) _).drew).mono HT.out.size)) (Nat.le_refl _))).mono ?_; rintro e w3 ⟨ug0_0, rfl, og0_0, bq⟩; (try (with_reducible have KZ := Lib.hid (cels_pre bq); have HZb := Lib.hid HD.out.size)); (try (with_reducible have KZ := Lib.hid (cels_preD bq); have HZb := Lib.hid (Nat.le_refl wq3.heap.size))); (try with_reducible replace bq := below_pre bq); (try with_reducible replace bq := below_preD bq); (try replace KZ := Lib.hid (KZ.out.below bq KZ.out.lt)); have Xg0_0 := Lib.hid (og0_0.mono (by first | exact HD.out.size | exact (HD.out.alloc HD.out.size _).size | exact (((Below.refl _ _).alloc (Nat.le_refl _) _).drew).size : wq3.heap.size ≤ _) (Nat.le_refl _) (Nat.le_refl _)); obtain ⟨gag0_0, gcg0_0, hug0_0⟩ := og0_0.shape; subst hug0_0; clear og0_0; replace HD := Lib.hid (HD.out.trans (bq.mono HD.out.size)); clear bq; (try (have HF := Lib.hid (put3 KZ.out (.int .i64 (srI i0_0 i0_1 y0_0 a1 ⟨i2_0, i2_1, i2_2⟩ i0_0)) (.int .i64 (srI i0_0 i0_1 y0_0 a1 ⟨i2_0, i2_1, i2_2⟩ i0_1)) (.slice gag0_0 (srR i0_0 i0_1 y0_0 a1 ⟨i2_0, i2_1, i2_2⟩).length gcg0_0)); obtain ⟨f1, f2, f3, f4, f5, f6, f7⟩ := HF.out; have HF7 := Lib.hid f7; clear f7))))
    all_goals (go_wp2_with fail; go_meet)
    all_goals first | exact ⟨_, _, rfl, rfl, below_set (below_set (below_set HD.out HZb.out _ _) HZb.out _ _) HZb.out _ _, HZb.out, HF7.out, (Xg0_0.out.grown (put3g KZ.out _ _ _) (Or.inr (Xg0_0.out.nblk KZ.out (by decide)))).up⟩ | exact ⟨_, _, rfl, rfl, HD.out.alloc HD.out.size _, HD.out.size, Cels.new _ _ _, (Xg0_0.out.below ((Below.refl _ _).alloc (Nat.le_refl _) _) Xg0_0.out.size).up⟩
  obtain ⟨bg0, ug0_0, rfl, rfl, bq, hb3, hK3, og0_0⟩ := hcut
  obtain ⟨w3, hw3⟩ : ∃ x, x = wc := ⟨_, rfl⟩
  subst hw3
  have Sw0_0_g0_0 := Lib.hid (sep_of Xw0_0.out.top og0_0.row.lt Xw0_0.out.size)
  have Sx0_0_g0_0 := Lib.hid (sep_of Xx0_0.out.top og0_0.row.lt Xx0_0.out.size)
  have Lg0_0 := Lib.hid HT.out.size
  replace Xw0_0 := Lib.hid (Xw0_0.out.below bq Xw0_0.out.size)
  replace Xx0_0 := Lib.hid (Xx0_0.out.below bq Xx0_0.out.size)
  replace K0 := Lib.hid (K0.out.below bq K0.out.lt)
  replace K2 := Lib.hid (K2.out.below bq K2.out.lt)
  replace Kw0 := Lib.hid (Kw0.out.below bq Kw0.out.lt)
  replace Kx0 := Lib.hid (Kx0.out.below bq Kx0.out.lt)
  replace HT := Lib.hid (HT.out.trans (bq.mono HT.out.size))
  have Xg0_0 := Lib.hid og0_0
  obtain ⟨gag0_0, gcg0_0, hug0_0⟩ := og0_0.shape
  subst hug0_0
  clear og0_0
  clear bq
  have Kg0 := Lib.hid hK3
  clear hK3 hb3
  have zzKg0_0 := Kg0.out.cell 0 rfl
  have zzKg0_1 := Kg0.out.cell 1 rfl
  have zzKg0_2 := Kg0.out.cell 2 rfl
  have zzKw0_0 := Kw0.out.cell 0 rfl
  have zzKw0_1 := Kw0.out.cell 1 rfl
  have zzKw0_2 := Kw0.out.cell 2 rfl
  go_wp2_with fail
  refine (eqMach _ _ _ _ _ _ Xg0_0.out.rd Xw0_0.out.rd).mono ?_
  rintro e v4 ⟨rfl, b4⟩
  replace Xw0_0 := Lib.hid (Xw0_0.out.below b4 Xw0_0.out.size)
  replace Xx0_0 := Lib.hid (Xx0_0.out.below b4 Xx0_0.out.size)
  replace Xg0_0 := Lib.hid (Xg0_0.out.below b4 Xg0_0.out.size)
  replace K0 := Lib.hid (K0.out.below b4 K0.out.lt)
  replace K2 := Lib.hid (K2.out.below b4 K2.out.lt)
  replace Kw0 := Lib.hid (Kw0.out.below b4 Kw0.out.lt)
  replace Kx0 := Lib.hid (Kx0.out.below b4 Kx0.out.lt)
  replace Kg0 := Lib.hid (Kg0.out.below b4 Kg0.out.lt)
  replace HT := Lib.hid (HT.out.trans (b4.mono HT.out.size))
  clear b4
  clear zzKg0_0 zzKg0_1 zzKg0_2 zzKw0_0 zzKw0_1 zzKw0_2
  go_wp2_with fail
  have HS5 : Hid (∀ W', Below v4.heap.size v4 W' → W'.cell? ⟨v2.heap.size, 0, none⟩ = some (.int .i64 i0_0) ∧ W'.cell? ⟨v2.heap.size, 1, none⟩ = some (.int .i64 i0_1) ∧ W'.cell? ⟨v2.heap.size, 2, none⟩ = some (.slice gax0_0 y0_0.length gcx0_0) ∧ W'.cell? ⟨w.heap.size, 0, none⟩ = some (.int .i64 i0_0) ∧ W'.cell? ⟨w.heap.size, 1, none⟩ = some (.int .i64 i0_1) ∧ W'.cell? ⟨w.heap.size, 2, none⟩ = some (.slice a0_0 len0_0 cap0_0)) := Lib.hid (fun W' hW' => ⟨(Kx0.out.below hW' Kx0.out.lt).cell 0 rfl, (Kx0.out.below hW' Kx0.out.lt).cell 1 rfl, (Kx0.out.below hW' Kx0.out.lt).cell 2 rfl, (K0.out.below hW' K0.out.lt).cell 0 rfl, (K0.out.below hW' K0.out.lt).cell 1 rfl, (K0.out.below hW' K0.out.lt).cell 2 rfl⟩)
  have bd : Below v4.heap.size v4 v4.drew := (Below.refl _ _).drew
  have HD := Lib.hid bd
  replace Xw0_0 := Lib.hid (Xw0_0.out.below bd Xw0_0.out.size)
  replace Xx0_0 := Lib.hid (Xx0_0.out.below bd Xx0_0.out.size)
  replace Xg0_0 := Lib.hid (Xg0_0.out.below bd Xg0_0.out.size)
  replace K0 := Lib.hid (K0.out.below bd K0.out.lt)
  replace K2 := Lib.hid (K2.out.below bd K2.out.lt)
  replace Kw0 := Lib.hid (Kw0.out.below bd Kw0.out.lt)
  replace Kx0 := Lib.hid (Kx0.out.below bd Kx0.out.lt)
  replace Kg0 := Lib.hid (Kg0.out.below bd Kg0.out.lt)
  replace HT := Lib.hid (HT.out.trans (bd.mono HT.out.size))
  clear bd
  go_region_held3 (fun w' => w'.cell? ⟨v2.heap.size, 0, none⟩ = some (.int .i64 i0_0) ∧ w'.cell? ⟨v2.heap.size, 1, none⟩ = some (.int .i64 i0_1) ∧ w'.cell? ⟨v2.heap.size, 2, none⟩ = some (.slice gax0_0 y0_0.length gcx0_0) ∧ w'.cell? ⟨w.heap.size, 0, none⟩ = some (.int .i64 i0_0) ∧ w'.cell? ⟨w.heap.size, 1, none⟩ = some (.int .i64 i0_1) ∧ w'.cell? ⟨w.heap.size, 2, none⟩ = some (.slice a0_0 len0_0 cap0_0)) (exact HS5.out _ HD.out) (first | (go_at_call 14; with_reducible refine (toMach i0_0 i0_1 _ y0_0 _ (R0_0.out.below HT.out (Nat.le_refl _))).mono ?_; rintro e w5 ⟨uc0_0, rfl, oc0_0, bq⟩; replace HD := Lib.hid (HD.out.trans (bq.mono HD.out.size)); have Sw0_0_c0_0 := Lib.hid (sep_of Xw0_0.out.top oc0_0.row.lt Xw0_0.out.size); have Sx0_0_c0_0 := Lib.hid (sep_of Xx0_0.out.top oc0_0.row.lt Xx0_0.out.size); have Sg0_0_c0_0 := Lib.hid (sep_of Xg0_0.out.top oc0_0.row.lt Xg0_0.out.size); have Lc0_0 := Lib.hid HT.out.size; replace Xw0_0 := Lib.hid (Xw0_0.out.below bq Xw0_0.out.size); replace Xx0_0 := Lib.hid (Xx0_0.out.below bq Xx0_0.out.size); replace Xg0_0 := Lib.hid (Xg0_0.out.below bq Xg0_0.out.size); replace K0 := Lib.hid (K0.out.below bq K0.out.lt); replace K2 := Lib.hid (K2.out.below bq K2.out.lt); replace Kw0 := Lib.hid (Kw0.out.below bq Kw0.out.lt); replace Kx0 := Lib.hid (Kx0.out.below bq Kx0.out.lt); replace Kg0 := Lib.hid (Kg0.out.below bq Kg0.out.lt); replace HT := Lib.hid (HT.out.trans (bq.mono HT.out.size)); have Xc0_0 := Lib.hid oc0_0; obtain ⟨gac0_0, gcc0_0, huc0_0⟩ := oc0_0.shape; subst huc0_0; clear oc0_0; clear bq) | (go_at_call 17; with_reducible refine (eqMach _ _ _ _ _ _ Xx0_0.out.rd Xc0_0.out.rd).mono ?_; rintro e w5 ⟨rfl, bq⟩; replace HD := Lib.hid (HD.out.trans (bq.mono HD.out.size)); replace Xw0_0 := Lib.hid (Xw0_0.out.below bq Xw0_0.out.size); replace Xx0_0 := Lib.hid (Xx0_0.out.below bq Xx0_0.out.size); replace Xg0_0 := Lib.hid (Xg0_0.out.below bq Xg0_0.out.size); replace Xc0_0 := Lib.hid (Xc0_0.out.below bq Xc0_0.out.size); replace K0 := Lib.hid (K0.out.below bq K0.out.lt); replace K2 := Lib.hid (K2.out.below bq K2.out.lt); replace Kw0 := Lib.hid (Kw0.out.below bq Kw0.out.lt); replace Kx0 := Lib.hid (Kx0.out.below bq Kx0.out.lt); replace Kg0 := Lib.hid (Kg0.out.below bq Kg0.out.lt); replace HT := Lib.hid (HT.out.trans (bq.mono HT.out.size)); clear bq))
  clear Xc0_0
  have zzKx0_0 := Kx0.out.cell 0 rfl
  have zzKx0_1 := Kx0.out.cell 1 rfl
  have zzKx0_2 := Kx0.out.cell 2 rfl
  go_wp2_with fail
  refine (markMach _ _ _ _ (1) _ _ _ Xx0_0.out (by have r0_0 := R0_0.out.len; omega) (by have r0_0 := R0_0.out.len; omega)).mono ?_
  rintro e v6 ⟨rfl, o6, g6⟩
  replace Xw0_0 := Lib.hid (Xw0_0.out.grown g6 Sw0_0_x0_0.out.1)
  replace Xg0_0 := Lib.hid (Xg0_0.out.grown g6 Sx0_0_g0_0.out.2)
  replace K0 := Lib.hid (K0.out.grown g6 (Xx0_0.out.nblk K0.out (by decide)))
  replace K2 := Lib.hid (K2.out.grown g6 (Xx0_0.out.nblk K2.out (by decide)))
  replace Kw0 := Lib.hid (Kw0.out.grown g6 (Xx0_0.out.nblk Kw0.out (by decide)))
  replace Kx0 := Lib.hid (Kx0.out.grown g6 (Xx0_0.out.nblk Kx0.out (by decide)))
  replace Kg0 := Lib.hid (Kg0.out.grown g6 (Xx0_0.out.nblk Kg0.out (by decide)))
  replace HT := Lib.hid (HT.out.trans ((Xx0_0.out.gb g6).mono Lx0_0.out))
  replace Xx0_0 := Lib.hid o6
  clear o6 g6
  clear zzKx0_0 zzKx0_1 zzKx0_2
  have zzKg0_0 := Kg0.out.cell 0 rfl
  have zzKg0_1 := Kg0.out.cell 1 rfl
  have zzKg0_2 := Kg0.out.cell 2 rfl
  have zzKw0_0 := Kw0.out.cell 0 rfl
  have zzKw0_1 := Kw0.out.cell 1 rfl
  have zzKw0_2 := Kw0.out.cell 2 rfl
  go_wp2_with fail
  refine (eqMach _ _ _ _ _ _ Xg0_0.out.rd Xw0_0.out.rd).mono ?_
  rintro e v7 ⟨rfl, b7⟩
  replace Xw0_0 := Lib.hid (Xw0_0.out.below b7 Xw0_0.out.size)
  replace Xx0_0 := Lib.hid (Xx0_0.out.below b7 Xx0_0.out.size)
  replace Xg0_0 := Lib.hid (Xg0_0.out.below b7 Xg0_0.out.size)
  replace K0 := Lib.hid (K0.out.below b7 K0.out.lt)
  replace K2 := Lib.hid (K2.out.below b7 K2.out.lt)
  replace Kw0 := Lib.hid (Kw0.out.below b7 Kw0.out.lt)
  replace Kx0 := Lib.hid (Kx0.out.below b7 Kx0.out.lt)
  replace Kg0 := Lib.hid (Kg0.out.below b7 Kg0.out.lt)
  replace HT := Lib.hid (HT.out.trans (b7.mono HT.out.size))
  clear b7
  clear Xx0_0
  have N0_0 := Xg0_0.out.len
  clear zzKg0_0 zzKg0_1 zzKg0_2 zzKw0_0 zzKw0_1 zzKw0_2
  have zzKg0_0 := Kg0.out.cell 0 rfl
  have zzKg0_1 := Kg0.out.cell 1 rfl
  have zzKg0_2 := Kg0.out.cell 2 rfl
  go_wp2_with fail
  refine (markMach _ _ _ _ 1 _ _ _ Xg0_0.out (by omega) (by omega)).mono ?_
  rintro e v8 ⟨rfl, o8, g8⟩
  replace Xw0_0 := Lib.hid (Xw0_0.out.grown g8 Sw0_0_g0_0.out.1)
  replace K0 := Lib.hid (K0.out.grown g8 (Xg0_0.out.nblk K0.out (by decide)))
  replace K2 := Lib.hid (K2.out.grown g8 (Xg0_0.out.nblk K2.out (by decide)))
  replace Kw0 := Lib.hid (Kw0.out.grown g8 (Xg0_0.out.nblk Kw0.out (by decide)))
  replace Kx0 := Lib.hid (Kx0.out.grown g8 (Xg0_0.out.nblk Kx0.out (by decide)))
  replace Kg0 := Lib.hid (Kg0.out.grown g8 (Xg0_0.out.nblk Kg0.out (by decide)))
  replace HT := Lib.hid (HT.out.trans ((Xg0_0.out.gb g8).mono Lg0_0.out))
  replace Xg0_0 := Lib.hid o8
  clear o8 g8
  clear zzKg0_0 zzKg0_1 zzKg0_2
  have zzKg0_0 := Kg0.out.cell 0 rfl
  have zzKg0_1 := Kg0.out.cell 1 rfl
  have zzKg0_2 := Kg0.out.cell 2 rfl
  go_wp2_with fail
  refine (heldMach _ _ _ _ 1 _ Xg0_0.out.rd (by omega) (by omega) (by omega)).mono ?_
  rintro e v9 ⟨rfl, b9⟩
  replace Xw0_0 := Lib.hid (Xw0_0.out.below b9 Xw0_0.out.size)
  replace Xg0_0 := Lib.hid (Xg0_0.out.below b9 Xg0_0.out.size)
  replace K0 := Lib.hid (K0.out.below b9 K0.out.lt)
  replace K2 := Lib.hid (K2.out.below b9 K2.out.lt)
  replace Kw0 := Lib.hid (Kw0.out.below b9 Kw0.out.lt)
  replace Kx0 := Lib.hid (Kx0.out.below b9 Kx0.out.lt)
  replace Kg0 := Lib.hid (Kg0.out.below b9 Kg0.out.lt)
  replace HT := Lib.hid (HT.out.trans (b9.mono HT.out.size))
  clear b9
  clear zzKg0_0 zzKg0_1 zzKg0_2
  go_upto_region 24 with fail
  go_cut [16, 17] (fun s16 s17 wx => ∃ (bh0 : Nat) (uh0_0 : Value), s16 = .pointer (some ⟨bh0, 0, none⟩) ∧ s17 = .int .i64 (srC i0_0 i0_1 y0_0 a1 ⟨i2_0, i2_1, i2_2⟩) ∧ Below v9.heap.size v9 wx ∧ v9.heap.size ≤ bh0 ∧ Cels wx bh0 33 [.int .i64 (srI i0_0 i0_1 y0_0 a1 ⟨i2_0, i2_1, i2_2⟩ i0_0), .int .i64 (srI i0_0 i0_1 y0_0 a1 ⟨i2_0, i2_1, i2_2⟩ i0_1), uh0_0] ∧ OwR wx v9.heap.size wx.heap.size uh0_0 (srR i0_0 i0_1 y0_0 a1 ⟨i2_0, i2_1, i2_2⟩))
  case first =>
    have HS10 : Hid (∀ W', Below v9.heap.size v9 W' → W'.cell? ⟨w.heap.size, 0, none⟩ = some (.int .i64 i0_0) ∧ W'.cell? ⟨w.heap.size, 1, none⟩ = some (.int .i64 i0_1) ∧ W'.cell? ⟨w.heap.size, 2, none⟩ = some (.slice a0_0 len0_0 cap0_0) ∧ W'.cell? ⟨w.heap.size + 1, 0, none⟩ = some (.int .i64 i2_0) ∧ W'.cell? ⟨w.heap.size + 1, 1, none⟩ = some (.int .i64 i2_1) ∧ W'.cell? ⟨w.heap.size + 1, 2, none⟩ = some (.int .i64 i2_2)) := Lib.hid (fun W' hW' => ⟨(K0.out.below hW' K0.out.lt).cell 0 rfl, (K0.out.below hW' K0.out.lt).cell 1 rfl, (K0.out.below hW' K0.out.lt).cell 2 rfl, (K2.out.below hW' K2.out.lt).cell 0 rfl, (K2.out.below hW' K2.out.lt).cell 1 rfl, (K2.out.below hW' K2.out.lt).cell 2 rfl⟩)
    have HD : Hid (Below v9.heap.size v9 v9.drew) := Lib.hid (Below.refl _ _).drew
    go_region_held3 (fun w' => w'.cell? ⟨w.heap.size, 0, none⟩ = some (.int .i64 i0_0) ∧ w'.cell? ⟨w.heap.size, 1, none⟩ = some (.int .i64 i0_1) ∧ w'.cell? ⟨w.heap.size, 2, none⟩ = some (.slice a0_0 len0_0 cap0_0) ∧ w'.cell? ⟨w.heap.size + 1, 0, none⟩ = some (.int .i64 i2_0) ∧ w'.cell? ⟨w.heap.size + 1, 1, none⟩ = some (.int .i64 i2_1) ∧ w'.cell? ⟨w.heap.size + 1, 2, none⟩ = some (.int .i64 i2_2)) (first | exact HS10.out _ HD.out | exact HS10.out _ (HD.out.alloc HD.out.size _) | exact HS10.out _ (((Below.refl _ _).alloc (Nat.le_refl _) _).drew) | exact HS10.out _ (below_set (below_set (below_set HD.out HZb.out _ _) HZb.out _ _) HZb.out _ _) | exact HS10.out _ (below_set (below_set (below_set (HD.out.alloc HD.out.size _) HD.out.size _ _) HD.out.size _ _) HD.out.size _ _)) (first | (go_at_call 14; with_reducible refine (toMach i0_0 i0_1 _ y0_0 _ (by first | exact R0_0.out.below (HT.out.trans (HD.out.mono HT.out.size)) (Nat.le_refl _) | exact R0_0.out.below (HT.out.trans ((HD.out.alloc HD.out.size _).mono HT.out.size)) (Nat.le_refl _) | exact R0_0.out.below (HT.out.trans ((((Below.refl _ _).alloc (Nat.le_refl _) _).drew).mono HT.out.size)) (Nat.le_refl _))).mono ?_; rintro e w10 ⟨ud0_0, rfl, od0_0, bq⟩; (try (with_reducible have KZ := Lib.hid (cels_pre bq); have HZb := Lib.hid HD.out.size)); (try (with_reducible have KZ := Lib.hid (cels_preD bq); have HZb := Lib.hid (Nat.le_refl v9.heap.size))); (try with_reducible replace bq := below_pre bq); (try with_reducible replace bq := below_preD bq); (try replace KZ := Lib.hid (KZ.out.below bq KZ.out.lt)); have Xd0_0 := Lib.hid (od0_0.mono (by first | exact HD.out.size | exact (HD.out.alloc HD.out.size _).size | exact (((Below.refl _ _).alloc (Nat.le_refl _) _).drew).size : v9.heap.size ≤ _) (Nat.le_refl _) (Nat.le_refl _)); obtain ⟨gad0_0, gcd0_0, hud0_0⟩ := od0_0.shape; subst hud0_0; clear od0_0; replace HD := Lib.hid (HD.out.trans (bq.mono HD.out.size)); clear bq) | (go_at_call 40; with_reducible refine (toRule i2_0 i2_1 i2_2  _ ).mono ?_; rintro e w10 ⟨rfl, bq⟩; (try (with_reducible have KZ := Lib.hid (cels_pre bq); have HZb := Lib.hid HD.out.size)); (try (with_reducible have KZ := Lib.hid (cels_preD bq); have HZb := Lib.hid (Nat.le_refl v9.heap.size))); (try with_reducible replace bq := below_pre bq); (try with_reducible replace bq := below_preD bq); (try replace KZ := Lib.hid (KZ.out.below bq KZ.out.lt)); replace Xd0_0 := Lib.hid (Xd0_0.out.below bq Xd0_0.out.size); replace HD := Lib.hid (HD.out.trans (bq.mono HD.out.size)); clear bq) | (go_at_call 41; with_reducible refine (implSetRule i0_0 i0_1 _ y0_0 a1 i2_0 i2_1 i2_2 _ (by first | exact Xd0_0.out.rd | exact (Xd0_0.out.below ((Below.refl _ _).alloc (Nat.le_refl _) _) Xd0_0.out.size).rd) (by first | exact HN.out.below (HT.out.trans (HD.out.mono HT.out.size)) (Nat.le_refl _) | exact HN.out.below (HT.out.trans ((HD.out.alloc HD.out.size _).mono HT.out.size)) (Nat.le_refl _) | exact HN.out.below (HT.out.trans ((((Below.refl _ _).alloc (Nat.le_refl _) _).drew).mono HT.out.size)) (Nat.le_refl _))).mono ?_; rintro e w10 ⟨uh0_0, rfl, oh0_0, bq⟩; (try (with_reducible have KZ := Lib.hid (cels_pre bq); have HZb := Lib.hid HD.out.size)); (try (with_reducible have KZ := Lib.hid (cels_preD bq); have HZb := Lib.hid (Nat.le_refl v9.heap.size))); (try with_reducible replace bq := below_pre bq); (try with_reducible replace bq := below_preD bq); (try replace KZ := Lib.hid (KZ.out.below bq KZ.out.lt)); have Xh0_0 := Lib.hid (oh0_0.mono (by first | exact HD.out.size | exact (HD.out.alloc HD.out.size _).size | exact (((Below.refl _ _).alloc (Nat.le_refl _) _).drew).size : v9.heap.size ≤ _) (Nat.le_refl _) (Nat.le_refl _)); replace Xd0_0 := Lib.hid (Xd0_0.out.below bq Xd0_0.out.size); obtain ⟨gah0_0, gch0_0, huh0_0⟩ := oh0_0.shape; subst huh0_0; clear oh0_0; replace HD := Lib.hid (HD.out.trans (bq.mono HD.out.size)); clear bq; (try (have HF := Lib.hid (put3 KZ.out (.int .i64 (srI i0_0 i0_1 y0_0 a1 ⟨i2_0, i2_1, i2_2⟩ i0_0)) (.int .i64 (srI i0_0 i0_1 y0_0 a1 ⟨i2_0, i2_1, i2_2⟩ i0_1)) (.slice gah0_0 (srR i0_0 i0_1 y0_0 a1 ⟨i2_0, i2_1, i2_2⟩).length gch0_0)); obtain ⟨f1, f2, f3, f4, f5, f6, f7⟩ := HF.out; have HF7 := Lib.hid f7; clear f7))))
    all_goals (go_wp2_with fail; go_meet)
    all_goals first | exact ⟨_, _, rfl, rfl, below_set (below_set (below_set HD.out HZb.out _ _) HZb.out _ _) HZb.out _ _, HZb.out, HF7.out, (Xh0_0.out.grown (put3g KZ.out _ _ _) (Or.inr (Xh0_0.out.nblk KZ.out (by decide)))).up⟩ | exact ⟨_, _, rfl, rfl, HD.out.alloc HD.out.size _, HD.out.size, Cels.new _ _ _, (Xh0_0.out.below ((Below.refl _ _).alloc (Nat.le_refl _) _) Xh0_0.out.size).up⟩
  obtain ⟨bh0, uh0_0, rfl, rfl, bq, hb10, hK10, oh0_0⟩ := hcut
  obtain ⟨w10, hw10⟩ : ∃ x, x = wc := ⟨_, rfl⟩
  subst hw10
  have Sw0_0_h0_0 := Lib.hid (sep_of Xw0_0.out.top oh0_0.row.lt Xw0_0.out.size)
  have Sg0_0_h0_0 := Lib.hid (sep_of Xg0_0.out.top oh0_0.row.lt Xg0_0.out.size)
  have Lh0_0 := Lib.hid HT.out.size
  replace Xw0_0 := Lib.hid (Xw0_0.out.below bq Xw0_0.out.size)
  replace Xg0_0 := Lib.hid (Xg0_0.out.below bq Xg0_0.out.size)
  replace K0 := Lib.hid (K0.out.below bq K0.out.lt)
  replace K2 := Lib.hid (K2.out.below bq K2.out.lt)
  replace Kw0 := Lib.hid (Kw0.out.below bq Kw0.out.lt)
  replace Kx0 := Lib.hid (Kx0.out.below bq Kx0.out.lt)
  replace Kg0 := Lib.hid (Kg0.out.below bq Kg0.out.lt)
  replace HT := Lib.hid (HT.out.trans (bq.mono HT.out.size))
  have Xh0_0 := Lib.hid oh0_0
  obtain ⟨gah0_0, gch0_0, huh0_0⟩ := oh0_0.shape
  subst huh0_0
  clear oh0_0
  clear bq
  have Kh0 := Lib.hid hK10
  clear hK10 hb10
  have zzKh0_0 := Kh0.out.cell 0 rfl
  have zzKh0_1 := Kh0.out.cell 1 rfl
  have zzKh0_2 := Kh0.out.cell 2 rfl
  have zzKw0_0 := Kw0.out.cell 0 rfl
  have zzKw0_1 := Kw0.out.cell 1 rfl
  have zzKw0_2 := Kw0.out.cell 2 rfl
  go_wp2_with fail
  refine (eqMach _ _ _ _ _ _ Xh0_0.out.rd Xw0_0.out.rd).mono ?_
  rintro e v11 ⟨rfl, b11⟩
  replace Xw0_0 := Lib.hid (Xw0_0.out.below b11 Xw0_0.out.size)
  replace Xg0_0 := Lib.hid (Xg0_0.out.below b11 Xg0_0.out.size)
  replace Xh0_0 := Lib.hid (Xh0_0.out.below b11 Xh0_0.out.size)
  replace K0 := Lib.hid (K0.out.below b11 K0.out.lt)
  replace K2 := Lib.hid (K2.out.below b11 K2.out.lt)
  replace Kw0 := Lib.hid (Kw0.out.below b11 Kw0.out.lt)
  replace Kx0 := Lib.hid (Kx0.out.below b11 Kx0.out.lt)
  replace Kg0 := Lib.hid (Kg0.out.below b11 Kg0.out.lt)
  replace Kh0 := Lib.hid (Kh0.out.below b11 Kh0.out.lt)
  replace HT := Lib.hid (HT.out.trans (b11.mono HT.out.size))
  clear b11
  clear zzKh0_0 zzKh0_1 zzKh0_2 zzKw0_0 zzKw0_1 zzKw0_2
  have zzKg0_0 := Kg0.out.cell 0 rfl
  have zzKg0_1 := Kg0.out.cell 1 rfl
  have zzKg0_2 := Kg0.out.cell 2 rfl
  go_wp2_with fail
  refine (heldMach _ _ _ _ 1 _ Xg0_0.out.rd (by omega) (by omega) (by omega)).mono ?_
  rintro e v12 ⟨rfl, b12⟩
  replace Xw0_0 := Lib.hid (Xw0_0.out.below b12 Xw0_0.out.size)
  replace Xg0_0 := Lib.hid (Xg0_0.out.below b12 Xg0_0.out.size)
  replace Xh0_0 := Lib.hid (Xh0_0.out.below b12 Xh0_0.out.size)
  replace K0 := Lib.hid (K0.out.below b12 K0.out.lt)
  replace K2 := Lib.hid (K2.out.below b12 K2.out.lt)
  replace Kw0 := Lib.hid (Kw0.out.below b12 Kw0.out.lt)
  replace Kx0 := Lib.hid (Kx0.out.below b12 Kx0.out.lt)
  replace Kg0 := Lib.hid (Kg0.out.below b12 Kg0.out.lt)
  replace Kh0 := Lib.hid (Kh0.out.below b12 Kh0.out.lt)
  replace HT := Lib.hid (HT.out.trans (b12.mono HT.out.size))
  clear b12
  go_wp2
  go_ret
  exact ⟨rfl, HB0.out.trans (HT.out.mono HB0.out.size)⟩

set_option maxRecDepth 100000 in
theorem lifted (os : Os) (started : os.Started) (H : Type) (enc : TypeId × Value → H) :
    ReturnsInHanded {} Tryd.checked os 10 .any (fun w args => (Rows.fnExactSetRuleSpec.pre enc Tryd.prog Tryd.f10 [] false w args ∧ laidMetH Tryd.prog Rows.fnExactSetRuleRow.laid w) ∧ sizedMet enc Tryd.prog Tryd.f10 (OpenSpec.ofChange Rows.fnExactSetRuleSpec) false w args) (Rows.fnExactSetRuleSpec.post enc Tryd.prog Tryd.f10 false true false false) := by
  refine returnsInHanded_of_change_and (C := Tryd.checked) (X := fun w _ => laidMetH Tryd.prog Rows.fnExactSetRuleRow.laid w) (fun _ _ _ hh h => h.of_heap hh) own started (by kernel_rfl) Tryd.func10
    (ChangeSpec.witness_shaped (enc := enc) (C := Tryd.checked) (os := os) (X := fun w _ => laidMetH Tryd.prog Rows.fnExactSetRuleRow.laid w) false (World.laidAll Tryd.prog os Rows.fnExactSetRuleRow.laid) #[.agg #[.int .i64 0, .int .i64 0, .slice none 0 0], .int .i64 0, .agg #[.int .i64 0, .int .i64 0, .int .i64 0]] 8 (World.laidAll_os _ _ _) (World.shaped_of_ZipB (by kernel_rfl) (by kernel_rfl)) (by kernel_rfl) (by kernel_rfl) (by kernel_rfl)
      (by rw [MakeChecks.laidMetH_plain _ _ _ (by kernel_rfl)]; exact laidMet_laidAll _ (by kernel_rfl) (by kernel_rfl))) ?_
  intro W base args ds gs before hval0 hW _ _ hL _
  have hval : ∀ (j : Nat) t v, Tryd.f10.params[j]? = some t → args[j]? = some v → Value.okWide Tryd.prog W .any base t v := hval0
  have hW' := hW
  obtain ⟨p, q, hA0, hV, rfl, hfz, hnd⟩ := hW
  have hA : DataW.TrodAll enc Tryd.prog W 0 (fun _ => true) true Tryd.f10.params.toList args.toList ds p := hA0
  rw [Tryd.params10] at hA hval
  obtain ⟨v0, vs0, d0, ds0, p0, q0, hargs, rfl, rfl, h0, r0⟩ := trodAll_cons hA
  obtain ⟨v1, vs1, d1, ds1, p1, q1, rfl, rfl, rfl, h1, r1⟩ := trodAll_cons r0
  obtain ⟨v2, vs2, d2, ds2, p2, q2, rfl, rfl, rfl, h2, r2⟩ := trodAll_cons r1
  obtain ⟨rfl, rfl, rfl⟩ := trodAll_nil r2
  obtain rfl : args = #[v0, v1, v2] := by cases args; simp_all
  have hV1 : DataW.TrodVars enc Tryd.prog W (fun _ => true) Rows.fnExactSetRuleSpec.vars gs q := hV
  have k0 := h0
  have lt0 : ∀ x ∈ p0, x.block < W.heap.size := by obtain ⟨m, hm⟩ := k0; exact DataW.trod_lt m _ _ _ hm
  obtain ⟨c0_0, c0_1, c0_2, y0_0, y0_1, y0_2, n0, rfl, _, _, t0_0, t0_1, t0_2⟩ := Go.Joins.open_agg3 Tryd.underlying24 (by kernel_rfl) (by kernel_rfl) (hval 0 24 v0 rfl rfl) h0
  obtain ⟨i0_0, e0_0, _, j0_0⟩ := DataW.trod_int Tryd.underlying2 t0_0
  simp only [List.cons.injEq, and_true] at e0_0
  subst e0_0
  obtain ⟨i0_1, e0_1, _, j0_1⟩ := DataW.trod_int Tryd.underlying2 t0_1
  simp only [List.cons.injEq, and_true] at e0_1
  subst e0_1
  obtain ⟨a0_0, len0_0, cap0_0, z0_0, e0_0, w0_0⟩ := open_rules t0_2
  simp only [List.cons.injEq, and_true] at e0_0
  subst e0_0
  obtain ⟨a1, rfl, rfl, rfl, w1⟩ := open_int Tryd.underlying2 (hval 1 2 v1 rfl rfl) h1
  have k2 := h2
  have lt2 : ∀ x ∈ p2, x.block < W.heap.size := by obtain ⟨m, hm⟩ := k2; exact DataW.trod_lt m _ _ _ hm
  obtain ⟨c2_0, c2_1, c2_2, y2_0, y2_1, y2_2, n2, rfl, _, _, t2_0, t2_1, t2_2⟩ := Go.Joins.open_agg3 Tryd.underlying57 (by kernel_rfl) (by kernel_rfl) (hval 2 57 v2 rfl rfl) h2
  obtain ⟨i2_0, e2_0, _, j2_0⟩ := DataW.trod_int Tryd.underlying2 t2_0
  simp only [List.cons.injEq, and_true] at e2_0
  subst e2_0
  obtain ⟨i2_1, e2_1, _, j2_1⟩ := DataW.trod_int Tryd.underlying2 t2_1
  simp only [List.cons.injEq, and_true] at e2_1
  subst e2_1
  obtain ⟨i2_2, e2_2, _, j2_2⟩ := DataW.trod_int Tryd.underlying2 t2_2
  simp only [List.cons.injEq, and_true] at e2_2
  subst e2_2
  clear hA0 hval0
  obtain ⟨gv, rfl⟩ : ∃ x, gs = [x] := by
    obtain ⟨_, _, _, _, x, _, rfl, _⟩ := trodVars_one (show DataW.TrodVars enc Tryd.prog W (fun _ => true) ["loop.example/g01079/impl.noRule"] gs q from hV1)
    exact ⟨x, rfl⟩
  refine (walk i0_0 i0_1 a0_0 len0_0 cap0_0 z0_0 a1 i2_0 i2_1 i2_2 W j0_0 j0_1 w0_0 w1 j2_0 j2_1 j2_2 (noR_of_laid hL)).mono fun e W' ⟨he, bel⟩ => ?_
  subst he
  exact ⟨_, rfl, _, _, _, [], _, q, hW', trodAll_mk1 (shut_bool Tryd.underlying4 _), (trodAll_cons_mk (Below.trod laidOut (by kernel_rfl) (of_decide_eq_true (by kernel_rfl)) k0 bel lt0) (trodAll_cons_mk (shut_int Tryd.underlying2 w1) (trodAll_cons_mk (Below.trod laidOut (by kernel_rfl) (of_decide_eq_true (by kernel_rfl)) k2 bel lt2) trodAll_mk0))), bel.trodVars laidOut (by kernel_rfl) hV1, bel.frame _, fun h => by cases h⟩

theorem over : Rows.fnExactSetRuleRow.holds Tryd.pinned (OpenSpec.ofChange Rows.fnExactSetRuleSpec) :=
  OpenClaim.holds_of_wide 10 Tryd.f10 rfl rfl rfl rfl rfl rfl rfl ⟨rfl, rfl, rfl, rfl, rfl⟩ rfl rfl rfl rfl rfl (by kernel_rfl) Tryd.func10 (by kernel_rfl)
    (of_decide_eq_true (by kernel_rfl)) (by unfold Func.isWrapper; first | (rw [if_pos (by decide +kernel)]; kernel_rfl) | (rw [if_neg (by decide +kernel)]; exact ⟨rfl, rfl⟩))
    (fun os started H enc _ => lifted os started H enc)

/-- The statement: the tied card. -/
theorem proved : Rows.FnExactSetRuleCardSaid :=
  Claim7.holds_tied_plain_at .later [] [.data] true (true, "c55629d5258df5787542cb948229df54977e89236064997cf78e3dd7c72c83a1") false over (fun _ h => by cases h) (by kernel_rfl) (fun _ h => by cases h) fnExactSetRule_row_tie rfl ⟨rfl, rfl⟩ (by kernel_rfl) rfl
    (fun f fn hf hfn => by
      obtain rfl : f = 10 := Option.some.inj ((show Tryd.prog.funcNamed "loop.example/g01079/laws.FnExactSetRule" = some 10 by kernel_rfl).symm.trans hf) |>.symm
      obtain rfl : fn = Tryd.f10 := (Option.some.inj (Tryd.func10.symm.trans hfn)).symm
      exact ⟨by kernel_rfl, fun j t ht => by
        rw [Tryd.params10] at ht
        have hm : t ∈ [24, 2, 57] := by simpa using Array.mem_of_getElem? ht
        have hall : ([24, 2, 57].all fun u => !Tryd.prog.wantsStandIn u) = true := by kernel_rfl
        exact (show Tryd.prog.wantsStandIn t = false by simpa using List.all_eq_true.1 hall t hm)⟩)
    (by kernel_rfl)
#print axioms proved
end Go.Proofs.YtmgogbcipdjddaaDoor.fnExactSetRule
