/-   FnExactRunProgram: for every list of instructions, every store and every budget the program's RunProgram answers as its model, store, number, whether it halts and code, leaves its arguments alone, and its answer is its own; the library's variable errors.errorType is read as start-up lays it (tied). No condition. -/
import Derived.Test.YtgbhbbapkpgmiaaDoorRows
import Derived.Test.YtgbhbbapkpgmiaaDoorCards
import Derived.Test.YtgbhbbapkpgmiaaDoorTie
import Derived.WalkKit
import Derived.ProofKit
import Derived.OpenShut
import Derived.ShutString
import Derived.ChangeOld
import Derived.Below
import Derived.Lib.SmallJoins
import Derived.Deep.Strs
import Derived.OpenVars
import Derived.LaidMore
import Derived.Lay
import Derived.LaidOnce
import Derived.SevenTiedAt
import Derived.Stop.Joined
import Derived.LaidLaws
import Derived.LaidHandle
import Derived.ChangeSame
import Derived.ChangeVars
import Derived.JoinedOf
import Derived.RowKit
import Derived.RowKitTokens
import Derived.Handy
import Derived.Lib.Hide
import Derived.Deep.RegionHeld3
import Derived.Deep.DeepCutAuto
import Derived.Test.YtgbhbbapkpgmiaaDoorRpT
import Derived.Test.YtgbhbbapkpgmiaaDoorSto
import Derived.Test.YtgbhbbapkpgmiaaDoorCelD
namespace Go.Proofs.YtgbhbbapkpgmiaaDoor.fnExactRunProgram
open Go.ChangeShapes Go.WideShapes Go.ChangeAt Go.RowKit
set_option linter.unusedVariables false
set_option linter.unusedSimpArgs false

theorem own : ownKnob Tryd.prog.godebug = none := by kernel_rfl
theorem laidOut : laidOutB Tryd.prog = true := by kernel_rfl
open Ints

set_option maxHeartbeats 8000000 in
set_option maxRecDepth 100000 in
theorem walk (a0_0 : Option Addr) (len0_0 cap0_0 : Nat) (z0_0 : List Ins) (i1_0 : Int) (a1_0 : Option Addr) (len1_0 cap1_0 : Nat) (z1_0 : List Int) (a2 : Int) (w : World) (w0_0 : IsIns w a0_0 len0_0 cap0_0 z0_0) (j1_0 : (Lit.int .i64 i1_0).wf = true) (w1_0 : IsList w a1_0 len1_0 cap1_0 z1_0) (w2 : (Lit.int .i64 a2).wf = true) (hev : EtV w) :
    Calls Tryd.prog 4 #[.slice a0_0 len0_0 cap0_0, .agg #[.int .i64 i1_0, .slice a1_0 len1_0 cap1_0], .int .i64 a2] w fun e w' => e = .returned (.bool true) ∧ Below w.heap.size w w' := by
  have hz0_0 := w0_0.le
  obtain ⟨l0_0, hl0_0⟩ : ∃ l : Int, l = 1048576 - (len0_0 : Int) := ⟨_, rfl⟩
  have hz1_0 := w1_0.le
  obtain ⟨l1_0, hl1_0⟩ : ∃ l : Int, l = l0_0 - (len1_0 : Int) := ⟨_, rfl⟩
  by_cases hn0_0 : 0 ≤ l0_0
  rotate_left
  · have hm0_0 : l0_0 < 0 := by omega
    obtain ⟨W0, hW0⟩ : ∃ x, x = (w.alloc (Obj.cells #[.int .i64 i1_0, .slice a1_0 len1_0 cap1_0] 37)) := ⟨_, rfl⟩
    have HB0 : Hid (Below w.heap.size w W0) := Lib.hid (by rw [hW0]; exact ((Below.refl w.heap.size w).alloc (Nat.le_refl _) _))
    have K1 : Hid (Cels W0 (w.heap.size) 37 [.int .i64 i1_0, .slice a1_0 len1_0 cap1_0]) := Lib.hid (by rw [hW0]; have h := (Cels.new w 37 [.int .i64 i1_0, .slice a1_0 len1_0 cap1_0]); first | exact h | (simp only [World.size_alloc] at h; exact h))
    have AK1 : Hid (w.heap.size < W0.heap.size) := Lib.hid K1.out.lt
    have HW0 := Lib.hid hW0.symm
    clear hW0
    have HL0_0 := Lib.hid hl0_0
    clear hl0_0
    have HL1_0 := Lib.hid hl1_0
    clear hl1_0
    go_enter Tryd.func4, Tryd.ntmps4
    go_wp2_with fail
    rw [HW0.out]
    have HT : Hid (Below W0.heap.size W0 W0) := Lib.hid (Below.refl _ _)
    refine (szIns_bad0  _ _ _ _ (by have := HL0_0.out; have := HL1_0.out; omega) HL0_0.out hm0_0 hz0_0).mono ?_
    rintro e vz0 ⟨rfl, bz⟩
    replace HT := Lib.hid (HT.out.trans (bz.mono HT.out.size))
    clear bz
    go_wp2
    go_ret
    exact ⟨rfl, HB0.out.trans (HT.out.mono HB0.out.size)⟩
  have hm0_0 : ¬ l0_0 < 0 := by omega
  by_cases hn1_0 : 0 ≤ l1_0
  rotate_left
  · have hm1_0 : l1_0 < 0 := by omega
    obtain ⟨W0, hW0⟩ : ∃ x, x = (w.alloc (Obj.cells #[.int .i64 i1_0, .slice a1_0 len1_0 cap1_0] 37)) := ⟨_, rfl⟩
    have HB0 : Hid (Below w.heap.size w W0) := Lib.hid (by rw [hW0]; exact ((Below.refl w.heap.size w).alloc (Nat.le_refl _) _))
    have K1 : Hid (Cels W0 (w.heap.size) 37 [.int .i64 i1_0, .slice a1_0 len1_0 cap1_0]) := Lib.hid (by rw [hW0]; have h := (Cels.new w 37 [.int .i64 i1_0, .slice a1_0 len1_0 cap1_0]); first | exact h | (simp only [World.size_alloc] at h; exact h))
    have AK1 : Hid (w.heap.size < W0.heap.size) := Lib.hid K1.out.lt
    have HW0 := Lib.hid hW0.symm
    clear hW0
    have HL0_0 := Lib.hid hl0_0
    clear hl0_0
    have HL1_0 := Lib.hid hl1_0
    clear hl1_0
    go_enter Tryd.func4, Tryd.ntmps4
    go_wp2_with fail
    rw [HW0.out]
    have HT : Hid (Below W0.heap.size W0 W0) := Lib.hid (Below.refl _ _)
    refine (szIns  _ _ _ _ (by have := HL0_0.out; have := HL1_0.out; omega) HL0_0.out hn0_0 hz0_0).mono ?_
    rintro e vz0 ⟨rfl, bz⟩
    replace K1 := Lib.hid (K1.out.below bz K1.out.lt)
    replace HT := Lib.hid (HT.out.trans (bz.mono HT.out.size))
    clear bz
    have zzK1_0 := K1.out.cell 0 rfl
    have zzK1_1 := K1.out.cell 1 rfl
    go_wp2_with fail
    refine (szSto_bad0 i1_0 _ _ _ _ (by have := HL0_0.out; have := HL1_0.out; omega) HL1_0.out hm1_0 hz1_0).mono ?_
    rintro e vz1 ⟨rfl, bz⟩
    replace HT := Lib.hid (HT.out.trans (bz.mono HT.out.size))
    clear bz
    go_wp2
    go_ret
    exact ⟨rfl, HB0.out.trans (HT.out.mono HB0.out.size)⟩
  have hm1_0 : ¬ l1_0 < 0 := by omega
  obtain ⟨y0_0, hy0_0⟩ : ∃ y, y = z0_0.take len0_0 := ⟨_, rfl⟩
  have R0_0 : Hid (RdIns w (.slice a0_0 len0_0 cap0_0) y0_0) := Lib.hid (by rw [hy0_0]; exact rdIns_of_row w0_0 (by omega))
  clear hy0_0 w0_0
  obtain ⟨y1_0, hy1_0⟩ : ∃ y, y = z1_0.take len1_0 := ⟨_, rfl⟩
  have R1_0 : Hid (Rd w (.slice a1_0 len1_0 cap1_0) y1_0) := Lib.hid (by rw [hy1_0]; exact rd_of_row w1_0 (by omega))
  clear hy1_0 w1_0
  obtain ⟨W0, hW0⟩ : ∃ x, x = (w.alloc (Obj.cells #[.int .i64 i1_0, .slice a1_0 len1_0 cap1_0] 37)) := ⟨_, rfl⟩
  have HB0 : Hid (Below w.heap.size w W0) := Lib.hid (by rw [hW0]; exact ((Below.refl w.heap.size w).alloc (Nat.le_refl _) _))
  have K1 : Hid (Cels W0 (w.heap.size) 37 [.int .i64 i1_0, .slice a1_0 len1_0 cap1_0]) := Lib.hid (by rw [hW0]; have h := (Cels.new w 37 [.int .i64 i1_0, .slice a1_0 len1_0 cap1_0]); first | exact h | (simp only [World.size_alloc] at h; exact h))
  have AK1 : Hid (w.heap.size < W0.heap.size) := Lib.hid K1.out.lt
  have HW0 := Lib.hid hW0.symm
  clear hW0
  have HL0_0 := Lib.hid hl0_0
  clear hl0_0
  have HL1_0 := Lib.hid hl1_0
  clear hl1_0
  replace R0_0 := Lib.hid (R0_0.out.below HB0.out (Nat.le_refl _))
  replace R1_0 := Lib.hid (R1_0.out.below HB0.out (Nat.le_refl _))
  have HN := Lib.hid (hev.below HB0.out (Nat.le_refl _))
  clear hev
  go_enter Tryd.func4, Tryd.ntmps4
  go_wp2_with fail
  rw [HW0.out]
  have HT : Hid (Below W0.heap.size W0 W0) := Lib.hid (Below.refl _ _)
  refine (szIns  _ _ _ _ (by have := HL0_0.out; have := HL1_0.out; omega) HL0_0.out hn0_0 hz0_0).mono ?_
  rintro e vz0 ⟨rfl, bz⟩
  replace K1 := Lib.hid (K1.out.below bz K1.out.lt)
  replace HT := Lib.hid (HT.out.trans (bz.mono HT.out.size))
  clear bz
  have zzK1_0 := K1.out.cell 0 rfl
  have zzK1_1 := K1.out.cell 1 rfl
  go_wp2_with fail
  refine (szSto i1_0 _ _ _ _ (by have := HL0_0.out; have := HL1_0.out; omega) HL1_0.out hn1_0 hz1_0).mono ?_
  rintro e vz1 ⟨rfl, bz⟩
  replace K1 := Lib.hid (K1.out.below bz K1.out.lt)
  replace HT := Lib.hid (HT.out.trans (bz.mono HT.out.size))
  clear bz
  clear HL0_0 hn0_0 hz0_0 HL1_0 hn1_0 hz1_0
  clear zzK1_0 zzK1_1
  go_upto_region 8 with fail
  go_cut [8, 9, 10, 11] (fun s8 s9 s10 s11 wx => ∃ (bw0 : Nat) (uw0_0 : Value), s8 = .pointer (some ⟨bw0, 0, none⟩) ∧ s9 = .int .i64 (rpR y0_0 i1_0 y1_0 a2).n ∧ s10 = .bool (rpR y0_0 i1_0 y1_0 a2).h ∧ s11 = .int .i64 (rpR y0_0 i1_0 y1_0 a2).code ∧ Below vz1.heap.size vz1 wx ∧ vz1.heap.size ≤ bw0 ∧ Cels wx bw0 39 [.int .i64 (rpR y0_0 i1_0 y1_0 a2).at', uw0_0] ∧ Ow wx vz1.heap.size wx.heap.size uw0_0 (rpR y0_0 i1_0 y1_0 a2).cs)
  case first =>
    have HS1 : Hid (∀ W', Below vz1.heap.size vz1 W' → W'.cell? ⟨w.heap.size, 0, none⟩ = some (.int .i64 i1_0) ∧ W'.cell? ⟨w.heap.size, 1, none⟩ = some (.slice a1_0 len1_0 cap1_0)) := Lib.hid (fun W' hW' => ⟨(K1.out.below hW' K1.out.lt).cell 0 rfl, (K1.out.below hW' K1.out.lt).cell 1 rfl⟩)
    have HD : Hid (Below vz1.heap.size vz1 vz1.drew) := Lib.hid (Below.refl _ _).drew
    go_region_held3 (fun w' => w'.cell? ⟨w.heap.size, 0, none⟩ = some (.int .i64 i1_0) ∧ w'.cell? ⟨w.heap.size, 1, none⟩ = some (.slice a1_0 len1_0 cap1_0)) (first | exact HS1.out _ HD.out | exact HS1.out _ (HD.out.alloc HD.out.size _) | exact HS1.out _ (((Below.refl _ _).alloc (Nat.le_refl _) _).drew) | exact HS1.out _ (below_set (below_set HD.out HZb.out _ _) HZb.out _ _) | exact HS1.out _ (below_set (below_set (HD.out.alloc HD.out.size _) HD.out.size _ _) HD.out.size _ _)) (first | (go_at_call 14; with_reducible refine (toIns  _ y0_0 _ (by first | exact R0_0.out.below (HT.out.trans (HD.out.mono HT.out.size)) (Nat.le_refl _) | exact R0_0.out.below (HT.out.trans ((HD.out.alloc HD.out.size _).mono HT.out.size)) (Nat.le_refl _) | exact R0_0.out.below (HT.out.trans ((((Below.refl _ _).alloc (Nat.le_refl _) _).drew).mono HT.out.size)) (Nat.le_refl _))).mono ?_; rintro e w1 ⟨us0_0, rfl, os0_0, bq⟩; (try (with_reducible have KZ := Lib.hid (cels_pre bq); have HZb := Lib.hid HD.out.size)); (try (with_reducible have KZ := Lib.hid (cels_preD bq); have HZb := Lib.hid (Nat.le_refl vz1.heap.size))); (try with_reducible replace bq := below_pre bq); (try with_reducible replace bq := below_preD bq); (try replace KZ := Lib.hid (KZ.out.below bq KZ.out.lt)); have Xs0_0 := Lib.hid (os0_0.mono (by first | exact HD.out.size | exact (HD.out.alloc HD.out.size _).size | exact (((Below.refl _ _).alloc (Nat.le_refl _) _).drew).size : vz1.heap.size ≤ _) (Nat.le_refl _) (Nat.le_refl _)); obtain ⟨gas0_0, gcs0_0, hus0_0⟩ := os0_0.shape; subst hus0_0; clear os0_0; replace HD := Lib.hid (HD.out.trans (bq.mono HD.out.size)); clear bq) | (go_at_call 21; with_reducible refine (toSto i1_0 _ y1_0 _ (by first | exact R1_0.out.below (HT.out.trans (HD.out.mono HT.out.size)) (Nat.le_refl _) | exact R1_0.out.below (HT.out.trans ((HD.out.alloc HD.out.size _).mono HT.out.size)) (Nat.le_refl _) | exact R1_0.out.below (HT.out.trans ((((Below.refl _ _).alloc (Nat.le_refl _) _).drew).mono HT.out.size)) (Nat.le_refl _))).mono ?_; rintro e w1 ⟨us1_0, rfl, os1_0, bq⟩; (try (with_reducible have KZ := Lib.hid (cels_pre bq); have HZb := Lib.hid HD.out.size)); (try (with_reducible have KZ := Lib.hid (cels_preD bq); have HZb := Lib.hid (Nat.le_refl vz1.heap.size))); (try with_reducible replace bq := below_pre bq); (try with_reducible replace bq := below_preD bq); (try replace KZ := Lib.hid (KZ.out.below bq KZ.out.lt)); have Xs1_0 := Lib.hid (os1_0.mono (by first | exact HD.out.size | exact (HD.out.alloc HD.out.size _).size | exact (((Below.refl _ _).alloc (Nat.le_refl _) _).drew).size : vz1.heap.size ≤ _) (Nat.le_refl _) (Nat.le_refl _)); replace Xs0_0 := Lib.hid (Xs0_0.out.below bq Xs0_0.out.size); obtain ⟨gas1_0, gcs1_0, hus1_0⟩ := os1_0.shape; subst hus1_0; clear os1_0; replace HD := Lib.hid (HD.out.trans (bq.mono HD.out.size)); clear bq) | (go_at_call 20; with_reducible refine (specRP _ y0_0 i1_0 _ y1_0 a2 _ (by first | exact Xs0_0.out.rd | exact (Xs0_0.out.below ((Below.refl _ _).alloc (Nat.le_refl _) _) Xs0_0.out.size).rd) (by first | exact Xs1_0.out.rd | exact (Xs1_0.out.below ((Below.refl _ _).alloc (Nat.le_refl _) _) Xs1_0.out.size).rd)).mono ?_; rintro e w1 ⟨uw0_0, rfl, ow0_0, bq⟩; (try (with_reducible have KZ := Lib.hid (cels_pre bq); have HZb := Lib.hid HD.out.size)); (try (with_reducible have KZ := Lib.hid (cels_preD bq); have HZb := Lib.hid (Nat.le_refl vz1.heap.size))); (try with_reducible replace bq := below_pre bq); (try with_reducible replace bq := below_preD bq); (try replace KZ := Lib.hid (KZ.out.below bq KZ.out.lt)); have Xw0_0 := Lib.hid (ow0_0.mono (by first | exact HD.out.size | exact (HD.out.alloc HD.out.size _).size | exact (((Below.refl _ _).alloc (Nat.le_refl _) _).drew).size : vz1.heap.size ≤ _) (Nat.le_refl _) (Nat.le_refl _)); replace Xs0_0 := Lib.hid (Xs0_0.out.below bq Xs0_0.out.size); replace Xs1_0 := Lib.hid (Xs1_0.out.below bq Xs1_0.out.size); obtain ⟨gaw0_0, gcw0_0, huw0_0⟩ := ow0_0.shape; subst huw0_0; clear ow0_0; replace HD := Lib.hid (HD.out.trans (bq.mono HD.out.size)); clear bq; (try (have HF := Lib.hid (put2s KZ.out (.int .i64 (rpR y0_0 i1_0 y1_0 a2).at') (.slice gaw0_0 (rpR y0_0 i1_0 y1_0 a2).cs.length gcw0_0)); obtain ⟨f1, f2, f3, f4, f7⟩ := HF.out; have HF7 := Lib.hid f7; clear f7))))
    all_goals (go_wp2_with fail; go_meet)
    all_goals first | exact ⟨_, _, rfl, rfl, rfl, rfl, below_set (below_set HD.out HZb.out _ _) HZb.out _ _, HZb.out, HF7.out, (Xw0_0.out.grown (put2sg KZ.out _ _) (Or.inr (Xw0_0.out.nblk KZ.out (by decide)))).up⟩ | exact ⟨_, _, rfl, rfl, rfl, rfl, HD.out.alloc HD.out.size _, HD.out.size, Cels.new _ _ _, (Xw0_0.out.below ((Below.refl _ _).alloc (Nat.le_refl _) _) Xw0_0.out.size).up⟩
  obtain ⟨bw0, uw0_0, rfl, rfl, rfl, rfl, bq, hb1, hK1, ow0_0⟩ := hcut
  obtain ⟨w1, hw1⟩ : ∃ x, x = wc := ⟨_, rfl⟩
  subst hw1
  have Lw0_0 := Lib.hid HT.out.size
  replace K1 := Lib.hid (K1.out.below bq K1.out.lt)
  replace HT := Lib.hid (HT.out.trans (bq.mono HT.out.size))
  have Xw0_0 := Lib.hid ow0_0
  obtain ⟨gaw0_0, gcw0_0, huw0_0⟩ := ow0_0.shape
  subst huw0_0
  clear ow0_0
  clear bq
  have Kw0 := Lib.hid hK1
  clear hK1 hb1
  go_wp2_with fail
  refine (toIns  _ y0_0 _ (R0_0.out.below HT.out (Nat.le_refl _))).mono ?_
  rintro e v2 ⟨ux0_0, rfl, ox0_0, b2⟩
  have Sw0_0_x0_0 := Lib.hid (sep_of Xw0_0.out.top ox0_0.row.lt Xw0_0.out.size)
  have Lx0_0 := Lib.hid HT.out.size
  replace Xw0_0 := Lib.hid (Xw0_0.out.below b2 Xw0_0.out.size)
  replace K1 := Lib.hid (K1.out.below b2 K1.out.lt)
  replace Kw0 := Lib.hid (Kw0.out.below b2 Kw0.out.lt)
  replace HT := Lib.hid (HT.out.trans (b2.mono HT.out.size))
  have Xx0_0 := Lib.hid ox0_0
  obtain ⟨gax0_0, gcx0_0, hux0_0⟩ := ox0_0.shape
  subst hux0_0
  clear ox0_0
  clear b2
  have zzK1_0 := K1.out.cell 0 rfl
  have zzK1_1 := K1.out.cell 1 rfl
  go_wp2_with fail
  refine (toSto i1_0 _ y1_0 _ (R1_0.out.below HT.out (Nat.le_refl _))).mono ?_
  rintro e v3 ⟨ux1_0, rfl, ox1_0, b3⟩
  have Sw0_0_x1_0 := Lib.hid (sep_of Xw0_0.out.top ox1_0.row.lt Xw0_0.out.size)
  have Sx0_0_x1_0 := Lib.hid (sep_of Xx0_0.out.top ox1_0.row.lt Xx0_0.out.size)
  have Lx1_0 := Lib.hid HT.out.size
  replace Xw0_0 := Lib.hid (Xw0_0.out.below b3 Xw0_0.out.size)
  replace Xx0_0 := Lib.hid (Xx0_0.out.below b3 Xx0_0.out.size)
  replace K1 := Lib.hid (K1.out.below b3 K1.out.lt)
  replace Kw0 := Lib.hid (Kw0.out.below b3 Kw0.out.lt)
  replace HT := Lib.hid (HT.out.trans (b3.mono HT.out.size))
  have Xx1_0 := Lib.hid ox1_0
  obtain ⟨gax1_0, gcx1_0, hux1_0⟩ := ox1_0.shape
  subst hux1_0
  clear ox1_0
  clear b3
  have q1 : Below v3.heap.size v3 (v3.alloc (Obj.cells #[.int .i64 i1_0, .slice gax1_0 y1_0.length gcx1_0] 39)) := (Below.refl _ _).alloc (Nat.le_refl _) _
  have Kx1 : Hid (Cels (v3.alloc (Obj.cells #[.int .i64 i1_0, .slice gax1_0 y1_0.length gcx1_0] 39)) v3.heap.size 39 [.int .i64 i1_0, .slice gax1_0 y1_0.length gcx1_0]) := Lib.hid (Cels.new _ _ _)
  replace Xw0_0 := Lib.hid (Xw0_0.out.below q1 Xw0_0.out.size)
  replace Xx0_0 := Lib.hid (Xx0_0.out.below q1 Xx0_0.out.size)
  replace Xx1_0 := Lib.hid (Xx1_0.out.below q1 Xx1_0.out.size)
  replace K1 := Lib.hid (K1.out.below q1 K1.out.lt)
  replace Kw0 := Lib.hid (Kw0.out.below q1 Kw0.out.lt)
  replace HT := Lib.hid (HT.out.trans (q1.mono HT.out.size))
  clear q1
  clear zzK1_0 zzK1_1
  have zzKx1_0 := Kx1.out.cell 0 rfl
  have zzKx1_1 := Kx1.out.cell 1 rfl
  go_wp2_with fail
  refine (implRPl _ y0_0 i1_0 _ y1_0 a2 _ Xx0_0.out.rd Xx1_0.out.rd (HN.out.below HT.out (Nat.le_refl _))).mono ?_
  rintro e v4 ⟨ug0_0, rfl, og0_0, b4⟩
  have Sw0_0_g0_0 := Lib.hid (sep_of Xw0_0.out.top og0_0.row.lt Xw0_0.out.size)
  have Sx0_0_g0_0 := Lib.hid (sep_of Xx0_0.out.top og0_0.row.lt Xx0_0.out.size)
  have Sx1_0_g0_0 := Lib.hid (sep_of Xx1_0.out.top og0_0.row.lt Xx1_0.out.size)
  have Lg0_0 := Lib.hid HT.out.size
  replace Xw0_0 := Lib.hid (Xw0_0.out.below b4 Xw0_0.out.size)
  replace Xx0_0 := Lib.hid (Xx0_0.out.below b4 Xx0_0.out.size)
  replace Xx1_0 := Lib.hid (Xx1_0.out.below b4 Xx1_0.out.size)
  replace K1 := Lib.hid (K1.out.below b4 K1.out.lt)
  replace Kw0 := Lib.hid (Kw0.out.below b4 Kw0.out.lt)
  replace Kx1 := Lib.hid (Kx1.out.below b4 Kx1.out.lt)
  replace HT := Lib.hid (HT.out.trans (b4.mono HT.out.size))
  have Xg0_0 := Lib.hid og0_0
  obtain ⟨gag0_0, gcg0_0, hug0_0⟩ := og0_0.shape
  subst hug0_0
  clear og0_0
  clear b4
  have q2 : Below v4.heap.size v4 (v4.alloc (Obj.cells #[.int .i64 (rpR y0_0 i1_0 y1_0 a2).at', .slice gag0_0 (rpR y0_0 i1_0 y1_0 a2).cs.length gcg0_0] 39)) := (Below.refl _ _).alloc (Nat.le_refl _) _
  have Kg0 : Hid (Cels (v4.alloc (Obj.cells #[.int .i64 (rpR y0_0 i1_0 y1_0 a2).at', .slice gag0_0 (rpR y0_0 i1_0 y1_0 a2).cs.length gcg0_0] 39)) v4.heap.size 39 [.int .i64 (rpR y0_0 i1_0 y1_0 a2).at', .slice gag0_0 (rpR y0_0 i1_0 y1_0 a2).cs.length gcg0_0]) := Lib.hid (Cels.new _ _ _)
  replace Xw0_0 := Lib.hid (Xw0_0.out.below q2 Xw0_0.out.size)
  replace Xx0_0 := Lib.hid (Xx0_0.out.below q2 Xx0_0.out.size)
  replace Xx1_0 := Lib.hid (Xx1_0.out.below q2 Xx1_0.out.size)
  replace Xg0_0 := Lib.hid (Xg0_0.out.below q2 Xg0_0.out.size)
  replace K1 := Lib.hid (K1.out.below q2 K1.out.lt)
  replace Kw0 := Lib.hid (Kw0.out.below q2 Kw0.out.lt)
  replace Kx1 := Lib.hid (Kx1.out.below q2 Kx1.out.lt)
  replace HT := Lib.hid (HT.out.trans (q2.mono HT.out.size))
  clear q2
  clear zzKx1_0 zzKx1_1
  have zzKg0_0 := Kg0.out.cell 0 rfl
  have zzKg0_1 := Kg0.out.cell 1 rfl
  have zzKw0_0 := Kw0.out.cell 0 rfl
  have zzKw0_1 := Kw0.out.cell 1 rfl
  go_wp2_with fail
  refine (eqSto _ _ _ _ _ Xg0_0.out.rd Xw0_0.out.rd).mono ?_
  rintro e v5 ⟨rfl, b5⟩
  replace Xw0_0 := Lib.hid (Xw0_0.out.below b5 Xw0_0.out.size)
  replace Xx0_0 := Lib.hid (Xx0_0.out.below b5 Xx0_0.out.size)
  replace Xx1_0 := Lib.hid (Xx1_0.out.below b5 Xx1_0.out.size)
  replace Xg0_0 := Lib.hid (Xg0_0.out.below b5 Xg0_0.out.size)
  replace K1 := Lib.hid (K1.out.below b5 K1.out.lt)
  replace Kw0 := Lib.hid (Kw0.out.below b5 Kw0.out.lt)
  replace Kx1 := Lib.hid (Kx1.out.below b5 Kx1.out.lt)
  replace Kg0 := Lib.hid (Kg0.out.below b5 Kg0.out.lt)
  replace HT := Lib.hid (HT.out.trans (b5.mono HT.out.size))
  clear b5
  clear zzKg0_0 zzKg0_1 zzKw0_0 zzKw0_1
  go_wp2_with fail
  refine (toIns  _ y0_0 _ (R0_0.out.below HT.out (Nat.le_refl _))).mono ?_
  rintro e v6 ⟨uc0_0, rfl, oc0_0, b6⟩
  have Sw0_0_c0_0 := Lib.hid (sep_of Xw0_0.out.top oc0_0.row.lt Xw0_0.out.size)
  have Sx0_0_c0_0 := Lib.hid (sep_of Xx0_0.out.top oc0_0.row.lt Xx0_0.out.size)
  have Sx1_0_c0_0 := Lib.hid (sep_of Xx1_0.out.top oc0_0.row.lt Xx1_0.out.size)
  have Sg0_0_c0_0 := Lib.hid (sep_of Xg0_0.out.top oc0_0.row.lt Xg0_0.out.size)
  have Lc0_0 := Lib.hid HT.out.size
  replace Xw0_0 := Lib.hid (Xw0_0.out.below b6 Xw0_0.out.size)
  replace Xx0_0 := Lib.hid (Xx0_0.out.below b6 Xx0_0.out.size)
  replace Xx1_0 := Lib.hid (Xx1_0.out.below b6 Xx1_0.out.size)
  replace Xg0_0 := Lib.hid (Xg0_0.out.below b6 Xg0_0.out.size)
  replace K1 := Lib.hid (K1.out.below b6 K1.out.lt)
  replace Kw0 := Lib.hid (Kw0.out.below b6 Kw0.out.lt)
  replace Kx1 := Lib.hid (Kx1.out.below b6 Kx1.out.lt)
  replace Kg0 := Lib.hid (Kg0.out.below b6 Kg0.out.lt)
  replace HT := Lib.hid (HT.out.trans (b6.mono HT.out.size))
  have Xc0_0 := Lib.hid oc0_0
  obtain ⟨gac0_0, gcc0_0, huc0_0⟩ := oc0_0.shape
  subst huc0_0
  clear oc0_0
  clear b6
  go_wp2_with fail
  refine (eqIns  _ _ _ _ Xx0_0.out.rd Xc0_0.out.rd).mono ?_
  rintro e v7 ⟨rfl, b7⟩
  replace Xw0_0 := Lib.hid (Xw0_0.out.below b7 Xw0_0.out.size)
  replace Xx0_0 := Lib.hid (Xx0_0.out.below b7 Xx0_0.out.size)
  replace Xx1_0 := Lib.hid (Xx1_0.out.below b7 Xx1_0.out.size)
  replace Xg0_0 := Lib.hid (Xg0_0.out.below b7 Xg0_0.out.size)
  replace Xc0_0 := Lib.hid (Xc0_0.out.below b7 Xc0_0.out.size)
  replace K1 := Lib.hid (K1.out.below b7 K1.out.lt)
  replace Kw0 := Lib.hid (Kw0.out.below b7 Kw0.out.lt)
  replace Kx1 := Lib.hid (Kx1.out.below b7 Kx1.out.lt)
  replace Kg0 := Lib.hid (Kg0.out.below b7 Kg0.out.lt)
  replace HT := Lib.hid (HT.out.trans (b7.mono HT.out.size))
  clear b7
  clear Xc0_0
  go_wp2_with fail
  have HS8 : Hid (∀ W', Below v7.heap.size v7 W' → W'.cell? ⟨v3.heap.size, 0, none⟩ = some (.int .i64 i1_0) ∧ W'.cell? ⟨v3.heap.size, 1, none⟩ = some (.slice gax1_0 y1_0.length gcx1_0) ∧ W'.cell? ⟨w.heap.size, 0, none⟩ = some (.int .i64 i1_0) ∧ W'.cell? ⟨w.heap.size, 1, none⟩ = some (.slice a1_0 len1_0 cap1_0)) := Lib.hid (fun W' hW' => ⟨(Kx1.out.below hW' Kx1.out.lt).cell 0 rfl, (Kx1.out.below hW' Kx1.out.lt).cell 1 rfl, (K1.out.below hW' K1.out.lt).cell 0 rfl, (K1.out.below hW' K1.out.lt).cell 1 rfl⟩)
  have bd : Below v7.heap.size v7 v7.drew := (Below.refl _ _).drew
  have HD := Lib.hid bd
  replace Xw0_0 := Lib.hid (Xw0_0.out.below bd Xw0_0.out.size)
  replace Xx0_0 := Lib.hid (Xx0_0.out.below bd Xx0_0.out.size)
  replace Xx1_0 := Lib.hid (Xx1_0.out.below bd Xx1_0.out.size)
  replace Xg0_0 := Lib.hid (Xg0_0.out.below bd Xg0_0.out.size)
  replace K1 := Lib.hid (K1.out.below bd K1.out.lt)
  replace Kw0 := Lib.hid (Kw0.out.below bd Kw0.out.lt)
  replace Kx1 := Lib.hid (Kx1.out.below bd Kx1.out.lt)
  replace Kg0 := Lib.hid (Kg0.out.below bd Kg0.out.lt)
  replace HT := Lib.hid (HT.out.trans (bd.mono HT.out.size))
  clear bd
  go_region_held3 (fun w' => w'.cell? ⟨v3.heap.size, 0, none⟩ = some (.int .i64 i1_0) ∧ w'.cell? ⟨v3.heap.size, 1, none⟩ = some (.slice gax1_0 y1_0.length gcx1_0) ∧ w'.cell? ⟨w.heap.size, 0, none⟩ = some (.int .i64 i1_0) ∧ w'.cell? ⟨w.heap.size, 1, none⟩ = some (.slice a1_0 len1_0 cap1_0)) (exact HS8.out _ HD.out) (first | (go_at_call 21; with_reducible refine (toSto i1_0 _ y1_0 _ (R1_0.out.below HT.out (Nat.le_refl _))).mono ?_; rintro e w8 ⟨uc1_0, rfl, oc1_0, bq⟩; replace HD := Lib.hid (HD.out.trans (bq.mono HD.out.size)); have Sw0_0_c1_0 := Lib.hid (sep_of Xw0_0.out.top oc1_0.row.lt Xw0_0.out.size); have Sx0_0_c1_0 := Lib.hid (sep_of Xx0_0.out.top oc1_0.row.lt Xx0_0.out.size); have Sx1_0_c1_0 := Lib.hid (sep_of Xx1_0.out.top oc1_0.row.lt Xx1_0.out.size); have Sg0_0_c1_0 := Lib.hid (sep_of Xg0_0.out.top oc1_0.row.lt Xg0_0.out.size); have Lc1_0 := Lib.hid HT.out.size; replace Xw0_0 := Lib.hid (Xw0_0.out.below bq Xw0_0.out.size); replace Xx0_0 := Lib.hid (Xx0_0.out.below bq Xx0_0.out.size); replace Xx1_0 := Lib.hid (Xx1_0.out.below bq Xx1_0.out.size); replace Xg0_0 := Lib.hid (Xg0_0.out.below bq Xg0_0.out.size); replace K1 := Lib.hid (K1.out.below bq K1.out.lt); replace Kw0 := Lib.hid (Kw0.out.below bq Kw0.out.lt); replace Kx1 := Lib.hid (Kx1.out.below bq Kx1.out.lt); replace Kg0 := Lib.hid (Kg0.out.below bq Kg0.out.lt); replace HT := Lib.hid (HT.out.trans (bq.mono HT.out.size)); have Xc1_0 := Lib.hid oc1_0; obtain ⟨gac1_0, gcc1_0, huc1_0⟩ := oc1_0.shape; subst huc1_0; clear oc1_0; clear bq) | (go_at_call 23; with_reducible refine (eqSto _ _ _ _ _ Xx1_0.out.rd Xc1_0.out.rd).mono ?_; rintro e w8 ⟨rfl, bq⟩; replace HD := Lib.hid (HD.out.trans (bq.mono HD.out.size)); replace Xw0_0 := Lib.hid (Xw0_0.out.below bq Xw0_0.out.size); replace Xx0_0 := Lib.hid (Xx0_0.out.below bq Xx0_0.out.size); replace Xx1_0 := Lib.hid (Xx1_0.out.below bq Xx1_0.out.size); replace Xg0_0 := Lib.hid (Xg0_0.out.below bq Xg0_0.out.size); replace Xc1_0 := Lib.hid (Xc1_0.out.below bq Xc1_0.out.size); replace K1 := Lib.hid (K1.out.below bq K1.out.lt); replace Kw0 := Lib.hid (Kw0.out.below bq Kw0.out.lt); replace Kx1 := Lib.hid (Kx1.out.below bq Kx1.out.lt); replace Kg0 := Lib.hid (Kg0.out.below bq Kg0.out.lt); replace HT := Lib.hid (HT.out.trans (bq.mono HT.out.size)); clear bq))
  clear Xc1_0
  go_wp2_with fail
  refine (markIns  _ _ (1) _ _ _ Xx0_0.out (by have r0_0 := R0_0.out.len; have r1_0 := R1_0.out.len; omega) (by have r0_0 := R0_0.out.len; have r1_0 := R1_0.out.len; omega)).mono ?_
  rintro e v9 ⟨rfl, o9, g9⟩
  replace Xw0_0 := Lib.hid (Xw0_0.out.grown g9 Sw0_0_x0_0.out.1)
  replace Xx1_0 := Lib.hid (Xx1_0.out.grown g9 Sx0_0_x1_0.out.2)
  replace Xg0_0 := Lib.hid (Xg0_0.out.grown g9 Sx0_0_g0_0.out.2)
  replace K1 := Lib.hid (K1.out.grown g9 (Xx0_0.out.nblk K1.out (by decide)))
  replace Kw0 := Lib.hid (Kw0.out.grown g9 (Xx0_0.out.nblk Kw0.out (by decide)))
  replace Kx1 := Lib.hid (Kx1.out.grown g9 (Xx0_0.out.nblk Kx1.out (by decide)))
  replace Kg0 := Lib.hid (Kg0.out.grown g9 (Xx0_0.out.nblk Kg0.out (by decide)))
  replace HT := Lib.hid (HT.out.trans ((Xx0_0.out.gb g9).mono Lx0_0.out))
  replace Xx0_0 := Lib.hid o9
  clear o9 g9
  have zzKx1_0 := Kx1.out.cell 0 rfl
  have zzKx1_1 := Kx1.out.cell 1 rfl
  go_wp2_with fail
  refine (markSto _ _ _ (1 + 4 * (y0_0.length : Int)) _ _ _ Xx1_0.out (by have r0_0 := R0_0.out.len; have r1_0 := R1_0.out.len; omega) (by have r0_0 := R0_0.out.len; have r1_0 := R1_0.out.len; omega)).mono ?_
  rintro e v10 ⟨rfl, o10, g10⟩
  replace Xw0_0 := Lib.hid (Xw0_0.out.grown g10 Sw0_0_x1_0.out.1)
  replace Xx0_0 := Lib.hid (Xx0_0.out.grown g10 Sx0_0_x1_0.out.1)
  replace Xg0_0 := Lib.hid (Xg0_0.out.grown g10 Sx1_0_g0_0.out.2)
  replace K1 := Lib.hid (K1.out.grown g10 (Xx1_0.out.nblk K1.out (by decide)))
  replace Kw0 := Lib.hid (Kw0.out.grown g10 (Xx1_0.out.nblk Kw0.out (by decide)))
  replace Kx1 := Lib.hid (Kx1.out.grown g10 (Xx1_0.out.nblk Kx1.out (by decide)))
  replace Kg0 := Lib.hid (Kg0.out.grown g10 (Xx1_0.out.nblk Kg0.out (by decide)))
  replace HT := Lib.hid (HT.out.trans ((Xx1_0.out.gb g10).mono Lx1_0.out))
  replace Xx1_0 := Lib.hid o10
  clear o10 g10
  clear zzKx1_0 zzKx1_1
  have zzKg0_0 := Kg0.out.cell 0 rfl
  have zzKg0_1 := Kg0.out.cell 1 rfl
  have zzKw0_0 := Kw0.out.cell 0 rfl
  have zzKw0_1 := Kw0.out.cell 1 rfl
  go_wp2_with fail
  refine (eqSto _ _ _ _ _ Xg0_0.out.rd Xw0_0.out.rd).mono ?_
  rintro e v11 ⟨rfl, b11⟩
  replace Xw0_0 := Lib.hid (Xw0_0.out.below b11 Xw0_0.out.size)
  replace Xx0_0 := Lib.hid (Xx0_0.out.below b11 Xx0_0.out.size)
  replace Xx1_0 := Lib.hid (Xx1_0.out.below b11 Xx1_0.out.size)
  replace Xg0_0 := Lib.hid (Xg0_0.out.below b11 Xg0_0.out.size)
  replace K1 := Lib.hid (K1.out.below b11 K1.out.lt)
  replace Kw0 := Lib.hid (Kw0.out.below b11 Kw0.out.lt)
  replace Kx1 := Lib.hid (Kx1.out.below b11 Kx1.out.lt)
  replace Kg0 := Lib.hid (Kg0.out.below b11 Kg0.out.lt)
  replace HT := Lib.hid (HT.out.trans (b11.mono HT.out.size))
  clear b11
  clear Xx0_0
  clear Xx1_0
  have N0_0 := Xg0_0.out.len
  clear zzKg0_0 zzKg0_1 zzKw0_0 zzKw0_1
  have zzKg0_0 := Kg0.out.cell 0 rfl
  have zzKg0_1 := Kg0.out.cell 1 rfl
  go_wp2_with fail
  refine (markSto _ _ _ 1 _ _ _ Xg0_0.out (by omega) (by omega)).mono ?_
  rintro e v12 ⟨rfl, o12, g12⟩
  replace Xw0_0 := Lib.hid (Xw0_0.out.grown g12 Sw0_0_g0_0.out.1)
  replace K1 := Lib.hid (K1.out.grown g12 (Xg0_0.out.nblk K1.out (by decide)))
  replace Kw0 := Lib.hid (Kw0.out.grown g12 (Xg0_0.out.nblk Kw0.out (by decide)))
  replace Kx1 := Lib.hid (Kx1.out.grown g12 (Xg0_0.out.nblk Kx1.out (by decide)))
  replace Kg0 := Lib.hid (Kg0.out.grown g12 (Xg0_0.out.nblk Kg0.out (by decide)))
  replace HT := Lib.hid (HT.out.trans ((Xg0_0.out.gb g12).mono Lg0_0.out))
  replace Xg0_0 := Lib.hid o12
  clear o12 g12
  clear zzKg0_0 zzKg0_1
  have zzKg0_0 := Kg0.out.cell 0 rfl
  have zzKg0_1 := Kg0.out.cell 1 rfl
  go_wp2_with fail
  refine (heldSto _ _ _ 1 _ Xg0_0.out.rd (by omega) (by omega) (by omega)).mono ?_
  rintro e v13 ⟨rfl, b13⟩
  replace Xw0_0 := Lib.hid (Xw0_0.out.below b13 Xw0_0.out.size)
  replace Xg0_0 := Lib.hid (Xg0_0.out.below b13 Xg0_0.out.size)
  replace K1 := Lib.hid (K1.out.below b13 K1.out.lt)
  replace Kw0 := Lib.hid (Kw0.out.below b13 Kw0.out.lt)
  replace Kx1 := Lib.hid (Kx1.out.below b13 Kx1.out.lt)
  replace Kg0 := Lib.hid (Kg0.out.below b13 Kg0.out.lt)
  replace HT := Lib.hid (HT.out.trans (b13.mono HT.out.size))
  clear b13
  clear zzKg0_0 zzKg0_1
  go_upto_region 31 with fail
  go_cut [21, 22, 23, 24] (fun s21 s22 s23 s24 wx => ∃ (bh0 : Nat) (uh0_0 : Value), s21 = .pointer (some ⟨bh0, 0, none⟩) ∧ s22 = .int .i64 (rpR y0_0 i1_0 y1_0 a2).n ∧ s23 = .bool (rpR y0_0 i1_0 y1_0 a2).h ∧ s24 = .int .i64 (rpR y0_0 i1_0 y1_0 a2).code ∧ Below v13.heap.size v13 wx ∧ v13.heap.size ≤ bh0 ∧ Cels wx bh0 39 [.int .i64 (rpR y0_0 i1_0 y1_0 a2).at', uh0_0] ∧ Ow wx v13.heap.size wx.heap.size uh0_0 (rpR y0_0 i1_0 y1_0 a2).cs)
  case first =>
    have HS14 : Hid (∀ W', Below v13.heap.size v13 W' → W'.cell? ⟨w.heap.size, 0, none⟩ = some (.int .i64 i1_0) ∧ W'.cell? ⟨w.heap.size, 1, none⟩ = some (.slice a1_0 len1_0 cap1_0)) := Lib.hid (fun W' hW' => ⟨(K1.out.below hW' K1.out.lt).cell 0 rfl, (K1.out.below hW' K1.out.lt).cell 1 rfl⟩)
    have HD : Hid (Below v13.heap.size v13 v13.drew) := Lib.hid (Below.refl _ _).drew
    go_region_held3 (fun w' => w'.cell? ⟨w.heap.size, 0, none⟩ = some (.int .i64 i1_0) ∧ w'.cell? ⟨w.heap.size, 1, none⟩ = some (.slice a1_0 len1_0 cap1_0)) (first | exact HS14.out _ HD.out | exact HS14.out _ (HD.out.alloc HD.out.size _) | exact HS14.out _ (((Below.refl _ _).alloc (Nat.le_refl _) _).drew) | exact HS14.out _ (below_set (below_set HD.out HZb.out _ _) HZb.out _ _) | exact HS14.out _ (below_set (below_set (HD.out.alloc HD.out.size _) HD.out.size _ _) HD.out.size _ _)) (first | (go_at_call 14; with_reducible refine (toIns  _ y0_0 _ (by first | exact R0_0.out.below (HT.out.trans (HD.out.mono HT.out.size)) (Nat.le_refl _) | exact R0_0.out.below (HT.out.trans ((HD.out.alloc HD.out.size _).mono HT.out.size)) (Nat.le_refl _) | exact R0_0.out.below (HT.out.trans ((((Below.refl _ _).alloc (Nat.le_refl _) _).drew).mono HT.out.size)) (Nat.le_refl _))).mono ?_; rintro e w14 ⟨ud0_0, rfl, od0_0, bq⟩; (try (with_reducible have KZ := Lib.hid (cels_pre bq); have HZb := Lib.hid HD.out.size)); (try (with_reducible have KZ := Lib.hid (cels_preD bq); have HZb := Lib.hid (Nat.le_refl v13.heap.size))); (try with_reducible replace bq := below_pre bq); (try with_reducible replace bq := below_preD bq); (try replace KZ := Lib.hid (KZ.out.below bq KZ.out.lt)); have Xd0_0 := Lib.hid (od0_0.mono (by first | exact HD.out.size | exact (HD.out.alloc HD.out.size _).size | exact (((Below.refl _ _).alloc (Nat.le_refl _) _).drew).size : v13.heap.size ≤ _) (Nat.le_refl _) (Nat.le_refl _)); obtain ⟨gad0_0, gcd0_0, hud0_0⟩ := od0_0.shape; subst hud0_0; clear od0_0; replace HD := Lib.hid (HD.out.trans (bq.mono HD.out.size)); clear bq) | (go_at_call 21; with_reducible refine (toSto i1_0 _ y1_0 _ (by first | exact R1_0.out.below (HT.out.trans (HD.out.mono HT.out.size)) (Nat.le_refl _) | exact R1_0.out.below (HT.out.trans ((HD.out.alloc HD.out.size _).mono HT.out.size)) (Nat.le_refl _) | exact R1_0.out.below (HT.out.trans ((((Below.refl _ _).alloc (Nat.le_refl _) _).drew).mono HT.out.size)) (Nat.le_refl _))).mono ?_; rintro e w14 ⟨ud1_0, rfl, od1_0, bq⟩; (try (with_reducible have KZ := Lib.hid (cels_pre bq); have HZb := Lib.hid HD.out.size)); (try (with_reducible have KZ := Lib.hid (cels_preD bq); have HZb := Lib.hid (Nat.le_refl v13.heap.size))); (try with_reducible replace bq := below_pre bq); (try with_reducible replace bq := below_preD bq); (try replace KZ := Lib.hid (KZ.out.below bq KZ.out.lt)); have Xd1_0 := Lib.hid (od1_0.mono (by first | exact HD.out.size | exact (HD.out.alloc HD.out.size _).size | exact (((Below.refl _ _).alloc (Nat.le_refl _) _).drew).size : v13.heap.size ≤ _) (Nat.le_refl _) (Nat.le_refl _)); replace Xd0_0 := Lib.hid (Xd0_0.out.below bq Xd0_0.out.size); obtain ⟨gad1_0, gcd1_0, hud1_0⟩ := od1_0.shape; subst hud1_0; clear od1_0; replace HD := Lib.hid (HD.out.trans (bq.mono HD.out.size)); clear bq) | (go_at_call 22; with_reducible refine (implRPl _ y0_0 i1_0 _ y1_0 a2 _ (by first | exact Xd0_0.out.rd | exact (Xd0_0.out.below ((Below.refl _ _).alloc (Nat.le_refl _) _) Xd0_0.out.size).rd) (by first | exact Xd1_0.out.rd | exact (Xd1_0.out.below ((Below.refl _ _).alloc (Nat.le_refl _) _) Xd1_0.out.size).rd) (by first | exact HN.out.below (HT.out.trans (HD.out.mono HT.out.size)) (Nat.le_refl _) | exact HN.out.below (HT.out.trans ((HD.out.alloc HD.out.size _).mono HT.out.size)) (Nat.le_refl _) | exact HN.out.below (HT.out.trans ((((Below.refl _ _).alloc (Nat.le_refl _) _).drew).mono HT.out.size)) (Nat.le_refl _))).mono ?_; rintro e w14 ⟨uh0_0, rfl, oh0_0, bq⟩; (try (with_reducible have KZ := Lib.hid (cels_pre bq); have HZb := Lib.hid HD.out.size)); (try (with_reducible have KZ := Lib.hid (cels_preD bq); have HZb := Lib.hid (Nat.le_refl v13.heap.size))); (try with_reducible replace bq := below_pre bq); (try with_reducible replace bq := below_preD bq); (try replace KZ := Lib.hid (KZ.out.below bq KZ.out.lt)); have Xh0_0 := Lib.hid (oh0_0.mono (by first | exact HD.out.size | exact (HD.out.alloc HD.out.size _).size | exact (((Below.refl _ _).alloc (Nat.le_refl _) _).drew).size : v13.heap.size ≤ _) (Nat.le_refl _) (Nat.le_refl _)); replace Xd0_0 := Lib.hid (Xd0_0.out.below bq Xd0_0.out.size); replace Xd1_0 := Lib.hid (Xd1_0.out.below bq Xd1_0.out.size); obtain ⟨gah0_0, gch0_0, huh0_0⟩ := oh0_0.shape; subst huh0_0; clear oh0_0; replace HD := Lib.hid (HD.out.trans (bq.mono HD.out.size)); clear bq; (try (have HF := Lib.hid (put2s KZ.out (.int .i64 (rpR y0_0 i1_0 y1_0 a2).at') (.slice gah0_0 (rpR y0_0 i1_0 y1_0 a2).cs.length gch0_0)); obtain ⟨f1, f2, f3, f4, f7⟩ := HF.out; have HF7 := Lib.hid f7; clear f7))))
    all_goals (go_wp2_with fail; go_meet)
    all_goals first | exact ⟨_, _, rfl, rfl, rfl, rfl, below_set (below_set HD.out HZb.out _ _) HZb.out _ _, HZb.out, HF7.out, (Xh0_0.out.grown (put2sg KZ.out _ _) (Or.inr (Xh0_0.out.nblk KZ.out (by decide)))).up⟩ | exact ⟨_, _, rfl, rfl, rfl, rfl, HD.out.alloc HD.out.size _, HD.out.size, Cels.new _ _ _, (Xh0_0.out.below ((Below.refl _ _).alloc (Nat.le_refl _) _) Xh0_0.out.size).up⟩
  obtain ⟨bh0, uh0_0, rfl, rfl, rfl, rfl, bq, hb14, hK14, oh0_0⟩ := hcut
  obtain ⟨w14, hw14⟩ : ∃ x, x = wc := ⟨_, rfl⟩
  subst hw14
  have Sw0_0_h0_0 := Lib.hid (sep_of Xw0_0.out.top oh0_0.row.lt Xw0_0.out.size)
  have Sg0_0_h0_0 := Lib.hid (sep_of Xg0_0.out.top oh0_0.row.lt Xg0_0.out.size)
  have Lh0_0 := Lib.hid HT.out.size
  replace Xw0_0 := Lib.hid (Xw0_0.out.below bq Xw0_0.out.size)
  replace Xg0_0 := Lib.hid (Xg0_0.out.below bq Xg0_0.out.size)
  replace K1 := Lib.hid (K1.out.below bq K1.out.lt)
  replace Kw0 := Lib.hid (Kw0.out.below bq Kw0.out.lt)
  replace Kx1 := Lib.hid (Kx1.out.below bq Kx1.out.lt)
  replace Kg0 := Lib.hid (Kg0.out.below bq Kg0.out.lt)
  replace HT := Lib.hid (HT.out.trans (bq.mono HT.out.size))
  have Xh0_0 := Lib.hid oh0_0
  obtain ⟨gah0_0, gch0_0, huh0_0⟩ := oh0_0.shape
  subst huh0_0
  clear oh0_0
  clear bq
  have Kh0 := Lib.hid hK14
  clear hK14 hb14
  have zzKh0_0 := Kh0.out.cell 0 rfl
  have zzKh0_1 := Kh0.out.cell 1 rfl
  have zzKw0_0 := Kw0.out.cell 0 rfl
  have zzKw0_1 := Kw0.out.cell 1 rfl
  go_wp2_with fail
  refine (eqSto _ _ _ _ _ Xh0_0.out.rd Xw0_0.out.rd).mono ?_
  rintro e v15 ⟨rfl, b15⟩
  replace Xw0_0 := Lib.hid (Xw0_0.out.below b15 Xw0_0.out.size)
  replace Xg0_0 := Lib.hid (Xg0_0.out.below b15 Xg0_0.out.size)
  replace Xh0_0 := Lib.hid (Xh0_0.out.below b15 Xh0_0.out.size)
  replace K1 := Lib.hid (K1.out.below b15 K1.out.lt)
  replace Kw0 := Lib.hid (Kw0.out.below b15 Kw0.out.lt)
  replace Kx1 := Lib.hid (Kx1.out.below b15 Kx1.out.lt)
  replace Kg0 := Lib.hid (Kg0.out.below b15 Kg0.out.lt)
  replace Kh0 := Lib.hid (Kh0.out.below b15 Kh0.out.lt)
  replace HT := Lib.hid (HT.out.trans (b15.mono HT.out.size))
  clear b15
  clear zzKh0_0 zzKh0_1 zzKw0_0 zzKw0_1
  have zzKg0_0 := Kg0.out.cell 0 rfl
  have zzKg0_1 := Kg0.out.cell 1 rfl
  go_wp2_with fail
  refine (heldSto _ _ _ 1 _ Xg0_0.out.rd (by omega) (by omega) (by omega)).mono ?_
  rintro e v16 ⟨rfl, b16⟩
  replace Xw0_0 := Lib.hid (Xw0_0.out.below b16 Xw0_0.out.size)
  replace Xg0_0 := Lib.hid (Xg0_0.out.below b16 Xg0_0.out.size)
  replace Xh0_0 := Lib.hid (Xh0_0.out.below b16 Xh0_0.out.size)
  replace K1 := Lib.hid (K1.out.below b16 K1.out.lt)
  replace Kw0 := Lib.hid (Kw0.out.below b16 Kw0.out.lt)
  replace Kx1 := Lib.hid (Kx1.out.below b16 Kx1.out.lt)
  replace Kg0 := Lib.hid (Kg0.out.below b16 Kg0.out.lt)
  replace Kh0 := Lib.hid (Kh0.out.below b16 Kh0.out.lt)
  replace HT := Lib.hid (HT.out.trans (b16.mono HT.out.size))
  clear b16
  go_wp2
  go_ret
  exact ⟨rfl, HB0.out.trans (HT.out.mono HB0.out.size)⟩

noncomputable def laidWorld (os : Os) : World :=
  let w0 := World.holding Tryd.prog os ⟨#[], #[], []⟩
  { w0 with heap := w0.heap.modify 0 fun
      | .cells _ t frozen => .cells #[.iface 232 (.agg #[.pointer (some ⟨1, 160, none⟩)])] t frozen
      | o => o }
theorem laidWorld_met (os : Os) (args : Array Value) : laidMetH Tryd.prog Rows.fnExactRunProgramRow.laid ((laidWorld os).forCall (fun _ _ => 0) ⟨#[], args, []⟩).memory :=
  laidMetH_of_parts (laidMet_nil _ _) (by kernel_rfl)

set_option maxRecDepth 100000 in
theorem lifted (os : Os) (started : os.Started) (H : Type) (enc : TypeId × Value → H) :
    ReturnsInHanded {} Tryd.checked os 4 .any (fun w args => (Rows.fnExactRunProgramSpec.pre enc Tryd.prog Tryd.f4 [] false w args ∧ laidMetH Tryd.prog Rows.fnExactRunProgramRow.laid w) ∧ sizedMet enc Tryd.prog Tryd.f4 (OpenSpec.ofChange Rows.fnExactRunProgramSpec) false w args) (Rows.fnExactRunProgramSpec.post enc Tryd.prog Tryd.f4 false true false false) := by
  refine returnsInHanded_of_change_and (C := Tryd.checked) (X := fun w _ => laidMetH Tryd.prog Rows.fnExactRunProgramRow.laid w) (fun _ _ _ hh h => h.of_heap hh) own started (by kernel_rfl) Tryd.func4
    (ChangeSpec.witness_at (enc := enc) (C := Tryd.checked) (os := os) (X := fun w _ => laidMetH Tryd.prog Rows.fnExactRunProgramRow.laid w) false (laidWorld os) #[.slice none 0 0, .agg #[.int .i64 0, .slice none 0 0], .int .i64 0] 8 rfl (by kernel_rfl) (by kernel_rfl) (by kernel_rfl) (by kernel_rfl) (by kernel_rfl) (laidWorld_met os _)) ?_
  intro W base args ds gs before hval0 hW _ _ hL _
  have hval : ∀ (j : Nat) t v, Tryd.f4.params[j]? = some t → args[j]? = some v → Value.okWide Tryd.prog W .any base t v := hval0
  have hW' := hW
  obtain ⟨p, q, hA0, hV, rfl, hfz, hnd⟩ := hW
  have hA : DataW.TrodAll enc Tryd.prog W 0 (fun _ => true) true Tryd.f4.params.toList args.toList ds p := hA0
  rw [Tryd.params4] at hA hval
  obtain ⟨v0, vs0, d0, ds0, p0, q0, hargs, rfl, rfl, h0, r0⟩ := trodAll_cons hA
  obtain ⟨v1, vs1, d1, ds1, p1, q1, rfl, rfl, rfl, h1, r1⟩ := trodAll_cons r0
  obtain ⟨v2, vs2, d2, ds2, p2, q2, rfl, rfl, rfl, h2, r2⟩ := trodAll_cons r1
  obtain ⟨rfl, rfl, rfl⟩ := trodAll_nil r2
  obtain rfl : args = #[v0, v1, v2] := by cases args; simp_all
  obtain ⟨rfl, rfl⟩ := trodVars_none hV
  have k0 := h0
  have lt0 : ∀ x ∈ p0, x.block < W.heap.size := by obtain ⟨m, hm⟩ := k0; exact DataW.trod_lt m _ _ _ hm
  obtain ⟨a0_0, len0_0, cap0_0, rfl⟩ := okWide_slice Tryd.underlying22 (hval 0 22 v0 rfl rfl)
  obtain ⟨z0_0, w0_0⟩ : ∃ zs, IsIns W a0_0 len0_0 cap0_0 zs := by
    obtain ⟨fuel, hf⟩ := h0
    obtain ⟨a', len', cap', z', e', w'⟩ := open_Ins hf
    simp [Value.cells] at e'
    obtain ⟨rfl, rfl, rfl⟩ := e'
    exact ⟨z', w'⟩
  have k1 := h1
  have lt1 : ∀ x ∈ p1, x.block < W.heap.size := by obtain ⟨m, hm⟩ := k1; exact DataW.trod_lt m _ _ _ hm
  obtain ⟨c1_0, c1_1, y1_0, y1_1, n1, rfl, _, _, t1_0, t1_1⟩ := Go.Joins.open_agg2 Tryd.underlying37 (by kernel_rfl) (by kernel_rfl) (hval 1 37 v1 rfl rfl) h1
  obtain ⟨i1_0, e1_0, _, j1_0⟩ := DataW.trod_int Tryd.underlying2 t1_0
  simp only [List.cons.injEq, and_true] at e1_0
  subst e1_0
  obtain ⟨a1_0, len1_0, cap1_0, z1_0, e1_0, w1_0⟩ := open_list t1_1
  simp only [List.cons.injEq, and_true] at e1_0
  subst e1_0
  obtain ⟨a2, rfl, rfl, rfl, w2⟩ := open_int Tryd.underlying2 (hval 2 2 v2 rfl rfl) h2
  clear hA0 hval0
  refine (walk a0_0 len0_0 cap0_0 z0_0 i1_0 a1_0 len1_0 cap1_0 z1_0 a2 W w0_0 j1_0 w1_0 w2 (etV_of_laid hL)).mono fun e W' ⟨he, bel⟩ => ?_
  subst he
  exact ⟨_, rfl, _, _, _, [], _, [], hW', trodAll_mk1 (shut_bool Tryd.underlying4 _), (trodAll_cons_mk (Below.trod laidOut (by kernel_rfl) (of_decide_eq_true (by kernel_rfl)) k0 bel lt0) (trodAll_cons_mk (Below.trod laidOut (by kernel_rfl) (of_decide_eq_true (by kernel_rfl)) k1 bel lt1) (trodAll_cons_mk (shut_int Tryd.underlying2 w2) trodAll_mk0))), rfl, bel.frame _, fun h => by cases h⟩

theorem over : Rows.fnExactRunProgramRow.holds Tryd.pinned (OpenSpec.ofChange Rows.fnExactRunProgramSpec) :=
  OpenClaim.holds_of_wide 4 Tryd.f4 rfl rfl rfl rfl rfl rfl rfl ⟨rfl, rfl, rfl, rfl, rfl⟩ rfl rfl rfl rfl rfl (by kernel_rfl) Tryd.func4 (by kernel_rfl)
    (of_decide_eq_true (by kernel_rfl)) (by unfold Func.isWrapper; first | (rw [if_pos (by decide +kernel)]; kernel_rfl) | (rw [if_neg (by decide +kernel)]; exact ⟨rfl, rfl⟩))
    (fun os started H enc _ => lifted os started H enc)

/-- The statement: the tied card. -/
theorem proved : Rows.FnExactRunProgramCardSaid :=
  Claim7.holds_tied_plain_at .later [] [.handle] true (true, "eee6a4d104c7dc6ec1cd1acb840045d3df37c600f956d1caf597bc5aeadbbacb") true over (fun _ h => by cases h) (by kernel_rfl) (fun _ h => by cases h) fnExactRunProgram_row_tie rfl ⟨rfl, rfl⟩ (by kernel_rfl) rfl
    (fun f fn hf hfn => by
      obtain rfl : f = 4 := Option.some.inj ((show Tryd.prog.funcNamed "loop.example/g01079/laws.FnExactRunProgram" = some 4 by kernel_rfl).symm.trans hf) |>.symm
      obtain rfl : fn = Tryd.f4 := (Option.some.inj (Tryd.func4.symm.trans hfn)).symm
      exact ⟨by kernel_rfl, fun j t ht => by
        rw [Tryd.params4] at ht
        have hm : t ∈ [22, 37, 2] := by simpa using Array.mem_of_getElem? ht
        have hall : ([22, 37, 2].all fun u => !Tryd.prog.wantsStandIn u) = true := by kernel_rfl
        exact (show Tryd.prog.wantsStandIn t = false by simpa using List.all_eq_true.1 hall t hm)⟩)
    (by kernel_rfl)
#print axioms proved
end Go.Proofs.YtgbhbbapkpgmiaaDoor.fnExactRunProgram
