/-   FnExactApplyRewrite: for every list of rewriting rules, every word, every rule and every index the program's ApplyRewrite answers as its model, word and code, leaves its arguments alone, and its answer is its own. No condition. -/
import Derived.Test.YthombjcjhnekpaaRows
import Derived.WalkKit
import Derived.ProofKit
import Derived.OpenShut
import Derived.ShutString
import Derived.ChangeOld
import Derived.Below
import Derived.Lib.SmallJoins
import Derived.Deep.Strs
import Derived.OpenVars
import Derived.ChangeMaps5
import Derived.Handy
import Derived.Lib.Hide
import Derived.Deep.RegionHeld3
import Derived.Test.YthombjcjhnekpaaRws3
import Derived.Test.YthombjcjhnekpaaAwr
namespace Go.Proofs.Ythombjcjhnekpaa.fnExactApplyRewrite
open Go.ChangeShapes Go.WideShapes Go.ChangeAt Go.RowKit
set_option linter.unusedVariables false
set_option linter.unusedSimpArgs false

theorem own : ownKnob Try.prog.godebug = none := by kernel_rfl
theorem laidOut : laidOutB Try.prog = true := by kernel_rfl
open Ints

set_option maxRecDepth 100000 in
set_option maxHeartbeats 16000000 in
theorem walk (a0_0 : Option Addr) (len0_0 cap0_0 : Nat) (z0_0 : List Tin) (a1_0 : Option Addr) (len1_0 cap1_0 : Nat) (z1_0 : List Int) (a2 : Int) (a3 : Int) (w : World) (w0_0 : IsTapes w a0_0 len0_0 cap0_0 z0_0) (w1_0 : IsList w a1_0 len1_0 cap1_0 z1_0) (w2 : (Lit.int .i64 a2).wf = true) (w3 : (Lit.int .i64 a3).wf = true) :
    Calls Try.prog 6 #[.slice a0_0 len0_0 cap0_0, .slice a1_0 len1_0 cap1_0, .int .i64 a2, .int .i64 a3] w fun e w' => e = .returned (.bool true) ∧ Below w.heap.size w w' := by
  by_cases hb1 : len1_0 ≤ 1048576
  rotate_left
  · have hc1 : (1048576 : Int) < (len1_0 : Int) := by omega
    go_enter Try.func6, Try.ntmps6
    go_wp2
    go_ret
    exact ⟨rfl, Below.refl _ _⟩
  have hd1 : ¬ (1048576 : Int) < (len1_0 : Int) := by omega
  obtain ⟨y1, hy1⟩ : ∃ y, y = z1_0.take len1_0 := ⟨_, rfl⟩
  have R1 : Hid (Rd w (.slice a1_0 len1_0 cap1_0) y1) := Lib.hid (by rw [hy1]; exact rd_of_row w1_0 hb1)
  clear hy1 w1_0
  have hz0 := w0_0.le
  obtain ⟨l0, hl0⟩ : ∃ l : Int, l = 1048576 - (len0_0 : Int) := ⟨_, rfl⟩
  obtain ⟨m0, hm0⟩ : ∃ m : Int, m = szT l0 (z0_0.take len0_0) := ⟨_, rfl⟩
  have HI := Lib.hid w0_0
  have HL := Lib.hid hl0
  have HM := Lib.hid hm0
  have HZ := Lib.hid hz0
  have hlen : 0 ≤ l0 → len0_0 ≤ 1048576 := fun h => by omega
  have HLEN := Lib.hid hlen
  have HQ : Hid (l0 ≤ 1048576) := Lib.hid (by omega)
  clear hl0 hm0 hz0 hlen w0_0
  by_cases h0 : 0 ≤ l0
  rotate_left
  · have h1 : l0 < 0 := by omega
    go_enter Try.func6, Try.ntmps6
    go_wp2_with fail
    refine (szTapes_bad _ _ _ _ HZ.out (by omega) HL.out h1).mono ?_
    rintro e v0 ⟨rfl, b0⟩
    have HT := Lib.hid b0
    clear b0
    go_wp2
    go_ret
    exact ⟨rfl, HT.out⟩
  by_cases h2 : 0 ≤ m0
  rotate_left
  · have h3 : m0 < 0 := by omega
    go_enter Try.func6, Try.ntmps6
    go_wp2_with fail
    refine (szTapes _ _ _ z0_0 _ HI.out (by omega) HL.out h0).mono ?_
    rintro e v0 ⟨rfl, b0⟩
    rw [← HM.out]
    have HT := Lib.hid b0
    have SZ0 := Lib.hid b0.size
    clear b0
    go_wp2
    go_ret
    exact ⟨rfl, HT.out⟩
  have hn : ¬ m0 < 0 := by omega
  have HP0 : Hid (0 ≤ m0 ∧ m0 ≤ 1048576) := Lib.hid ⟨h2, by have := szT_le (z0_0.take len0_0) l0; rw [← HM.out] at this; have := HQ.out; omega⟩
  obtain ⟨y0, hy0⟩ : ∃ y, y = (z0_0.take len0_0).map Tin.tp := ⟨_, rfl⟩
  have R0 : Hid (RdT w (.slice a0_0 len0_0 cap0_0) y0) := Lib.hid (by rw [hy0]; exact rdt_of_row HI.out (HLEN.out h0) (szT_good _ l0 (by rw [← HM.out]; exact h2) HQ.out))
  have HTOT : Hid (totR y0 ≤ 1048576) := Lib.hid (by have := szT_tot (z0_0.take len0_0) l0 (by rw [← HM.out]; exact h2); rw [← hy0] at this; have := HQ.out; omega)
  clear hy0
  go_enter Try.func6, Try.ntmps6
  go_wp2_with fail
  refine (szTapes _ _ _ z0_0 _ HI.out (by omega) HL.out h0).mono ?_
  rintro e v0 ⟨rfl, b0⟩
  rw [← HM.out]
  have HT := Lib.hid b0
  have SZ0 := Lib.hid b0.size
  clear b0
  clear HL HM HI h0 HLEN HQ HZ
  go_wp2_with fail
  refine (toTapesS _ y0 _ (R0.out.below HT.out (Nat.le_refl _))).mono ?_
  rintro e v1 ⟨us0, rfl, os0, b1⟩
  have SZ1 := Lib.hid b1.size
  replace HT := Lib.hid (HT.out.trans (b1.mono HT.out.size))
  clear b1
  obtain ⟨gas0, gcs0, hus0⟩ := os0.shape
  subst hus0
  have Ys0 := Lib.hid os0.rdt
  clear os0
  go_wp2_with fail
  refine (toInts _ y1 _ (R1.out.below HT.out (Nat.le_refl _))).mono ?_
  rintro e v2 ⟨us1, rfl, os1, b2⟩
  have SZ2 := Lib.hid b2.size
  replace Ys0 := Lib.hid (Ys0.out.below b2 (Nat.le_refl _))
  replace HT := Lib.hid (HT.out.trans (b2.mono HT.out.size))
  clear b2
  obtain ⟨gas1, gcs1, hus1⟩ := os1.shape
  subst hus1
  have Ys1 := Lib.hid os1.rd
  clear os1
  go_wp2_with fail
  refine (specApplyRewrite _ y0 _ y1 a2 a3 _ Ys0.out Ys1.out).mono ?_
  rintro e v3 ⟨uw, rfl, ow, b3⟩
  have SZ3 := Lib.hid b3.size
  replace Ys0 := Lib.hid (Ys0.out.below b3 (Nat.le_refl _))
  replace Ys1 := Lib.hid (Ys1.out.below b3 (Nat.le_refl _))
  replace HT := Lib.hid (HT.out.trans (b3.mono HT.out.size))
  clear b3
  obtain ⟨naw, ncw, huw⟩ := ow.shape
  subst huw
  have Xw := Lib.hid ow
  clear ow
  clear Ys0 Ys1
  go_wp2_with fail
  refine (toTapesS _ y0 _ (R0.out.below HT.out (Nat.le_refl _))).mono ?_
  rintro e v4 ⟨ux0, rfl, ox0, b4⟩
  have SZ4 := Lib.hid b4.size
  replace Xw := Lib.hid (Xw.out.below b4 Xw.out.size)
  replace HT := Lib.hid (HT.out.trans (b4.mono HT.out.size))
  clear b4
  obtain ⟨gax0, gcx0, hux0⟩ := ox0.shape
  subst hux0
  have Xx0 := Lib.hid ox0
  clear ox0
  go_wp2_with fail
  refine (toInts _ y1 _ (R1.out.below HT.out (Nat.le_refl _))).mono ?_
  rintro e v5 ⟨ux1, rfl, ox1, b5⟩
  have SZ5 := Lib.hid b5.size
  replace Xw := Lib.hid (Xw.out.below b5 Xw.out.size)
  replace Xx0 := Lib.hid (Xx0.out.below b5 Xx0.out.size)
  replace HT := Lib.hid (HT.out.trans (b5.mono HT.out.size))
  clear b5
  obtain ⟨gax1, gcx1, hux1⟩ := ox1.shape
  subst hux1
  have Xx1 := Lib.hid ox1
  clear ox1
  go_wp2_with fail
  refine (implApplyRewrite _ y0 _ y1 a2 a3 _ Xx0.out.rdt Xx1.out.rd).mono ?_
  rintro e v6 ⟨ug, rfl, og, b6⟩
  have SZ6 := Lib.hid b6.size
  replace Xw := Lib.hid (Xw.out.below b6 Xw.out.size)
  replace Xx0 := Lib.hid (Xx0.out.below b6 Xx0.out.size)
  replace Xx1 := Lib.hid (Xx1.out.below b6 Xx1.out.size)
  replace HT := Lib.hid (HT.out.trans (b6.mono HT.out.size))
  clear b6
  obtain ⟨nag, ncg, hug⟩ := og.shape
  subst hug
  have Xg := Lib.hid og
  clear og
  go_wp2_with fail
  refine (eqInts _ _ (awR y0 y1 a2 a3).1 _ Xg.out.rd Xw.out.rd).mono ?_
  rintro e v7 ⟨rfl, b7⟩
  have SZ7 := Lib.hid b7.size
  replace Xw := Lib.hid (Xw.out.below b7 Xw.out.size)
  replace Xx0 := Lib.hid (Xx0.out.below b7 Xx0.out.size)
  replace Xx1 := Lib.hid (Xx1.out.below b7 Xx1.out.size)
  replace Xg := Lib.hid (Xg.out.below b7 Xg.out.size)
  replace HT := Lib.hid (HT.out.trans (b7.mono HT.out.size))
  clear b7
  go_wp2_with fail
  refine (toTapesS _ y0 _ (R0.out.below HT.out (Nat.le_refl _))).mono ?_
  rintro e v8 ⟨uc0, rfl, oc0, b8⟩
  have SZ8 := Lib.hid b8.size
  replace Xw := Lib.hid (Xw.out.below b8 Xw.out.size)
  replace Xx0 := Lib.hid (Xx0.out.below b8 Xx0.out.size)
  replace Xx1 := Lib.hid (Xx1.out.below b8 Xx1.out.size)
  replace Xg := Lib.hid (Xg.out.below b8 Xg.out.size)
  replace HT := Lib.hid (HT.out.trans (b8.mono HT.out.size))
  clear b8
  obtain ⟨gac0, gcc0, huc0⟩ := oc0.shape
  subst huc0
  have Yc0 := Lib.hid oc0.rdt
  clear oc0
  go_wp2_with fail
  refine (eqTapes _ _ y0 _ Xx0.out.rdt Yc0.out).mono ?_
  rintro e v9 ⟨rfl, b9⟩
  have SZ9 := Lib.hid b9.size
  replace Xw := Lib.hid (Xw.out.below b9 Xw.out.size)
  replace Xx0 := Lib.hid (Xx0.out.below b9 Xx0.out.size)
  replace Xx1 := Lib.hid (Xx1.out.below b9 Xx1.out.size)
  replace Xg := Lib.hid (Xg.out.below b9 Xg.out.size)
  replace Yc0 := Lib.hid (Yc0.out.below b9 (Nat.le_refl _))
  replace HT := Lib.hid (HT.out.trans (b9.mono HT.out.size))
  clear b9
  clear Yc0
  go_wp2_with fail
  refine (toInts _ y1 _ (R1.out.below HT.out (Nat.le_refl _))).mono ?_
  rintro e v10 ⟨uc1, rfl, oc1, b10⟩
  have SZ10 := Lib.hid b10.size
  replace Xw := Lib.hid (Xw.out.below b10 Xw.out.size)
  replace Xx0 := Lib.hid (Xx0.out.below b10 Xx0.out.size)
  replace Xx1 := Lib.hid (Xx1.out.below b10 Xx1.out.size)
  replace Xg := Lib.hid (Xg.out.below b10 Xg.out.size)
  replace HT := Lib.hid (HT.out.trans (b10.mono HT.out.size))
  clear b10
  obtain ⟨gac1, gcc1, huc1⟩ := oc1.shape
  subst huc1
  have Yc1 := Lib.hid oc1.rd
  clear oc1
  go_wp2_with fail
  refine (eqInts _ _ y1 _ Xx1.out.rd Yc1.out).mono ?_
  rintro e v11 ⟨rfl, b11⟩
  have SZ11 := Lib.hid b11.size
  replace Xw := Lib.hid (Xw.out.below b11 Xw.out.size)
  replace Xx0 := Lib.hid (Xx0.out.below b11 Xx0.out.size)
  replace Xx1 := Lib.hid (Xx1.out.below b11 Xx1.out.size)
  replace Xg := Lib.hid (Xg.out.below b11 Xg.out.size)
  replace Yc1 := Lib.hid (Yc1.out.below b11 (Nat.le_refl _))
  replace HT := Lib.hid (HT.out.trans (b11.mono HT.out.size))
  clear b11
  clear Yc1
  have HTB : Hid (w.heap.size ≤ v0.heap.size) := Lib.hid (by have := SZ0.out; omega)
  have TB0 := HTOT.out
  have TB1 := R1.out.len
  go_wp2_with fail
  refine (markRws _ y0 1 v3.heap.size v4.heap.size _ Xx0.out (by omega)).mono ?_
  rintro e v12 ⟨rfl, ho⟩
  have SZ12 := Lib.hid ho.size
  clear Xx0
  replace Xw := Lib.hid (Xw.out.onlyQ ho (fun b h1 h2 h3 => by have := HT.out.size; have := SZ0.out; have := SZ1.out; have := SZ2.out; have := SZ3.out; have := SZ4.out; have := SZ5.out; have := SZ6.out; have := SZ7.out; have := SZ8.out; have := SZ9.out; have := SZ10.out; have := SZ11.out; have := SZ12.out; omega))
  replace Xx1 := Lib.hid (Xx1.out.onlyQ ho (fun b h1 h2 h3 => by have := HT.out.size; have := SZ0.out; have := SZ1.out; have := SZ2.out; have := SZ3.out; have := SZ4.out; have := SZ5.out; have := SZ6.out; have := SZ7.out; have := SZ8.out; have := SZ9.out; have := SZ10.out; have := SZ11.out; have := SZ12.out; omega))
  replace Xg := Lib.hid (Xg.out.onlyQ ho (fun b h1 h2 h3 => by have := HT.out.size; have := SZ0.out; have := SZ1.out; have := SZ2.out; have := SZ3.out; have := SZ4.out; have := SZ5.out; have := SZ6.out; have := SZ7.out; have := SZ8.out; have := SZ9.out; have := SZ10.out; have := SZ11.out; have := SZ12.out; omega))
  replace HT := Lib.hid (HT.out.trans (ho.below (fun b h3 => by have := HT.out.size; have := SZ0.out; have := SZ1.out; have := SZ2.out; have := SZ3.out; have := SZ4.out; have := SZ5.out; have := SZ6.out; have := SZ7.out; have := SZ8.out; have := SZ9.out; have := SZ10.out; have := SZ11.out; have := SZ12.out; exact Nat.le_trans HTB.out (by omega)) HT.out.size))
  clear ho
  obtain ⟨k1, hk1⟩ : ∃ k : Nat, k = 1 + totR y0 := ⟨_, rfl⟩
  rw [← hk1]
  have TK1 : k1 ≤ 40000000 := by omega
  clear hk1
  go_wp2_with fail
  refine (markInts _ y1 (k1 : Int) v4.heap.size v5.heap.size _ Xx1.out (by omega) (by omega)).mono ?_
  rintro e v13 ⟨rfl, oo, hg⟩
  have ho : Only (fun b => v4.heap.size ≤ b ∧ b < v5.heap.size) v12 v13 := ⟨hg.os, hg.tape, hg.output, hg.size, fun b hb hn => hg.block b hb (fun e => hn ⟨(Xx1.out.row.lt b e.symm).1, Xx1.out.top b e.symm⟩)⟩
  have SZ13 := Lib.hid hg.size
  replace Xw := Lib.hid (Xw.out.onlyQ ho (fun b h1 h2 h3 => by have := HT.out.size; have := SZ0.out; have := SZ1.out; have := SZ2.out; have := SZ3.out; have := SZ4.out; have := SZ5.out; have := SZ6.out; have := SZ7.out; have := SZ8.out; have := SZ9.out; have := SZ10.out; have := SZ11.out; have := SZ12.out; have := SZ13.out; omega))
  replace Xg := Lib.hid (Xg.out.onlyQ ho (fun b h1 h2 h3 => by have := HT.out.size; have := SZ0.out; have := SZ1.out; have := SZ2.out; have := SZ3.out; have := SZ4.out; have := SZ5.out; have := SZ6.out; have := SZ7.out; have := SZ8.out; have := SZ9.out; have := SZ10.out; have := SZ11.out; have := SZ12.out; have := SZ13.out; omega))
  replace HT := Lib.hid (HT.out.trans (ho.below (fun b h3 => by have := HT.out.size; have := SZ0.out; have := SZ1.out; have := SZ2.out; have := SZ3.out; have := SZ4.out; have := SZ5.out; have := SZ6.out; have := SZ7.out; have := SZ8.out; have := SZ9.out; have := SZ10.out; have := SZ11.out; have := SZ12.out; have := SZ13.out; exact Nat.le_trans HTB.out (by omega)) HT.out.size))
  replace Xx1 := Lib.hid oo
  clear hg oo
  clear ho
  obtain ⟨k2, hk2⟩ : ∃ k : Nat, k = k1 + y1.length := ⟨_, rfl⟩
  rw [show ((k1 : Nat) : Int) + (y1.length : Int) = (k2 : Int) by rw [hk2]; push_cast; rfl]
  have TK2 : k2 ≤ 60000000 := by omega
  clear hk2
  have hkn : ¬ ((k2 : Int) < 0) := by omega
  clear TB0 TB1 TK1 TK2
  go_wp2_with fail
  refine (eqInts _ _ (awR y0 y1 a2 a3).1 _ Xg.out.rd Xw.out.rd).mono ?_
  rintro e v14 ⟨rfl, b14⟩
  have SZ14 := Lib.hid b14.size
  replace Xw := Lib.hid (Xw.out.below b14 Xw.out.size)
  replace Xx1 := Lib.hid (Xx1.out.below b14 Xx1.out.size)
  replace Xg := Lib.hid (Xg.out.below b14 Xg.out.size)
  replace HT := Lib.hid (HT.out.trans (b14.mono HT.out.size))
  clear b14
  have HLG := Lib.hid Xg.out.len
  obtain ⟨RW, hRW⟩ : ∃ R, R = (awR y0 y1 a2 a3).1 := ⟨_, rfl⟩
  have HRW := Lib.hid hRW
  rw [← hRW] at Xg Xw HLG ⊢
  clear hRW
  have hlg := HLG.out
  go_wp2_with fail
  refine (markInts _ RW 1 v5.heap.size v6.heap.size _ Xg.out (by omega) (by omega)).mono ?_
  rintro e v15 ⟨rfl, oo, hg⟩
  have ho : Only (fun b => v5.heap.size ≤ b ∧ b < v6.heap.size) v14 v15 := ⟨hg.os, hg.tape, hg.output, hg.size, fun b hb hn => hg.block b hb (fun e => hn ⟨(Xg.out.row.lt b e.symm).1, Xg.out.top b e.symm⟩)⟩
  have SZ15 := Lib.hid hg.size
  replace Xw := Lib.hid (Xw.out.onlyQ ho (fun b h1 h2 h3 => by have := HT.out.size; have := SZ0.out; have := SZ1.out; have := SZ2.out; have := SZ3.out; have := SZ4.out; have := SZ5.out; have := SZ6.out; have := SZ7.out; have := SZ8.out; have := SZ9.out; have := SZ10.out; have := SZ11.out; have := SZ12.out; have := SZ13.out; have := SZ14.out; have := SZ15.out; omega))
  replace Xx1 := Lib.hid (Xx1.out.onlyQ ho (fun b h1 h2 h3 => by have := HT.out.size; have := SZ0.out; have := SZ1.out; have := SZ2.out; have := SZ3.out; have := SZ4.out; have := SZ5.out; have := SZ6.out; have := SZ7.out; have := SZ8.out; have := SZ9.out; have := SZ10.out; have := SZ11.out; have := SZ12.out; have := SZ13.out; have := SZ14.out; have := SZ15.out; omega))
  replace HT := Lib.hid (HT.out.trans (ho.below (fun b h3 => by have := HT.out.size; have := SZ0.out; have := SZ1.out; have := SZ2.out; have := SZ3.out; have := SZ4.out; have := SZ5.out; have := SZ6.out; have := SZ7.out; have := SZ8.out; have := SZ9.out; have := SZ10.out; have := SZ11.out; have := SZ12.out; have := SZ13.out; have := SZ14.out; have := SZ15.out; exact Nat.le_trans HTB.out (by omega)) HT.out.size))
  replace Xg := Lib.hid oo
  clear hg oo
  clear ho
  clear hlg
  have hn1 : ¬ ((1 : Int) + (RW.length : Int) < 0) := by omega
  go_wp2_with fail
  refine (heldInts _ RW.length 1 _ Xg.out.rd (by omega) (by omega)).mono ?_
  rintro e vh ⟨rfl, rfl⟩
  go_wp2_with fail
  refine (toTapesS _ y0 _ (R0.out.below HT.out (Nat.le_refl _))).mono ?_
  rintro e v16 ⟨ud0, rfl, od0, b16⟩
  have SZ16 := Lib.hid b16.size
  replace Xw := Lib.hid (Xw.out.below b16 Xw.out.size)
  replace Xx1 := Lib.hid (Xx1.out.below b16 Xx1.out.size)
  replace Xg := Lib.hid (Xg.out.below b16 Xg.out.size)
  replace HT := Lib.hid (HT.out.trans (b16.mono HT.out.size))
  clear b16
  obtain ⟨gad0, gcd0, hud0⟩ := od0.shape
  subst hud0
  have Yd0 := Lib.hid od0.rdt
  clear od0
  go_wp2_with fail
  refine (toInts _ y1 _ (R1.out.below HT.out (Nat.le_refl _))).mono ?_
  rintro e v17 ⟨ud1, rfl, od1, b17⟩
  have SZ17 := Lib.hid b17.size
  replace Xw := Lib.hid (Xw.out.below b17 Xw.out.size)
  replace Xx1 := Lib.hid (Xx1.out.below b17 Xx1.out.size)
  replace Xg := Lib.hid (Xg.out.below b17 Xg.out.size)
  replace Yd0 := Lib.hid (Yd0.out.below b17 (Nat.le_refl _))
  replace HT := Lib.hid (HT.out.trans (b17.mono HT.out.size))
  clear b17
  obtain ⟨gad1, gcd1, hud1⟩ := od1.shape
  subst hud1
  have Yd1 := Lib.hid od1.rd
  clear od1
  go_wp2_with fail
  have HCALL := Lib.hid (implApplyRewrite _ y0 _ y1 a2 a3 _ Yd0.out Yd1.out)
  rw [← HRW.out] at HCALL
  refine HCALL.out.mono ?_
  rintro e v18 ⟨uh0, rfl, oh0, bh0⟩
  have SZ18 := Lib.hid bh0.size
  replace Xw := Lib.hid (Xw.out.below bh0 Xw.out.size)
  replace Xx1 := Lib.hid (Xx1.out.below bh0 Xx1.out.size)
  replace Xg := Lib.hid (Xg.out.below bh0 Xg.out.size)
  replace Yd0 := Lib.hid (Yd0.out.below bh0 (Nat.le_refl _))
  replace Yd1 := Lib.hid (Yd1.out.below bh0 (Nat.le_refl _))
  replace HT := Lib.hid (HT.out.trans (bh0.mono HT.out.size))
  clear bh0 HCALL
  obtain ⟨nah, nch, huh⟩ := oh0.shape
  subst huh
  have Xh := Lib.hid oh0
  clear oh0
  have hn2 : ¬ ((1 : Int) + (RW.length : Int) < 0) := by omega
  go_wp2_with fail
  refine (eqInts _ _ RW _ Xh.out.rd Xw.out.rd).mono ?_
  rintro e v19 ⟨rfl, b9⟩
  replace Xg := Lib.hid (Xg.out.below b9 Xg.out.size)
  replace HT := Lib.hid (HT.out.trans (b9.mono HT.out.size))
  clear b9
  go_wp2_with fail
  refine (heldInts _ RW.length 1 _ Xg.out.rd (by omega) (by omega)).mono ?_
  rintro e vh ⟨rfl, rfl⟩
  go_wp2
  go_ret
  exact ⟨rfl, HT.out⟩

set_option maxRecDepth 100000 in
theorem lifted (os : Os) (started : os.Started) (H : Type) (enc : TypeId × Value → H) :
    ReturnsInHanded {} Try.checked os 6 .any (Rows.fnExactApplyRewriteSpec.pre6 enc Try.prog Try.f6 Rows.fnExactApplyRewriteRow.domain false) (Rows.fnExactApplyRewriteSpec.post enc Try.prog Try.f6 false true false false) := by
  refine returnsInHanded_of_change (C := Try.checked) own started (by kernel_rfl) Try.func6
    (ChangeSpec.witness6 (enc := enc) (C := Try.checked) false ⟨#[], #[.slice none 0 0, .slice none 0 0, .int .i64 0, .int .i64 0], []⟩ 8 (by kernel_rfl) (by kernel_rfl) (by kernel_rfl) (by kernel_rfl)) ?_
  intro W base args ds gs before hval0 hW hcnd _
  have hval : ∀ (j : Nat) t v, Try.f6.params[j]? = some t → args[j]? = some v → Value.okWide Try.prog W .any base t v := hval0
  have hW' := hW
  obtain ⟨p, q, hA0, hV, rfl, hfz, hnd⟩ := hW
  have hA : DataW.TrodAll enc Try.prog W 0 (fun _ => true) true Try.f6.params.toList args.toList ds p := hA0
  rw [Try.params6] at hA hval
  obtain ⟨v0, vs0, d0, ds0, p0, q0, hargs, rfl, rfl, h0, r0⟩ := trodAll_cons hA
  obtain ⟨v1, vs1, d1, ds1, p1, q1, rfl, rfl, rfl, h1, r1⟩ := trodAll_cons r0
  obtain ⟨v2, vs2, d2, ds2, p2, q2, rfl, rfl, rfl, h2, r2⟩ := trodAll_cons r1
  obtain ⟨v3, vs3, d3, ds3, p3, q3, rfl, rfl, rfl, h3, r3⟩ := trodAll_cons r2
  obtain ⟨rfl, rfl, rfl⟩ := trodAll_nil r3
  obtain rfl : args = #[v0, v1, v2, v3] := by cases args; simp_all
  obtain ⟨rfl, rfl⟩ := trodVars_none hV
  have k0 := h0
  have lt0 : ∀ x ∈ p0, x.block < W.heap.size := by obtain ⟨m, hm⟩ := k0; exact DataW.trod_lt m _ _ _ hm
  obtain ⟨a0_0, len0_0, cap0_0, rfl⟩ := okWide_slice Try.underlying29 (hval 0 29 v0 rfl rfl)
  obtain ⟨z0_0, w0_0⟩ : ∃ zs, IsTapes W a0_0 len0_0 cap0_0 zs := by
    obtain ⟨fuel, hf⟩ := h0
    obtain ⟨a', len', cap', z', e', w'⟩ := open_tapes hf
    simp [Value.cells] at e'
    obtain ⟨rfl, rfl, rfl⟩ := e'
    exact ⟨z', w'⟩
  have k1 := h1
  have lt1 : ∀ x ∈ p1, x.block < W.heap.size := by obtain ⟨m, hm⟩ := k1; exact DataW.trod_lt m _ _ _ hm
  obtain ⟨a1_0, len1_0, cap1_0, rfl⟩ := okWide_slice Try.underlying22 (hval 1 22 v1 rfl rfl)
  obtain ⟨z1_0, w1_0⟩ : ∃ zs, IsList W a1_0 len1_0 cap1_0 zs := by
    obtain ⟨fuel, hf⟩ := h1
    obtain ⟨a', len', cap', z', e', w'⟩ := open_list hf
    simp [Value.cells] at e'
    obtain ⟨rfl, rfl, rfl⟩ := e'
    exact ⟨z', w'⟩
  obtain ⟨a2, rfl, rfl, rfl, w2⟩ := open_int Try.underlying2 (hval 2 2 v2 rfl rfl) h2
  obtain ⟨a3, rfl, rfl, rfl, w3⟩ := open_int Try.underlying2 (hval 3 2 v3 rfl rfl) h3
  clear hA0 hval0
  refine (walk a0_0 len0_0 cap0_0 z0_0 a1_0 len1_0 cap1_0 z1_0 a2 a3 W w0_0 w1_0 w2 w3).mono fun e W' ⟨he, bel⟩ => ?_
  subst he
  exact ⟨_, rfl, _, _, _, [], _, [], hW', trodAll_mk1 (shut_bool Try.underlying4 _), (trodAll_cons_mk (Below.trod laidOut (by kernel_rfl) (of_decide_eq_true (by kernel_rfl)) k0 bel lt0) (trodAll_cons_mk (Below.trod laidOut (by kernel_rfl) (of_decide_eq_true (by kernel_rfl)) k1 bel lt1) (trodAll_cons_mk (shut_int Try.underlying2 w2) (trodAll_cons_mk (shut_int Try.underlying2 w3) trodAll_mk0)))), rfl, bel.frame _, fun h => by cases h⟩

theorem over : Rows.fnExactApplyRewriteRow.holds Try.pinned (OpenSpec.ofChange Rows.fnExactApplyRewriteSpec) :=
  OpenClaim.holds_of_wide 6 Try.f6 rfl rfl rfl rfl rfl rfl rfl ⟨rfl, rfl, rfl, rfl, rfl⟩ rfl rfl rfl rfl rfl (by kernel_rfl) Try.func6 (by kernel_rfl)
    (of_decide_eq_true (by kernel_rfl)) (by unfold Func.isWrapper; first | (rw [if_pos (by decide +kernel)]; kernel_rfl) | (rw [if_neg (by decide +kernel)]; exact ⟨rfl, rfl⟩))
    (fun os started H enc _ => lifted os started H enc)

/-- The statement. -/
theorem proved : Rows.FnExactApplyRewriteSaid := over
#print axioms proved
end Go.Proofs.Ythombjcjhnekpaa.fnExactApplyRewrite
