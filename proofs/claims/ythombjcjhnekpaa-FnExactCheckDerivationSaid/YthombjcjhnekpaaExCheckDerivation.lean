/-   FnExactCheckDerivation: for every list of rewriting rules, every word and every list of steps the program's CheckDerivation answers as its model, word and code, leaves its arguments alone, and its answer is its own. No condition. -/
import Derived.Test.YthombjcjhnekpaaRows
import Derived.WalkKit
import Derived.ProofKit
import Derived.OpenShut
import Derived.ShutString
import Derived.ChangeOld
import Derived.Below
import Derived.Lib.SmallJoins
import Derived.Deep.Strs
import Derived.OpenVars
import Derived.ChangeMaps5
import Derived.Handy
import Derived.Lib.Hide
import Derived.Deep.RegionHeld3
import Derived.Test.YthombjcjhnekpaaRws3
import Derived.Test.YthombjcjhnekpaaLls
import Derived.Test.YthombjcjhnekpaaChD
namespace Go.Proofs.Ythombjcjhnekpaa.fnExactCheckDerivation
open Go.ChangeShapes Go.WideShapes Go.ChangeAt Go.RowKit
set_option linter.unusedVariables false
set_option linter.unusedSimpArgs false

theorem own : ownKnob Try.prog.godebug = none := by kernel_rfl
theorem laidOut : laidOutB Try.prog = true := by kernel_rfl
open Ints

set_option maxRecDepth 100000 in
set_option maxHeartbeats 16000000 in
theorem walk (a0_0 : Option Addr) (len0_0 cap0_0 : Nat) (z0_0 : List Tin) (a1_0 : Option Addr) (len1_0 cap1_0 : Nat) (z1_0 : List Int) (a2_0 : Option Addr) (len2_0 cap2_0 : Nat) (z2_0 : List Qin) (w : World) (w0_0 : IsTapes w a0_0 len0_0 cap0_0 z0_0) (w1_0 : IsList w a1_0 len1_0 cap1_0 z1_0) (w2_0 : IsLists w a2_0 len2_0 cap2_0 z2_0) :
    Calls Try.prog 7 #[.slice a0_0 len0_0 cap0_0, .slice a1_0 len1_0 cap1_0, .slice a2_0 len2_0 cap2_0] w fun e w' => e = .returned (.bool true) ∧ Below w.heap.size w w' := by
  by_cases hb1 : len1_0 ≤ 1048576
  rotate_left
  · have hc1 : (1048576 : Int) < (len1_0 : Int) := by omega
    go_enter Try.func7, Try.ntmps7
    go_wp2
    go_ret
    exact ⟨rfl, Below.refl _ _⟩
  have hd1 : ¬ (1048576 : Int) < (len1_0 : Int) := by omega
  obtain ⟨y1, hy1⟩ : ∃ y, y = z1_0.take len1_0 := ⟨_, rfl⟩
  have R1 : Hid (Rd w (.slice a1_0 len1_0 cap1_0) y1) := Lib.hid (by rw [hy1]; exact rd_of_row w1_0 hb1)
  clear hy1 w1_0
  have hz0 := w0_0.le
  obtain ⟨l0, hl0⟩ : ∃ l : Int, l = 1048576 - (len0_0 : Int) := ⟨_, rfl⟩
  obtain ⟨m0, hm0⟩ : ∃ m : Int, m = szT l0 (z0_0.take len0_0) := ⟨_, rfl⟩
  have HI := Lib.hid w0_0
  have HL := Lib.hid hl0
  have HM := Lib.hid hm0
  have HZ := Lib.hid hz0
  have hlen : 0 ≤ l0 → len0_0 ≤ 1048576 := fun h => by omega
  have HLEN := Lib.hid hlen
  have HQ : Hid (l0 ≤ 1048576) := Lib.hid (by omega)
  obtain ⟨m2, hm2⟩ : ∃ m : Int, m = szQV m0 len2_0 z2_0 := ⟨_, rfl⟩
  have HM2 := Lib.hid hm2
  have HI2 := Lib.hid w2_0
  clear hm2 w2_0
  clear hl0 hm0 hz0 hlen w0_0
  by_cases h0 : 0 ≤ l0
  rotate_left
  · have h1 : l0 < 0 := by omega
    go_enter Try.func7, Try.ntmps7
    go_wp2_with fail
    refine (szTapes_bad _ _ _ _ HZ.out (by omega) HL.out h1).mono ?_
    rintro e v0 ⟨rfl, b0⟩
    have HT := Lib.hid b0
    clear b0
    go_wp2
    go_ret
    exact ⟨rfl, HT.out⟩
  by_cases h2 : 0 ≤ m0
  rotate_left
  · have h3 : m0 < 0 := by omega
    go_enter Try.func7, Try.ntmps7
    go_wp2_with fail
    refine (szTapes _ _ _ z0_0 _ HI.out (by omega) HL.out h0).mono ?_
    rintro e v0 ⟨rfl, b0⟩
    rw [← HM.out]
    have HT := Lib.hid b0
    have SZ0 := Lib.hid b0.size
    clear b0
    go_wp2
    go_ret
    exact ⟨rfl, HT.out⟩
  have hn : ¬ m0 < 0 := by omega
  have HP0 : Hid (0 ≤ m0 ∧ m0 ≤ 1048576) := Lib.hid ⟨h2, by have := szT_le (z0_0.take len0_0) l0; rw [← HM.out] at this; have := HQ.out; omega⟩
  by_cases hq2 : 0 ≤ m2
  rotate_left
  · have hr2 : m2 < 0 := by omega
    go_enter Try.func7, Try.ntmps7
    go_wp2_with fail
    refine (szTapes _ _ _ z0_0 _ HI.out (by omega) HL.out h0).mono ?_
    rintro e v0 ⟨rfl, b0⟩
    rw [← HM.out]
    have HT := Lib.hid b0
    have SZ0 := Lib.hid b0.size
    clear b0
    go_wp2_with fail
    refine (szListsB a2_0 len2_0 cap2_0 z2_0 _ HI2.out HT.out HP0.out HM2.out).mono ?_
    rintro e vq ⟨rfl, rfl⟩
    go_wp2
    go_ret
    exact ⟨rfl, HT.out⟩
  have hn2 : ¬ m2 < 0 := by omega
  obtain ⟨y2, hy2⟩ : ∃ y, y = (z2_0.take len2_0).map Qin.q := ⟨_, rfl⟩
  have R2 : Hid (RdL w (.slice a2_0 len2_0 cap2_0) y2) := Lib.hid (by rw [hy2]; exact rdl_of_sz HI2.out HP0.out.2 (by rw [← HM2.out]; exact hq2))
  have HTOT2 : Hid (tot y2 ≤ 1048576) := Lib.hid (by have := szQV_tot (L := m0) (n := len2_0) (zs := z2_0) (by rw [← HM2.out]; exact hq2); rw [← hy2] at this; have := HP0.out; omega)
  clear hy2
  obtain ⟨y0, hy0⟩ : ∃ y, y = (z0_0.take len0_0).map Tin.tp := ⟨_, rfl⟩
  have R0 : Hid (RdT w (.slice a0_0 len0_0 cap0_0) y0) := Lib.hid (by rw [hy0]; exact rdt_of_row HI.out (HLEN.out h0) (szT_good _ l0 (by rw [← HM.out]; exact h2) HQ.out))
  have HTOT : Hid (totR y0 ≤ 1048576) := Lib.hid (by have := szT_tot (z0_0.take len0_0) l0 (by rw [← HM.out]; exact h2); rw [← hy0] at this; have := HQ.out; omega)
  clear hy0
  go_enter Try.func7, Try.ntmps7
  go_wp2_with fail
  refine (szTapes _ _ _ z0_0 _ HI.out (by omega) HL.out h0).mono ?_
  rintro e v0 ⟨rfl, b0⟩
  rw [← HM.out]
  have HT := Lib.hid b0
  have SZ0 := Lib.hid b0.size
  clear b0
  go_wp2_with fail
  refine (szListsB a2_0 len2_0 cap2_0 z2_0 _ HI2.out HT.out HP0.out HM2.out).mono ?_
  rintro e vq ⟨rfl, rfl⟩
  clear HL HM HI h0 HLEN HQ HZ HM2 HI2
  go_wp2_with fail
  refine (toTapesS _ y0 _ (R0.out.below HT.out (Nat.le_refl _))).mono ?_
  rintro e v1 ⟨us0, rfl, os0, b1⟩
  have SZ1 := Lib.hid b1.size
  replace HT := Lib.hid (HT.out.trans (b1.mono HT.out.size))
  clear b1
  obtain ⟨gas0, gcs0, hus0⟩ := os0.shape
  subst hus0
  have Ys0 := Lib.hid os0.rdt
  clear os0
  go_wp2_with fail
  refine (toInts _ y1 _ (R1.out.below HT.out (Nat.le_refl _))).mono ?_
  rintro e v2 ⟨us1, rfl, os1, b2⟩
  have SZ2 := Lib.hid b2.size
  replace Ys0 := Lib.hid (Ys0.out.below b2 (Nat.le_refl _))
  replace HT := Lib.hid (HT.out.trans (b2.mono HT.out.size))
  clear b2
  obtain ⟨gas1, gcs1, hus1⟩ := os1.shape
  subst hus1
  have Ys1 := Lib.hid os1.rd
  clear os1
  go_wp2_with fail
  refine (toListsT _ y2 _ (R2.out.below HT.out (Nat.le_refl _))).mono ?_
  rintro e v3 ⟨us2, rfl, os2, b3⟩
  have SZ3 := Lib.hid b3.size
  replace Ys0 := Lib.hid (Ys0.out.below b3 (Nat.le_refl _))
  replace Ys1 := Lib.hid (Ys1.out.below b3 (Nat.le_refl _))
  replace HT := Lib.hid (HT.out.trans (b3.mono HT.out.size))
  clear b3
  obtain ⟨gas2, gcs2, hus2⟩ := os2.shape
  subst hus2
  have Ys2 := Lib.hid os2.rdl
  clear os2
  go_wp2_with fail
  refine (specCheckD _ y0 _ y1 _ y2 _ Ys0.out Ys1.out Ys2.out).mono ?_
  rintro e v4 ⟨uw, rfl, ow, b4⟩
  have SZ4 := Lib.hid b4.size
  replace Ys0 := Lib.hid (Ys0.out.below b4 (Nat.le_refl _))
  replace Ys1 := Lib.hid (Ys1.out.below b4 (Nat.le_refl _))
  replace Ys2 := Lib.hid (Ys2.out.below b4 (Nat.le_refl _))
  replace HT := Lib.hid (HT.out.trans (b4.mono HT.out.size))
  clear b4
  obtain ⟨naw, ncw, huw⟩ := ow.shape
  subst huw
  have Xw := Lib.hid ow
  clear ow
  clear Ys0 Ys1 Ys2
  go_wp2_with fail
  refine (toTapesS _ y0 _ (R0.out.below HT.out (Nat.le_refl _))).mono ?_
  rintro e v5 ⟨ux0, rfl, ox0, b5⟩
  have SZ5 := Lib.hid b5.size
  replace Xw := Lib.hid (Xw.out.below b5 Xw.out.size)
  replace HT := Lib.hid (HT.out.trans (b5.mono HT.out.size))
  clear b5
  obtain ⟨gax0, gcx0, hux0⟩ := ox0.shape
  subst hux0
  have Xx0 := Lib.hid ox0
  clear ox0
  go_wp2_with fail
  refine (toInts _ y1 _ (R1.out.below HT.out (Nat.le_refl _))).mono ?_
  rintro e v6 ⟨ux1, rfl, ox1, b6⟩
  have SZ6 := Lib.hid b6.size
  replace Xw := Lib.hid (Xw.out.below b6 Xw.out.size)
  replace Xx0 := Lib.hid (Xx0.out.below b6 Xx0.out.size)
  replace HT := Lib.hid (HT.out.trans (b6.mono HT.out.size))
  clear b6
  obtain ⟨gax1, gcx1, hux1⟩ := ox1.shape
  subst hux1
  have Xx1 := Lib.hid ox1
  clear ox1
  go_wp2_with fail
  refine (toListsT _ y2 _ (R2.out.below HT.out (Nat.le_refl _))).mono ?_
  rintro e v7 ⟨ux2, rfl, ox2, b7⟩
  have SZ7 := Lib.hid b7.size
  replace Xw := Lib.hid (Xw.out.below b7 Xw.out.size)
  replace Xx0 := Lib.hid (Xx0.out.below b7 Xx0.out.size)
  replace Xx1 := Lib.hid (Xx1.out.below b7 Xx1.out.size)
  replace HT := Lib.hid (HT.out.trans (b7.mono HT.out.size))
  clear b7
  obtain ⟨gax2, gcx2, hux2⟩ := ox2.shape
  subst hux2
  have Xx2 := Lib.hid ox2
  clear ox2
  go_wp2_with fail
  refine (implCheckD _ y0 _ y1 _ y2 _ Xx0.out.rdt Xx1.out.rd Xx2.out.rdl).mono ?_
  rintro e v8 ⟨ug, rfl, og, b8⟩
  have SZ8 := Lib.hid b8.size
  replace Xw := Lib.hid (Xw.out.below b8 Xw.out.size)
  replace Xx0 := Lib.hid (Xx0.out.below b8 Xx0.out.size)
  replace Xx1 := Lib.hid (Xx1.out.below b8 Xx1.out.size)
  replace Xx2 := Lib.hid (Xx2.out.below b8 Xx2.out.size)
  replace HT := Lib.hid (HT.out.trans (b8.mono HT.out.size))
  clear b8
  obtain ⟨nag, ncg, hug⟩ := og.shape
  subst hug
  have Xg := Lib.hid og
  clear og
  go_wp2_with fail
  refine (eqInts _ _ (cdR y0 y1 y2).1 _ Xg.out.rd Xw.out.rd).mono ?_
  rintro e v9 ⟨rfl, b9⟩
  have SZ9 := Lib.hid b9.size
  replace Xw := Lib.hid (Xw.out.below b9 Xw.out.size)
  replace Xx0 := Lib.hid (Xx0.out.below b9 Xx0.out.size)
  replace Xx1 := Lib.hid (Xx1.out.below b9 Xx1.out.size)
  replace Xx2 := Lib.hid (Xx2.out.below b9 Xx2.out.size)
  replace Xg := Lib.hid (Xg.out.below b9 Xg.out.size)
  replace HT := Lib.hid (HT.out.trans (b9.mono HT.out.size))
  clear b9
  go_wp2_with fail
  refine (toTapesS _ y0 _ (R0.out.below HT.out (Nat.le_refl _))).mono ?_
  rintro e v10 ⟨uc0, rfl, oc0, b10⟩
  have SZ10 := Lib.hid b10.size
  replace Xw := Lib.hid (Xw.out.below b10 Xw.out.size)
  replace Xx0 := Lib.hid (Xx0.out.below b10 Xx0.out.size)
  replace Xx1 := Lib.hid (Xx1.out.below b10 Xx1.out.size)
  replace Xx2 := Lib.hid (Xx2.out.below b10 Xx2.out.size)
  replace Xg := Lib.hid (Xg.out.below b10 Xg.out.size)
  replace HT := Lib.hid (HT.out.trans (b10.mono HT.out.size))
  clear b10
  obtain ⟨gac0, gcc0, huc0⟩ := oc0.shape
  subst huc0
  have Yc0 := Lib.hid oc0.rdt
  clear oc0
  go_wp2_with fail
  refine (eqTapes _ _ y0 _ Xx0.out.rdt Yc0.out).mono ?_
  rintro e v11 ⟨rfl, b11⟩
  have SZ11 := Lib.hid b11.size
  replace Xw := Lib.hid (Xw.out.below b11 Xw.out.size)
  replace Xx0 := Lib.hid (Xx0.out.below b11 Xx0.out.size)
  replace Xx1 := Lib.hid (Xx1.out.below b11 Xx1.out.size)
  replace Xx2 := Lib.hid (Xx2.out.below b11 Xx2.out.size)
  replace Xg := Lib.hid (Xg.out.below b11 Xg.out.size)
  replace Yc0 := Lib.hid (Yc0.out.below b11 (Nat.le_refl _))
  replace HT := Lib.hid (HT.out.trans (b11.mono HT.out.size))
  clear b11
  clear Yc0
  go_wp2_with fail
  refine (toInts _ y1 _ (R1.out.below HT.out (Nat.le_refl _))).mono ?_
  rintro e v12 ⟨uc1, rfl, oc1, b12⟩
  have SZ12 := Lib.hid b12.size
  replace Xw := Lib.hid (Xw.out.below b12 Xw.out.size)
  replace Xx0 := Lib.hid (Xx0.out.below b12 Xx0.out.size)
  replace Xx1 := Lib.hid (Xx1.out.below b12 Xx1.out.size)
  replace Xx2 := Lib.hid (Xx2.out.below b12 Xx2.out.size)
  replace Xg := Lib.hid (Xg.out.below b12 Xg.out.size)
  replace HT := Lib.hid (HT.out.trans (b12.mono HT.out.size))
  clear b12
  obtain ⟨gac1, gcc1, huc1⟩ := oc1.shape
  subst huc1
  have Yc1 := Lib.hid oc1.rd
  clear oc1
  go_wp2_with fail
  refine (eqInts _ _ y1 _ Xx1.out.rd Yc1.out).mono ?_
  rintro e v13 ⟨rfl, b13⟩
  have SZ13 := Lib.hid b13.size
  replace Xw := Lib.hid (Xw.out.below b13 Xw.out.size)
  replace Xx0 := Lib.hid (Xx0.out.below b13 Xx0.out.size)
  replace Xx1 := Lib.hid (Xx1.out.below b13 Xx1.out.size)
  replace Xx2 := Lib.hid (Xx2.out.below b13 Xx2.out.size)
  replace Xg := Lib.hid (Xg.out.below b13 Xg.out.size)
  replace Yc1 := Lib.hid (Yc1.out.below b13 (Nat.le_refl _))
  replace HT := Lib.hid (HT.out.trans (b13.mono HT.out.size))
  clear b13
  clear Yc1
  go_wp2_with fail
  refine (toListsT _ y2 _ (R2.out.below HT.out (Nat.le_refl _))).mono ?_
  rintro e v14 ⟨uc2, rfl, oc2, b14⟩
  have SZ14 := Lib.hid b14.size
  replace Xw := Lib.hid (Xw.out.below b14 Xw.out.size)
  replace Xx0 := Lib.hid (Xx0.out.below b14 Xx0.out.size)
  replace Xx1 := Lib.hid (Xx1.out.below b14 Xx1.out.size)
  replace Xx2 := Lib.hid (Xx2.out.below b14 Xx2.out.size)
  replace Xg := Lib.hid (Xg.out.below b14 Xg.out.size)
  replace HT := Lib.hid (HT.out.trans (b14.mono HT.out.size))
  clear b14
  obtain ⟨gac2, gcc2, huc2⟩ := oc2.shape
  subst huc2
  have Yc2 := Lib.hid oc2.rdl
  clear oc2
  go_wp2_with fail
  refine (eqLists _ _ y2 _ Xx2.out.rdl Yc2.out).mono ?_
  rintro e v15 ⟨rfl, b15⟩
  have SZ15 := Lib.hid b15.size
  replace Xw := Lib.hid (Xw.out.below b15 Xw.out.size)
  replace Xx0 := Lib.hid (Xx0.out.below b15 Xx0.out.size)
  replace Xx1 := Lib.hid (Xx1.out.below b15 Xx1.out.size)
  replace Xx2 := Lib.hid (Xx2.out.below b15 Xx2.out.size)
  replace Xg := Lib.hid (Xg.out.below b15 Xg.out.size)
  replace Yc2 := Lib.hid (Yc2.out.below b15 (Nat.le_refl _))
  replace HT := Lib.hid (HT.out.trans (b15.mono HT.out.size))
  clear b15
  clear Yc2
  have HTB : Hid (w.heap.size ≤ v0.heap.size) := Lib.hid (by have := SZ0.out; omega)
  have TB0 := HTOT.out
  have TB1 := R1.out.len
  have TB2 := HTOT2.out
  go_wp2_with fail
  refine (markRws _ y0 1 v4.heap.size v5.heap.size _ Xx0.out (by omega)).mono ?_
  rintro e v16 ⟨rfl, ho⟩
  have SZ16 := Lib.hid ho.size
  clear Xx0
  replace Xw := Lib.hid (Xw.out.onlyQ ho (fun b h1 h2 h3 => by have := HT.out.size; have := SZ0.out; have := SZ1.out; have := SZ2.out; have := SZ3.out; have := SZ4.out; have := SZ5.out; have := SZ6.out; have := SZ7.out; have := SZ8.out; have := SZ9.out; have := SZ10.out; have := SZ11.out; have := SZ12.out; have := SZ13.out; have := SZ14.out; have := SZ15.out; have := SZ16.out; omega))
  replace Xx1 := Lib.hid (Xx1.out.onlyQ ho (fun b h1 h2 h3 => by have := HT.out.size; have := SZ0.out; have := SZ1.out; have := SZ2.out; have := SZ3.out; have := SZ4.out; have := SZ5.out; have := SZ6.out; have := SZ7.out; have := SZ8.out; have := SZ9.out; have := SZ10.out; have := SZ11.out; have := SZ12.out; have := SZ13.out; have := SZ14.out; have := SZ15.out; have := SZ16.out; omega))
  replace Xx2 := Lib.hid (Xx2.out.onlyQ ho (fun b h1 h2 h3 => by have := HT.out.size; have := SZ0.out; have := SZ1.out; have := SZ2.out; have := SZ3.out; have := SZ4.out; have := SZ5.out; have := SZ6.out; have := SZ7.out; have := SZ8.out; have := SZ9.out; have := SZ10.out; have := SZ11.out; have := SZ12.out; have := SZ13.out; have := SZ14.out; have := SZ15.out; have := SZ16.out; omega))
  replace Xg := Lib.hid (Xg.out.onlyQ ho (fun b h1 h2 h3 => by have := HT.out.size; have := SZ0.out; have := SZ1.out; have := SZ2.out; have := SZ3.out; have := SZ4.out; have := SZ5.out; have := SZ6.out; have := SZ7.out; have := SZ8.out; have := SZ9.out; have := SZ10.out; have := SZ11.out; have := SZ12.out; have := SZ13.out; have := SZ14.out; have := SZ15.out; have := SZ16.out; omega))
  replace HT := Lib.hid (HT.out.trans (ho.below (fun b h3 => by have := HT.out.size; have := SZ0.out; have := SZ1.out; have := SZ2.out; have := SZ3.out; have := SZ4.out; have := SZ5.out; have := SZ6.out; have := SZ7.out; have := SZ8.out; have := SZ9.out; have := SZ10.out; have := SZ11.out; have := SZ12.out; have := SZ13.out; have := SZ14.out; have := SZ15.out; have := SZ16.out; exact Nat.le_trans HTB.out (by omega)) HT.out.size))
  clear ho
  obtain ⟨k1, hk1⟩ : ∃ k : Nat, k = 1 + totR y0 := ⟨_, rfl⟩
  rw [← hk1]
  have TK1 : k1 ≤ 40000000 := by omega
  clear hk1
  go_wp2_with fail
  refine (markInts _ y1 (k1 : Int) v5.heap.size v6.heap.size _ Xx1.out (by omega) (by omega)).mono ?_
  rintro e v17 ⟨rfl, oo, hg⟩
  have ho : Only (fun b => v5.heap.size ≤ b ∧ b < v6.heap.size) v16 v17 := ⟨hg.os, hg.tape, hg.output, hg.size, fun b hb hn => hg.block b hb (fun e => hn ⟨(Xx1.out.row.lt b e.symm).1, Xx1.out.top b e.symm⟩)⟩
  have SZ17 := Lib.hid hg.size
  replace Xw := Lib.hid (Xw.out.onlyQ ho (fun b h1 h2 h3 => by have := HT.out.size; have := SZ0.out; have := SZ1.out; have := SZ2.out; have := SZ3.out; have := SZ4.out; have := SZ5.out; have := SZ6.out; have := SZ7.out; have := SZ8.out; have := SZ9.out; have := SZ10.out; have := SZ11.out; have := SZ12.out; have := SZ13.out; have := SZ14.out; have := SZ15.out; have := SZ16.out; have := SZ17.out; omega))
  replace Xx2 := Lib.hid (Xx2.out.onlyQ ho (fun b h1 h2 h3 => by have := HT.out.size; have := SZ0.out; have := SZ1.out; have := SZ2.out; have := SZ3.out; have := SZ4.out; have := SZ5.out; have := SZ6.out; have := SZ7.out; have := SZ8.out; have := SZ9.out; have := SZ10.out; have := SZ11.out; have := SZ12.out; have := SZ13.out; have := SZ14.out; have := SZ15.out; have := SZ16.out; have := SZ17.out; omega))
  replace Xg := Lib.hid (Xg.out.onlyQ ho (fun b h1 h2 h3 => by have := HT.out.size; have := SZ0.out; have := SZ1.out; have := SZ2.out; have := SZ3.out; have := SZ4.out; have := SZ5.out; have := SZ6.out; have := SZ7.out; have := SZ8.out; have := SZ9.out; have := SZ10.out; have := SZ11.out; have := SZ12.out; have := SZ13.out; have := SZ14.out; have := SZ15.out; have := SZ16.out; have := SZ17.out; omega))
  replace HT := Lib.hid (HT.out.trans (ho.below (fun b h3 => by have := HT.out.size; have := SZ0.out; have := SZ1.out; have := SZ2.out; have := SZ3.out; have := SZ4.out; have := SZ5.out; have := SZ6.out; have := SZ7.out; have := SZ8.out; have := SZ9.out; have := SZ10.out; have := SZ11.out; have := SZ12.out; have := SZ13.out; have := SZ14.out; have := SZ15.out; have := SZ16.out; have := SZ17.out; exact Nat.le_trans HTB.out (by omega)) HT.out.size))
  replace Xx1 := Lib.hid oo
  clear hg oo
  clear ho
  obtain ⟨k2, hk2⟩ : ∃ k : Nat, k = k1 + y1.length := ⟨_, rfl⟩
  rw [show ((k1 : Nat) : Int) + (y1.length : Int) = (k2 : Int) by rw [hk2]; push_cast; rfl]
  have TK2 : k2 ≤ 60000000 := by omega
  clear hk2
  go_wp2_with fail
  refine (markLists _ y2 k2 v6.heap.size v7.heap.size _ Xx2.out (by omega)).mono ?_
  rintro e v18 ⟨rfl, ho⟩
  have SZ18 := Lib.hid ho.size
  clear Xx2
  replace Xw := Lib.hid (Xw.out.onlyQ ho (fun b h1 h2 h3 => by have := HT.out.size; have := SZ0.out; have := SZ1.out; have := SZ2.out; have := SZ3.out; have := SZ4.out; have := SZ5.out; have := SZ6.out; have := SZ7.out; have := SZ8.out; have := SZ9.out; have := SZ10.out; have := SZ11.out; have := SZ12.out; have := SZ13.out; have := SZ14.out; have := SZ15.out; have := SZ16.out; have := SZ17.out; have := SZ18.out; omega))
  replace Xx1 := Lib.hid (Xx1.out.onlyQ ho (fun b h1 h2 h3 => by have := HT.out.size; have := SZ0.out; have := SZ1.out; have := SZ2.out; have := SZ3.out; have := SZ4.out; have := SZ5.out; have := SZ6.out; have := SZ7.out; have := SZ8.out; have := SZ9.out; have := SZ10.out; have := SZ11.out; have := SZ12.out; have := SZ13.out; have := SZ14.out; have := SZ15.out; have := SZ16.out; have := SZ17.out; have := SZ18.out; omega))
  replace Xg := Lib.hid (Xg.out.onlyQ ho (fun b h1 h2 h3 => by have := HT.out.size; have := SZ0.out; have := SZ1.out; have := SZ2.out; have := SZ3.out; have := SZ4.out; have := SZ5.out; have := SZ6.out; have := SZ7.out; have := SZ8.out; have := SZ9.out; have := SZ10.out; have := SZ11.out; have := SZ12.out; have := SZ13.out; have := SZ14.out; have := SZ15.out; have := SZ16.out; have := SZ17.out; have := SZ18.out; omega))
  replace HT := Lib.hid (HT.out.trans (ho.below (fun b h3 => by have := HT.out.size; have := SZ0.out; have := SZ1.out; have := SZ2.out; have := SZ3.out; have := SZ4.out; have := SZ5.out; have := SZ6.out; have := SZ7.out; have := SZ8.out; have := SZ9.out; have := SZ10.out; have := SZ11.out; have := SZ12.out; have := SZ13.out; have := SZ14.out; have := SZ15.out; have := SZ16.out; have := SZ17.out; have := SZ18.out; exact Nat.le_trans HTB.out (by omega)) HT.out.size))
  clear ho
  obtain ⟨k3, hk3⟩ : ∃ k : Nat, k = k2 + tot y2 := ⟨_, rfl⟩
  rw [← hk3]
  have TK3 : k3 ≤ 80000000 := by omega
  clear hk3
  have hkn : ¬ ((k3 : Int) < 0) := by omega
  clear TB0 TB1 TB2 TK1 TK2 TK3
  go_wp2_with fail
  refine (eqInts _ _ (cdR y0 y1 y2).1 _ Xg.out.rd Xw.out.rd).mono ?_
  rintro e v19 ⟨rfl, b19⟩
  have SZ19 := Lib.hid b19.size
  replace Xw := Lib.hid (Xw.out.below b19 Xw.out.size)
  replace Xx1 := Lib.hid (Xx1.out.below b19 Xx1.out.size)
  replace Xg := Lib.hid (Xg.out.below b19 Xg.out.size)
  replace HT := Lib.hid (HT.out.trans (b19.mono HT.out.size))
  clear b19
  have HLG := Lib.hid Xg.out.len
  obtain ⟨RW, hRW⟩ : ∃ R, R = (cdR y0 y1 y2).1 := ⟨_, rfl⟩
  have HRW := Lib.hid hRW
  rw [← hRW] at Xg Xw HLG ⊢
  clear hRW
  have hlg := HLG.out
  go_wp2_with fail
  refine (markInts _ RW 1 v7.heap.size v8.heap.size _ Xg.out (by omega) (by omega)).mono ?_
  rintro e v20 ⟨rfl, oo, hg⟩
  have ho : Only (fun b => v7.heap.size ≤ b ∧ b < v8.heap.size) v19 v20 := ⟨hg.os, hg.tape, hg.output, hg.size, fun b hb hn => hg.block b hb (fun e => hn ⟨(Xg.out.row.lt b e.symm).1, Xg.out.top b e.symm⟩)⟩
  have SZ20 := Lib.hid hg.size
  replace Xw := Lib.hid (Xw.out.onlyQ ho (fun b h1 h2 h3 => by have := HT.out.size; have := SZ0.out; have := SZ1.out; have := SZ2.out; have := SZ3.out; have := SZ4.out; have := SZ5.out; have := SZ6.out; have := SZ7.out; have := SZ8.out; have := SZ9.out; have := SZ10.out; have := SZ11.out; have := SZ12.out; have := SZ13.out; have := SZ14.out; have := SZ15.out; have := SZ16.out; have := SZ17.out; have := SZ18.out; have := SZ19.out; have := SZ20.out; omega))
  replace Xx1 := Lib.hid (Xx1.out.onlyQ ho (fun b h1 h2 h3 => by have := HT.out.size; have := SZ0.out; have := SZ1.out; have := SZ2.out; have := SZ3.out; have := SZ4.out; have := SZ5.out; have := SZ6.out; have := SZ7.out; have := SZ8.out; have := SZ9.out; have := SZ10.out; have := SZ11.out; have := SZ12.out; have := SZ13.out; have := SZ14.out; have := SZ15.out; have := SZ16.out; have := SZ17.out; have := SZ18.out; have := SZ19.out; have := SZ20.out; omega))
  replace HT := Lib.hid (HT.out.trans (ho.below (fun b h3 => by have := HT.out.size; have := SZ0.out; have := SZ1.out; have := SZ2.out; have := SZ3.out; have := SZ4.out; have := SZ5.out; have := SZ6.out; have := SZ7.out; have := SZ8.out; have := SZ9.out; have := SZ10.out; have := SZ11.out; have := SZ12.out; have := SZ13.out; have := SZ14.out; have := SZ15.out; have := SZ16.out; have := SZ17.out; have := SZ18.out; have := SZ19.out; have := SZ20.out; exact Nat.le_trans HTB.out (by omega)) HT.out.size))
  replace Xg := Lib.hid oo
  clear hg oo
  clear ho
  clear hlg
  have hn1 : ¬ ((1 : Int) + (RW.length : Int) < 0) := by omega
  go_wp2_with fail
  refine (heldInts _ RW.length 1 _ Xg.out.rd (by omega) (by omega)).mono ?_
  rintro e vh ⟨rfl, rfl⟩
  go_wp2_with fail
  refine (toTapesS _ y0 _ (R0.out.below HT.out (Nat.le_refl _))).mono ?_
  rintro e v21 ⟨ud0, rfl, od0, b21⟩
  have SZ21 := Lib.hid b21.size
  replace Xw := Lib.hid (Xw.out.below b21 Xw.out.size)
  replace Xx1 := Lib.hid (Xx1.out.below b21 Xx1.out.size)
  replace Xg := Lib.hid (Xg.out.below b21 Xg.out.size)
  replace HT := Lib.hid (HT.out.trans (b21.mono HT.out.size))
  clear b21
  obtain ⟨gad0, gcd0, hud0⟩ := od0.shape
  subst hud0
  have Yd0 := Lib.hid od0.rdt
  clear od0
  go_wp2_with fail
  refine (toInts _ y1 _ (R1.out.below HT.out (Nat.le_refl _))).mono ?_
  rintro e v22 ⟨ud1, rfl, od1, b22⟩
  have SZ22 := Lib.hid b22.size
  replace Xw := Lib.hid (Xw.out.below b22 Xw.out.size)
  replace Xx1 := Lib.hid (Xx1.out.below b22 Xx1.out.size)
  replace Xg := Lib.hid (Xg.out.below b22 Xg.out.size)
  replace Yd0 := Lib.hid (Yd0.out.below b22 (Nat.le_refl _))
  replace HT := Lib.hid (HT.out.trans (b22.mono HT.out.size))
  clear b22
  obtain ⟨gad1, gcd1, hud1⟩ := od1.shape
  subst hud1
  have Yd1 := Lib.hid od1.rd
  clear od1
  go_wp2_with fail
  refine (toListsT _ y2 _ (R2.out.below HT.out (Nat.le_refl _))).mono ?_
  rintro e v23 ⟨ud2, rfl, od2, b23⟩
  have SZ23 := Lib.hid b23.size
  replace Xw := Lib.hid (Xw.out.below b23 Xw.out.size)
  replace Xx1 := Lib.hid (Xx1.out.below b23 Xx1.out.size)
  replace Xg := Lib.hid (Xg.out.below b23 Xg.out.size)
  replace Yd0 := Lib.hid (Yd0.out.below b23 (Nat.le_refl _))
  replace Yd1 := Lib.hid (Yd1.out.below b23 (Nat.le_refl _))
  replace HT := Lib.hid (HT.out.trans (b23.mono HT.out.size))
  clear b23
  obtain ⟨gad2, gcd2, hud2⟩ := od2.shape
  subst hud2
  have Yd2 := Lib.hid od2.rdl
  clear od2
  go_wp2_with fail
  have HCALL := Lib.hid (implCheckD _ y0 _ y1 _ y2 _ Yd0.out Yd1.out Yd2.out)
  rw [← HRW.out] at HCALL
  refine HCALL.out.mono ?_
  rintro e v24 ⟨uh0, rfl, oh0, bh0⟩
  have SZ24 := Lib.hid bh0.size
  replace Xw := Lib.hid (Xw.out.below bh0 Xw.out.size)
  replace Xx1 := Lib.hid (Xx1.out.below bh0 Xx1.out.size)
  replace Xg := Lib.hid (Xg.out.below bh0 Xg.out.size)
  replace Yd0 := Lib.hid (Yd0.out.below bh0 (Nat.le_refl _))
  replace Yd1 := Lib.hid (Yd1.out.below bh0 (Nat.le_refl _))
  replace Yd2 := Lib.hid (Yd2.out.below bh0 (Nat.le_refl _))
  replace HT := Lib.hid (HT.out.trans (bh0.mono HT.out.size))
  clear bh0 HCALL
  obtain ⟨nah, nch, huh⟩ := oh0.shape
  subst huh
  have Xh := Lib.hid oh0
  clear oh0
  have hn2 : ¬ ((1 : Int) + (RW.length : Int) < 0) := by omega
  go_wp2_with fail
  refine (eqInts _ _ RW _ Xh.out.rd Xw.out.rd).mono ?_
  rintro e v25 ⟨rfl, b9⟩
  replace Xg := Lib.hid (Xg.out.below b9 Xg.out.size)
  replace HT := Lib.hid (HT.out.trans (b9.mono HT.out.size))
  clear b9
  go_wp2_with fail
  refine (heldInts _ RW.length 1 _ Xg.out.rd (by omega) (by omega)).mono ?_
  rintro e vh ⟨rfl, rfl⟩
  go_wp2
  go_ret
  exact ⟨rfl, HT.out⟩

set_option maxRecDepth 100000 in
theorem lifted (os : Os) (started : os.Started) (H : Type) (enc : TypeId × Value → H) :
    ReturnsInHanded {} Try.checked os 7 .any (Rows.fnExactCheckDerivationSpec.pre6 enc Try.prog Try.f7 Rows.fnExactCheckDerivationRow.domain false) (Rows.fnExactCheckDerivationSpec.post enc Try.prog Try.f7 false true false false) := by
  refine returnsInHanded_of_change (C := Try.checked) own started (by kernel_rfl) Try.func7
    (ChangeSpec.witness6 (enc := enc) (C := Try.checked) false ⟨#[], #[.slice none 0 0, .slice none 0 0, .slice none 0 0], []⟩ 8 (by kernel_rfl) (by kernel_rfl) (by kernel_rfl) (by kernel_rfl)) ?_
  intro W base args ds gs before hval0 hW hcnd _
  have hval : ∀ (j : Nat) t v, Try.f7.params[j]? = some t → args[j]? = some v → Value.okWide Try.prog W .any base t v := hval0
  have hW' := hW
  obtain ⟨p, q, hA0, hV, rfl, hfz, hnd⟩ := hW
  have hA : DataW.TrodAll enc Try.prog W 0 (fun _ => true) true Try.f7.params.toList args.toList ds p := hA0
  rw [Try.params7] at hA hval
  obtain ⟨v0, vs0, d0, ds0, p0, q0, hargs, rfl, rfl, h0, r0⟩ := trodAll_cons hA
  obtain ⟨v1, vs1, d1, ds1, p1, q1, rfl, rfl, rfl, h1, r1⟩ := trodAll_cons r0
  obtain ⟨v2, vs2, d2, ds2, p2, q2, rfl, rfl, rfl, h2, r2⟩ := trodAll_cons r1
  obtain ⟨rfl, rfl, rfl⟩ := trodAll_nil r2
  obtain rfl : args = #[v0, v1, v2] := by cases args; simp_all
  obtain ⟨rfl, rfl⟩ := trodVars_none hV
  have k0 := h0
  have lt0 : ∀ x ∈ p0, x.block < W.heap.size := by obtain ⟨m, hm⟩ := k0; exact DataW.trod_lt m _ _ _ hm
  obtain ⟨a0_0, len0_0, cap0_0, rfl⟩ := okWide_slice Try.underlying29 (hval 0 29 v0 rfl rfl)
  obtain ⟨z0_0, w0_0⟩ : ∃ zs, IsTapes W a0_0 len0_0 cap0_0 zs := by
    obtain ⟨fuel, hf⟩ := h0
    obtain ⟨a', len', cap', z', e', w'⟩ := open_tapes hf
    simp [Value.cells] at e'
    obtain ⟨rfl, rfl, rfl⟩ := e'
    exact ⟨z', w'⟩
  have k1 := h1
  have lt1 : ∀ x ∈ p1, x.block < W.heap.size := by obtain ⟨m, hm⟩ := k1; exact DataW.trod_lt m _ _ _ hm
  obtain ⟨a1_0, len1_0, cap1_0, rfl⟩ := okWide_slice Try.underlying22 (hval 1 22 v1 rfl rfl)
  obtain ⟨z1_0, w1_0⟩ : ∃ zs, IsList W a1_0 len1_0 cap1_0 zs := by
    obtain ⟨fuel, hf⟩ := h1
    obtain ⟨a', len', cap', z', e', w'⟩ := open_list hf
    simp [Value.cells] at e'
    obtain ⟨rfl, rfl, rfl⟩ := e'
    exact ⟨z', w'⟩
  have k2 := h2
  have lt2 : ∀ x ∈ p2, x.block < W.heap.size := by obtain ⟨m, hm⟩ := k2; exact DataW.trod_lt m _ _ _ hm
  obtain ⟨a2_0, len2_0, cap2_0, rfl⟩ := okWide_slice Try.underlying46 (hval 2 46 v2 rfl rfl)
  obtain ⟨z2_0, w2_0⟩ : ∃ zs, IsLists W a2_0 len2_0 cap2_0 zs := by
    obtain ⟨fuel, hf⟩ := h2
    obtain ⟨a', len', cap', z', e', w'⟩ := open_lists hf
    simp [Value.cells] at e'
    obtain ⟨rfl, rfl, rfl⟩ := e'
    exact ⟨z', w'⟩
  clear hA0 hval0
  refine (walk a0_0 len0_0 cap0_0 z0_0 a1_0 len1_0 cap1_0 z1_0 a2_0 len2_0 cap2_0 z2_0 W w0_0 w1_0 w2_0).mono fun e W' ⟨he, bel⟩ => ?_
  subst he
  exact ⟨_, rfl, _, _, _, [], _, [], hW', trodAll_mk1 (shut_bool Try.underlying4 _), (trodAll_cons_mk (Below.trod laidOut (by kernel_rfl) (of_decide_eq_true (by kernel_rfl)) k0 bel lt0) (trodAll_cons_mk (Below.trod laidOut (by kernel_rfl) (of_decide_eq_true (by kernel_rfl)) k1 bel lt1) (trodAll_cons_mk (Below.trod laidOut (by kernel_rfl) (of_decide_eq_true (by kernel_rfl)) k2 bel lt2) trodAll_mk0))), rfl, bel.frame _, fun h => by cases h⟩

theorem over : Rows.fnExactCheckDerivationRow.holds Try.pinned (OpenSpec.ofChange Rows.fnExactCheckDerivationSpec) :=
  OpenClaim.holds_of_wide 7 Try.f7 rfl rfl rfl rfl rfl rfl rfl ⟨rfl, rfl, rfl, rfl, rfl⟩ rfl rfl rfl rfl rfl (by kernel_rfl) Try.func7 (by kernel_rfl)
    (of_decide_eq_true (by kernel_rfl)) (by unfold Func.isWrapper; first | (rw [if_pos (by decide +kernel)]; kernel_rfl) | (rw [if_neg (by decide +kernel)]; exact ⟨rfl, rfl⟩))
    (fun os started H enc _ => lifted os started H enc)

/-- The statement. -/
theorem proved : Rows.FnExactCheckDerivationSaid := over
#print axioms proved
end Go.Proofs.Ythombjcjhnekpaa.fnExactCheckDerivation
