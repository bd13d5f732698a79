/-   FnExactStoreText: for every list of instructions and every store the program's StoreText answers as its model, and leaves its arguments alone. The library's table is read as the program's text lays it (the card). -/
import Derived.Test.YtemooadcjdngdaaDoorRows
import Derived.Test.YtemooadcjdngdaaDoorCards
import Derived.Test.YtemooadcjdngdaaDoorTie
import Derived.WalkKit
import Derived.ProofKit
import Derived.OpenShut
import Derived.ShutString
import Derived.ChangeOld
import Derived.Below
import Derived.Lib.SmallJoins
import Derived.Deep.Strs
import Derived.OpenVars
import Derived.LaidMore
import Derived.Lay
import Derived.LaidOnce
import Derived.SevenTiedAt
import Derived.Stop.Joined
import Derived.Handy
import Derived.Lib.Hide
import Derived.Deep.RegionHeld3
import Derived.Test.YtemooadcjdngdaaDoorStv
import Derived.Test.YtemooadcjdngdaaDoorShT
namespace Go.Proofs.YtemooadcjdngdaaDoor.fnExactStoreText
open Go.ChangeShapes Go.WideShapes Go.ChangeAt Go.RowKit
set_option linter.unusedVariables false
set_option linter.unusedSimpArgs false

theorem own : ownKnob Tryd.prog.godebug = none := by kernel_rfl
theorem laidOut : laidOutB Tryd.prog = true := by kernel_rfl
open Ints

set_option maxHeartbeats 8000000 in
theorem walk (a0_0 : Option Addr) (len0_0 cap0_0 : Nat) (z0_0 : List Ins) (i1_0 : Int) (a1_0 : Option Addr) (len1_0 cap1_0 : Nat) (z1_0 : List Int) (w : World) (w0_0 : IsIns w a0_0 len0_0 cap0_0 z0_0) (j1_0 : (Lit.int .i64 i1_0).wf = true) (w1_0 : IsList w a1_0 len1_0 cap1_0 z1_0) (htab : TabV w) :
    Calls Tryd.prog 9 #[.slice a0_0 len0_0 cap0_0, .agg #[.int .i64 i1_0, .slice a1_0 len1_0 cap1_0]] w fun e w' => e = .returned (.bool true) ∧ Below w.heap.size w w' := by
  have HTab := Lib.hid htab
  clear htab
  have hz0_0 := w0_0.le
  obtain ⟨l0_0, hl0_0⟩ : ∃ l : Int, l = 1048576 - (len0_0 : Int) := ⟨_, rfl⟩
  have hz1_0 := w1_0.le
  obtain ⟨l1_0, hl1_0⟩ : ∃ l : Int, l = l0_0 - (len1_0 : Int) := ⟨_, rfl⟩
  by_cases hn0_0 : 0 ≤ l0_0
  rotate_left
  · have hm0_0 : l0_0 < 0 := by omega
    obtain ⟨W0, hW0⟩ : ∃ x, x = (w.alloc (Obj.cells #[.int .i64 i1_0, .slice a1_0 len1_0 cap1_0] 61)) := ⟨_, rfl⟩
    have HB0 : Hid (Below w.heap.size w W0) := Lib.hid (by rw [hW0]; exact ((Below.refl w.heap.size w).alloc (Nat.le_refl _) _))
    have K1 : Hid (Cels W0 (w.heap.size) 61 [.int .i64 i1_0, .slice a1_0 len1_0 cap1_0]) := Lib.hid (by rw [hW0]; have h := (Cels.new w 61 [.int .i64 i1_0, .slice a1_0 len1_0 cap1_0]); first | exact h | (simp only [World.size_alloc] at h; exact h))
    have AK1 : Hid (w.heap.size < W0.heap.size) := Lib.hid K1.out.lt
    have HW0 := Lib.hid hW0.symm
    clear hW0
    have HL0_0 := Lib.hid hl0_0
    clear hl0_0
    have HL1_0 := Lib.hid hl1_0
    clear hl1_0
    go_enter Tryd.func9, Tryd.ntmps9
    go_wp2_with fail
    rw [HW0.out]
    have HT : Hid (Below W0.heap.size W0 W0) := Lib.hid (Below.refl _ _)
    refine (szIns_bad0  _ _ _ _ (by have := HL0_0.out; have := HL1_0.out; omega) HL0_0.out hm0_0 hz0_0).mono ?_
    rintro e vz0 ⟨rfl, bz⟩
    replace HT := Lib.hid (HT.out.trans (bz.mono HT.out.size))
    clear bz
    go_wp2
    go_ret
    exact ⟨rfl, HB0.out.trans (HT.out.mono HB0.out.size)⟩
  have hm0_0 : ¬ l0_0 < 0 := by omega
  by_cases hn1_0 : 0 ≤ l1_0
  rotate_left
  · have hm1_0 : l1_0 < 0 := by omega
    obtain ⟨W0, hW0⟩ : ∃ x, x = (w.alloc (Obj.cells #[.int .i64 i1_0, .slice a1_0 len1_0 cap1_0] 61)) := ⟨_, rfl⟩
    have HB0 : Hid (Below w.heap.size w W0) := Lib.hid (by rw [hW0]; exact ((Below.refl w.heap.size w).alloc (Nat.le_refl _) _))
    have K1 : Hid (Cels W0 (w.heap.size) 61 [.int .i64 i1_0, .slice a1_0 len1_0 cap1_0]) := Lib.hid (by rw [hW0]; have h := (Cels.new w 61 [.int .i64 i1_0, .slice a1_0 len1_0 cap1_0]); first | exact h | (simp only [World.size_alloc] at h; exact h))
    have AK1 : Hid (w.heap.size < W0.heap.size) := Lib.hid K1.out.lt
    have HW0 := Lib.hid hW0.symm
    clear hW0
    have HL0_0 := Lib.hid hl0_0
    clear hl0_0
    have HL1_0 := Lib.hid hl1_0
    clear hl1_0
    go_enter Tryd.func9, Tryd.ntmps9
    go_wp2_with fail
    rw [HW0.out]
    have HT : Hid (Below W0.heap.size W0 W0) := Lib.hid (Below.refl _ _)
    refine (szIns  _ _ _ _ (by have := HL0_0.out; have := HL1_0.out; omega) HL0_0.out hn0_0 hz0_0).mono ?_
    rintro e vz0 ⟨rfl, bz⟩
    replace K1 := Lib.hid (K1.out.below bz K1.out.lt)
    replace HT := Lib.hid (HT.out.trans (bz.mono HT.out.size))
    clear bz
    have zzK1_0 := K1.out.cell 0 rfl
    have zzK1_1 := K1.out.cell 1 rfl
    go_wp2_with fail
    refine (szSto_bad0 i1_0 _ _ _ _ (by have := HL0_0.out; have := HL1_0.out; omega) HL1_0.out hm1_0 hz1_0).mono ?_
    rintro e vz1 ⟨rfl, bz⟩
    replace HT := Lib.hid (HT.out.trans (bz.mono HT.out.size))
    clear bz
    go_wp2
    go_ret
    exact ⟨rfl, HB0.out.trans (HT.out.mono HB0.out.size)⟩
  have hm1_0 : ¬ l1_0 < 0 := by omega
  obtain ⟨y0_0, hy0_0⟩ : ∃ y, y = z0_0.take len0_0 := ⟨_, rfl⟩
  have R0_0 : Hid (RdIns w (.slice a0_0 len0_0 cap0_0) y0_0) := Lib.hid (by rw [hy0_0]; exact rdIns_of_row w0_0 (by omega))
  clear hy0_0 w0_0
  obtain ⟨y1_0, hy1_0⟩ : ∃ y, y = z1_0.take len1_0 := ⟨_, rfl⟩
  have R1_0 : Hid (Rd w (.slice a1_0 len1_0 cap1_0) y1_0) := Lib.hid (by rw [hy1_0]; exact rd_of_row w1_0 (by omega))
  clear hy1_0 w1_0
  obtain ⟨W0, hW0⟩ : ∃ x, x = (w.alloc (Obj.cells #[.int .i64 i1_0, .slice a1_0 len1_0 cap1_0] 61)) := ⟨_, rfl⟩
  have HB0 : Hid (Below w.heap.size w W0) := Lib.hid (by rw [hW0]; exact ((Below.refl w.heap.size w).alloc (Nat.le_refl _) _))
  have K1 : Hid (Cels W0 (w.heap.size) 61 [.int .i64 i1_0, .slice a1_0 len1_0 cap1_0]) := Lib.hid (by rw [hW0]; have h := (Cels.new w 61 [.int .i64 i1_0, .slice a1_0 len1_0 cap1_0]); first | exact h | (simp only [World.size_alloc] at h; exact h))
  have AK1 : Hid (w.heap.size < W0.heap.size) := Lib.hid K1.out.lt
  have HW0 := Lib.hid hW0.symm
  clear hW0
  have HL0_0 := Lib.hid hl0_0
  clear hl0_0
  have HL1_0 := Lib.hid hl1_0
  clear hl1_0
  replace R0_0 := Lib.hid (R0_0.out.below HB0.out (Nat.le_refl _))
  replace R1_0 := Lib.hid (R1_0.out.below HB0.out (Nat.le_refl _))
  go_enter Tryd.func9, Tryd.ntmps9
  go_wp2_with fail
  rw [HW0.out]
  have HT : Hid (Below W0.heap.size W0 W0) := Lib.hid (Below.refl _ _)
  refine (szIns  _ _ _ _ (by have := HL0_0.out; have := HL1_0.out; omega) HL0_0.out hn0_0 hz0_0).mono ?_
  rintro e vz0 ⟨rfl, bz⟩
  replace K1 := Lib.hid (K1.out.below bz K1.out.lt)
  replace HT := Lib.hid (HT.out.trans (bz.mono HT.out.size))
  clear bz
  have zzK1_0 := K1.out.cell 0 rfl
  have zzK1_1 := K1.out.cell 1 rfl
  go_wp2_with fail
  refine (szSto i1_0 _ _ _ _ (by have := HL0_0.out; have := HL1_0.out; omega) HL1_0.out hn1_0 hz1_0).mono ?_
  rintro e vz1 ⟨rfl, bz⟩
  replace K1 := Lib.hid (K1.out.below bz K1.out.lt)
  replace HT := Lib.hid (HT.out.trans (bz.mono HT.out.size))
  clear bz
  clear HL0_0 hn0_0 hz0_0 HL1_0 hn1_0 hz1_0
  clear zzK1_0 zzK1_1
  go_wp2_with fail
  have HS1 : Hid (∀ W', Below vz1.heap.size vz1 W' → W'.cell? ⟨w.heap.size, 0, none⟩ = some (.int .i64 i1_0) ∧ W'.cell? ⟨w.heap.size, 1, none⟩ = some (.slice a1_0 len1_0 cap1_0)) := Lib.hid (fun W' hW' => ⟨(K1.out.below hW' K1.out.lt).cell 0 rfl, (K1.out.below hW' K1.out.lt).cell 1 rfl⟩)
  have bd : Below vz1.heap.size vz1 vz1.drew := (Below.refl _ _).drew
  have HD := Lib.hid bd
  replace K1 := Lib.hid (K1.out.below bd K1.out.lt)
  replace HT := Lib.hid (HT.out.trans (bd.mono HT.out.size))
  clear bd
  obtain ⟨txt, htxt⟩ : ∃ x, x = bs (shV y0_0 i1_0 y1_0) := ⟨_, rfl⟩
  have HTxt := Lib.hid htxt
  clear htxt
  go_region_held3 (fun w' => w'.cell? ⟨w.heap.size, 0, none⟩ = some (.int .i64 i1_0) ∧ w'.cell? ⟨w.heap.size, 1, none⟩ = some (.slice a1_0 len1_0 cap1_0)) (exact HS1.out _ HD.out) (first | (go_at_call 37; with_reducible refine (toIns  _ y0_0 _ (R0_0.out.below HT.out (Nat.le_refl _))).mono ?_; rintro e w1 ⟨us0_0, rfl, os0_0, bq⟩; replace HD := Lib.hid (HD.out.trans (bq.mono HD.out.size)); have Ls0_0 := Lib.hid HT.out.size; replace K1 := Lib.hid (K1.out.below bq K1.out.lt); replace HT := Lib.hid (HT.out.trans (bq.mono HT.out.size)); have Xs0_0 := Lib.hid os0_0; obtain ⟨gas0_0, gcs0_0, hus0_0⟩ := os0_0.shape; subst hus0_0; clear os0_0; clear bq) | (go_at_call 38; with_reducible refine (toSto i1_0 _ y1_0 _ (R1_0.out.below HT.out (Nat.le_refl _))).mono ?_; rintro e w1 ⟨us1_0, rfl, os1_0, bq⟩; replace HD := Lib.hid (HD.out.trans (bq.mono HD.out.size)); have Ss0_0_s1_0 := Lib.hid (sep_of Xs0_0.out.top os1_0.row.lt Xs0_0.out.size); have Ls1_0 := Lib.hid HT.out.size; replace Xs0_0 := Lib.hid (Xs0_0.out.below bq Xs0_0.out.size); replace K1 := Lib.hid (K1.out.below bq K1.out.lt); replace HT := Lib.hid (HT.out.trans (bq.mono HT.out.size)); have Xs1_0 := Lib.hid os1_0; obtain ⟨gas1_0, gcs1_0, hus1_0⟩ := os1_0.shape; subst hus1_0; clear os1_0; clear bq) | (go_at_call 36; with_reducible refine (specStText _ y0_0 i1_0 _ y1_0 txt _ Xs0_0.out.rd Xs1_0.out.rd HTxt.out).mono ?_; rintro e w1 ⟨rfl, bq⟩; replace HD := Lib.hid (HD.out.trans (bq.mono HD.out.size)); replace Xs0_0 := Lib.hid (Xs0_0.out.below bq Xs0_0.out.size); replace Xs1_0 := Lib.hid (Xs1_0.out.below bq Xs1_0.out.size); replace K1 := Lib.hid (K1.out.below bq K1.out.lt); replace HT := Lib.hid (HT.out.trans (bq.mono HT.out.size)); clear bq))
  clear Xs0_0
  clear Xs1_0
  go_wp2_with fail
  refine (toIns  _ y0_0 _ (R0_0.out.below HT.out (Nat.le_refl _))).mono ?_
  rintro e v2 ⟨ux0_0, rfl, ox0_0, b2⟩
  have Lx0_0 := Lib.hid HT.out.size
  replace K1 := Lib.hid (K1.out.below b2 K1.out.lt)
  replace HT := Lib.hid (HT.out.trans (b2.mono HT.out.size))
  have Xx0_0 := Lib.hid ox0_0
  obtain ⟨gax0_0, gcx0_0, hux0_0⟩ := ox0_0.shape
  subst hux0_0
  clear ox0_0
  clear b2
  have zzK1_0 := K1.out.cell 0 rfl
  have zzK1_1 := K1.out.cell 1 rfl
  go_wp2_with fail
  refine (toSto i1_0 _ y1_0 _ (R1_0.out.below HT.out (Nat.le_refl _))).mono ?_
  rintro e v3 ⟨ux1_0, rfl, ox1_0, b3⟩
  have Sx0_0_x1_0 := Lib.hid (sep_of Xx0_0.out.top ox1_0.row.lt Xx0_0.out.size)
  have Lx1_0 := Lib.hid HT.out.size
  replace Xx0_0 := Lib.hid (Xx0_0.out.below b3 Xx0_0.out.size)
  replace K1 := Lib.hid (K1.out.below b3 K1.out.lt)
  replace HT := Lib.hid (HT.out.trans (b3.mono HT.out.size))
  have Xx1_0 := Lib.hid ox1_0
  obtain ⟨gax1_0, gcx1_0, hux1_0⟩ := ox1_0.shape
  subst hux1_0
  clear ox1_0
  clear b3
  have q1 : Below v3.heap.size v3 (v3.alloc (Obj.cells #[.int .i64 i1_0, .slice gax1_0 y1_0.length gcx1_0] 67)) := (Below.refl _ _).alloc (Nat.le_refl _) _
  have Kx1 : Hid (Cels (v3.alloc (Obj.cells #[.int .i64 i1_0, .slice gax1_0 y1_0.length gcx1_0] 67)) v3.heap.size 67 [.int .i64 i1_0, .slice gax1_0 y1_0.length gcx1_0]) := Lib.hid (Cels.new _ _ _)
  replace Xx0_0 := Lib.hid (Xx0_0.out.below q1 Xx0_0.out.size)
  replace Xx1_0 := Lib.hid (Xx1_0.out.below q1 Xx1_0.out.size)
  replace K1 := Lib.hid (K1.out.below q1 K1.out.lt)
  replace HT := Lib.hid (HT.out.trans (q1.mono HT.out.size))
  clear q1
  clear zzK1_0 zzK1_1
  have zzKx1_0 := Kx1.out.cell 0 rfl
  have zzKx1_1 := Kx1.out.cell 1 rfl
  go_wp2_with fail
  refine (implStText _ y0_0 i1_0 _ y1_0 _ Xx0_0.out.rd Xx1_0.out.rd (HTab.out.below (HB0.out.trans (HT.out.mono HB0.out.size)) (Nat.le_refl _))).mono ?_
  rintro e v4 ⟨rfl, b4⟩
  rw [← HTxt.out]
  have etxt : (txt.toList == txt.toList) = true := by simp
  replace Xx0_0 := Lib.hid (Xx0_0.out.below b4 Xx0_0.out.size)
  replace Xx1_0 := Lib.hid (Xx1_0.out.below b4 Xx1_0.out.size)
  replace K1 := Lib.hid (K1.out.below b4 K1.out.lt)
  replace Kx1 := Lib.hid (Kx1.out.below b4 Kx1.out.lt)
  replace HT := Lib.hid (HT.out.trans (b4.mono HT.out.size))
  clear b4
  clear zzKx1_0 zzKx1_1
  go_wp2_with fail
  refine (toIns  _ y0_0 _ (R0_0.out.below HT.out (Nat.le_refl _))).mono ?_
  rintro e v5 ⟨uc0_0, rfl, oc0_0, b5⟩
  have Sx0_0_c0_0 := Lib.hid (sep_of Xx0_0.out.top oc0_0.row.lt Xx0_0.out.size)
  have Sx1_0_c0_0 := Lib.hid (sep_of Xx1_0.out.top oc0_0.row.lt Xx1_0.out.size)
  have Lc0_0 := Lib.hid HT.out.size
  replace Xx0_0 := Lib.hid (Xx0_0.out.below b5 Xx0_0.out.size)
  replace Xx1_0 := Lib.hid (Xx1_0.out.below b5 Xx1_0.out.size)
  replace K1 := Lib.hid (K1.out.below b5 K1.out.lt)
  replace Kx1 := Lib.hid (Kx1.out.below b5 Kx1.out.lt)
  replace HT := Lib.hid (HT.out.trans (b5.mono HT.out.size))
  have Xc0_0 := Lib.hid oc0_0
  obtain ⟨gac0_0, gcc0_0, huc0_0⟩ := oc0_0.shape
  subst huc0_0
  clear oc0_0
  clear b5
  go_wp2_with fail
  refine (eqIns  _ _ _ _ Xx0_0.out.rd Xc0_0.out.rd).mono ?_
  rintro e v6 ⟨rfl, b6⟩
  replace Xx0_0 := Lib.hid (Xx0_0.out.below b6 Xx0_0.out.size)
  replace Xx1_0 := Lib.hid (Xx1_0.out.below b6 Xx1_0.out.size)
  replace Xc0_0 := Lib.hid (Xc0_0.out.below b6 Xc0_0.out.size)
  replace K1 := Lib.hid (K1.out.below b6 K1.out.lt)
  replace Kx1 := Lib.hid (Kx1.out.below b6 Kx1.out.lt)
  replace HT := Lib.hid (HT.out.trans (b6.mono HT.out.size))
  clear b6
  clear Xc0_0
  go_wp2_with fail
  have HS7 : Hid (∀ W', Below v6.heap.size v6 W' → W'.cell? ⟨v3.heap.size, 0, none⟩ = some (.int .i64 i1_0) ∧ W'.cell? ⟨v3.heap.size, 1, none⟩ = some (.slice gax1_0 y1_0.length gcx1_0) ∧ W'.cell? ⟨w.heap.size, 0, none⟩ = some (.int .i64 i1_0) ∧ W'.cell? ⟨w.heap.size, 1, none⟩ = some (.slice a1_0 len1_0 cap1_0)) := Lib.hid (fun W' hW' => ⟨(Kx1.out.below hW' Kx1.out.lt).cell 0 rfl, (Kx1.out.below hW' Kx1.out.lt).cell 1 rfl, (K1.out.below hW' K1.out.lt).cell 0 rfl, (K1.out.below hW' K1.out.lt).cell 1 rfl⟩)
  have bd : Below v6.heap.size v6 v6.drew := (Below.refl _ _).drew
  have HD := Lib.hid bd
  replace Xx0_0 := Lib.hid (Xx0_0.out.below bd Xx0_0.out.size)
  replace Xx1_0 := Lib.hid (Xx1_0.out.below bd Xx1_0.out.size)
  replace K1 := Lib.hid (K1.out.below bd K1.out.lt)
  replace Kx1 := Lib.hid (Kx1.out.below bd Kx1.out.lt)
  replace HT := Lib.hid (HT.out.trans (bd.mono HT.out.size))
  clear bd
  go_region_held3 (fun w' => w'.cell? ⟨v3.heap.size, 0, none⟩ = some (.int .i64 i1_0) ∧ w'.cell? ⟨v3.heap.size, 1, none⟩ = some (.slice gax1_0 y1_0.length gcx1_0) ∧ w'.cell? ⟨w.heap.size, 0, none⟩ = some (.int .i64 i1_0) ∧ w'.cell? ⟨w.heap.size, 1, none⟩ = some (.slice a1_0 len1_0 cap1_0)) (exact HS7.out _ HD.out) (first | (go_at_call 38; with_reducible refine (toSto i1_0 _ y1_0 _ (R1_0.out.below HT.out (Nat.le_refl _))).mono ?_; rintro e w7 ⟨uc1_0, rfl, oc1_0, bq⟩; replace HD := Lib.hid (HD.out.trans (bq.mono HD.out.size)); have Sx0_0_c1_0 := Lib.hid (sep_of Xx0_0.out.top oc1_0.row.lt Xx0_0.out.size); have Sx1_0_c1_0 := Lib.hid (sep_of Xx1_0.out.top oc1_0.row.lt Xx1_0.out.size); have Lc1_0 := Lib.hid HT.out.size; replace Xx0_0 := Lib.hid (Xx0_0.out.below bq Xx0_0.out.size); replace Xx1_0 := Lib.hid (Xx1_0.out.below bq Xx1_0.out.size); replace K1 := Lib.hid (K1.out.below bq K1.out.lt); replace Kx1 := Lib.hid (Kx1.out.below bq Kx1.out.lt); replace HT := Lib.hid (HT.out.trans (bq.mono HT.out.size)); have Xc1_0 := Lib.hid oc1_0; obtain ⟨gac1_0, gcc1_0, huc1_0⟩ := oc1_0.shape; subst huc1_0; clear oc1_0; clear bq) | (go_at_call 41; with_reducible refine (eqSto _ _ _ _ _ Xx1_0.out.rd Xc1_0.out.rd).mono ?_; rintro e w7 ⟨rfl, bq⟩; replace HD := Lib.hid (HD.out.trans (bq.mono HD.out.size)); replace Xx0_0 := Lib.hid (Xx0_0.out.below bq Xx0_0.out.size); replace Xx1_0 := Lib.hid (Xx1_0.out.below bq Xx1_0.out.size); replace Xc1_0 := Lib.hid (Xc1_0.out.below bq Xc1_0.out.size); replace K1 := Lib.hid (K1.out.below bq K1.out.lt); replace Kx1 := Lib.hid (Kx1.out.below bq Kx1.out.lt); replace HT := Lib.hid (HT.out.trans (bq.mono HT.out.size)); clear bq))
  clear Xc1_0
  go_wp2
  go_ret
  exact ⟨rfl, HB0.out.trans (HT.out.mono HB0.out.size)⟩

set_option maxRecDepth 100000 in
theorem lifted (os : Os) (started : os.Started) (H : Type) (enc : TypeId × Value → H) :
    ReturnsInHanded {} Tryd.checked os 9 .any (fun w args => (Rows.fnExactStoreTextSpec.pre enc Tryd.prog Tryd.f9 [] false w args ∧ laidMetH Tryd.prog Rows.fnExactStoreTextRow.laid w) ∧ sizedMet enc Tryd.prog Tryd.f9 (OpenSpec.ofChange Rows.fnExactStoreTextSpec) false w args) (Rows.fnExactStoreTextSpec.post enc Tryd.prog Tryd.f9 false true false false) := by
  refine returnsInHanded_of_change_and (C := Tryd.checked) (X := fun w _ => laidMetH Tryd.prog Rows.fnExactStoreTextRow.laid w) (fun _ _ _ hh h => h.of_heap hh) own started (by kernel_rfl) Tryd.func9
    (ChangeSpec.witness_shaped (enc := enc) (C := Tryd.checked) (os := os) (X := fun w _ => laidMetH Tryd.prog Rows.fnExactStoreTextRow.laid w) false (World.laidAll Tryd.prog os Rows.fnExactStoreTextRow.laid) #[.slice none 0 0, .agg #[.int .i64 0, .slice none 0 0]] 8 (World.laidAll_os _ _ _) (World.shaped_of_ZipB (by kernel_rfl) (by kernel_rfl)) (by kernel_rfl) (by kernel_rfl) (by kernel_rfl)
      (by rw [MakeChecks.laidMetH_plain _ _ _ (by kernel_rfl)]; exact laidMet_laidAll _ (by kernel_rfl) (by kernel_rfl))) ?_
  intro W base args ds gs before hval0 hW _ _ hL _
  have hval : ∀ (j : Nat) t v, Tryd.f9.params[j]? = some t → args[j]? = some v → Value.okWide Tryd.prog W .any base t v := hval0
  have hW' := hW
  obtain ⟨p, q, hA0, hV, rfl, hfz, hnd⟩ := hW
  have hA : DataW.TrodAll enc Tryd.prog W 0 (fun _ => true) true Tryd.f9.params.toList args.toList ds p := hA0
  rw [Tryd.params9] at hA hval
  obtain ⟨v0, vs0, d0, ds0, p0, q0, hargs, rfl, rfl, h0, r0⟩ := trodAll_cons hA
  obtain ⟨v1, vs1, d1, ds1, p1, q1, rfl, rfl, rfl, h1, r1⟩ := trodAll_cons r0
  obtain ⟨rfl, rfl, rfl⟩ := trodAll_nil r1
  obtain rfl : args = #[v0, v1] := by cases args; simp_all
  obtain ⟨rfl, rfl⟩ := trodVars_none hV
  have k0 := h0
  have lt0 : ∀ x ∈ p0, x.block < W.heap.size := by obtain ⟨m, hm⟩ := k0; exact DataW.trod_lt m _ _ _ hm
  obtain ⟨a0_0, len0_0, cap0_0, rfl⟩ := okWide_slice Tryd.underlying59 (hval 0 59 v0 rfl rfl)
  obtain ⟨z0_0, w0_0⟩ : ∃ zs, IsIns W a0_0 len0_0 cap0_0 zs := by
    obtain ⟨fuel, hf⟩ := h0
    obtain ⟨a', len', cap', z', e', w'⟩ := open_Ins hf
    simp [Value.cells] at e'
    obtain ⟨rfl, rfl, rfl⟩ := e'
    exact ⟨z', w'⟩
  have k1 := h1
  have lt1 : ∀ x ∈ p1, x.block < W.heap.size := by obtain ⟨m, hm⟩ := k1; exact DataW.trod_lt m _ _ _ hm
  obtain ⟨c1_0, c1_1, y1_0, y1_1, n1, rfl, _, _, t1_0, t1_1⟩ := Go.Joins.open_agg2 Tryd.underlying61 (by kernel_rfl) (by kernel_rfl) (hval 1 61 v1 rfl rfl) h1
  obtain ⟨i1_0, e1_0, _, j1_0⟩ := DataW.trod_int Tryd.underlying2 t1_0
  simp only [List.cons.injEq, and_true] at e1_0
  subst e1_0
  obtain ⟨a1_0, len1_0, cap1_0, z1_0, e1_0, w1_0⟩ := open_list t1_1
  simp only [List.cons.injEq, and_true] at e1_0
  subst e1_0
  clear hA0 hval0
  refine (walk a0_0 len0_0 cap0_0 z0_0 i1_0 a1_0 len1_0 cap1_0 z1_0 W w0_0 j1_0 w1_0 (tabV_of_laid hL)).mono fun e W' ⟨he, bel⟩ => ?_
  subst he
  exact ⟨_, rfl, _, _, _, [], _, [], hW', trodAll_mk1 (shut_bool Tryd.underlying4 _), (trodAll_cons_mk (Below.trod laidOut (by kernel_rfl) (of_decide_eq_true (by kernel_rfl)) k0 bel lt0) (trodAll_cons_mk (Below.trod laidOut (by kernel_rfl) (of_decide_eq_true (by kernel_rfl)) k1 bel lt1) trodAll_mk0)), rfl, bel.frame _, fun h => by cases h⟩

theorem over : Rows.fnExactStoreTextRow.holds Tryd.pinned (OpenSpec.ofChange Rows.fnExactStoreTextSpec) :=
  OpenClaim.holds_of_wide 9 Tryd.f9 rfl rfl rfl rfl rfl rfl rfl ⟨rfl, rfl, rfl, rfl, rfl⟩ rfl rfl rfl rfl rfl (by kernel_rfl) Tryd.func9 (by kernel_rfl)
    (of_decide_eq_true (by kernel_rfl)) (by unfold Func.isWrapper; first | (rw [if_pos (by decide +kernel)]; kernel_rfl) | (rw [if_neg (by decide +kernel)]; exact ⟨rfl, rfl⟩))
    (fun os started H enc _ => lifted os started H enc)

/-- The statement: the tied card. -/
theorem proved : Rows.FnExactStoreTextCardSaid :=
  Claim7.holds_tied_plain_at .later [] [.data, .data, .data] true (true, "ce0d595b73c14568bdcff69ee1949f5e62a87137df2cfd3eac7b780da09f3d22") false over (fun _ h => by cases h) (by kernel_rfl) (fun _ h => by cases h) fnExactStoreText_row_tie rfl ⟨rfl, rfl⟩ (by kernel_rfl) rfl
    (fun f fn hf hfn => by
      obtain rfl : f = 9 := Option.some.inj ((show Tryd.prog.funcNamed "loop.example/g01079/laws.FnExactStoreText" = some 9 by kernel_rfl).symm.trans hf) |>.symm
      obtain rfl : fn = Tryd.f9 := (Option.some.inj (Tryd.func9.symm.trans hfn)).symm
      exact ⟨by kernel_rfl, fun j t ht => by
        rw [Tryd.params9] at ht
        have hm : t ∈ [59, 61] := by simpa using Array.mem_of_getElem? ht
        have hall : ([59, 61].all fun u => !Tryd.prog.wantsStandIn u) = true := by kernel_rfl
        exact (show Tryd.prog.wantsStandIn t = false by simpa using List.all_eq_true.1 hall t hm)⟩)
    (by kernel_rfl)
#print axioms proved
end Go.Proofs.YtemooadcjdngdaaDoor.fnExactStoreText
