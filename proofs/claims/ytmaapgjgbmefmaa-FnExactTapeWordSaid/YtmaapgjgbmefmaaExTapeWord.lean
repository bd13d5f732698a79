/-   FnExactTapeWord: for every tape the program's TapeWord answers as its model, word and code, leaves its argument alone, and its answer is its own. No condition. -/
import Derived.Test.YtmaapgjgbmefmaaRows
import Derived.WalkKit
import Derived.ProofKit
import Derived.OpenShut
import Derived.ShutString
import Derived.ChangeOld
import Derived.Below
import Derived.Lib.SmallJoins
import Derived.Deep.Strs
import Derived.OpenVars
import Derived.Handy
import Derived.Lib.Hide
import Derived.Deep.RegionHeld3
import Derived.Test.YtmaapgjgbmefmaaTapX
namespace Go.Proofs.Ytmaapgjgbmefmaa.fnExactTapeWord
open Go.ChangeShapes Go.WideShapes Go.ChangeAt Go.RowKit
set_option linter.unusedVariables false
set_option linter.unusedSimpArgs false

theorem own : ownKnob Try.prog.godebug = none := by kernel_rfl
theorem laidOut : laidOutB Try.prog = true := by kernel_rfl
open Ints

set_option maxHeartbeats 8000000 in
theorem walk (a0_0 : Option Addr) (len0_0 cap0_0 : Nat) (z0_0 : List Int) (a0_1 : Option Addr) (len0_1 cap0_1 : Nat) (z0_1 : List Int) (w : World) (w0_0 : IsList w a0_0 len0_0 cap0_0 z0_0) (w0_1 : IsList w a0_1 len0_1 cap0_1 z0_1) :
    Calls Try.prog 6 #[.agg #[.slice a0_0 len0_0 cap0_0, .slice a0_1 len0_1 cap0_1]] w fun e w' => e = .returned (.bool true) ∧ Below w.heap.size w w' := by
  have hz0_0 := w0_0.le
  obtain ⟨l0_0, hl0_0⟩ : ∃ l : Int, l = 1048576 - (len0_0 : Int) := ⟨_, rfl⟩
  have hz0_1 := w0_1.le
  obtain ⟨l0_1, hl0_1⟩ : ∃ l : Int, l = l0_0 - (len0_1 : Int) := ⟨_, rfl⟩
  by_cases hn0_0 : 0 ≤ l0_0
  rotate_left
  · have hm0_0 : l0_0 < 0 := by omega
    obtain ⟨W0, hW0⟩ : ∃ x, x = (w.alloc (Obj.cells #[.slice a0_0 len0_0 cap0_0, .slice a0_1 len0_1 cap0_1] 47)) := ⟨_, rfl⟩
    have HB0 : Hid (Below w.heap.size w W0) := Lib.hid (by rw [hW0]; exact ((Below.refl w.heap.size w).alloc (Nat.le_refl _) _))
    have K0 : Hid (Cels W0 (w.heap.size) 47 [.slice a0_0 len0_0 cap0_0, .slice a0_1 len0_1 cap0_1]) := Lib.hid (by rw [hW0]; have h := (Cels.new w 47 [.slice a0_0 len0_0 cap0_0, .slice a0_1 len0_1 cap0_1]); first | exact h | (simp only [World.size_alloc] at h; exact h))
    have AK0 : Hid (w.heap.size < W0.heap.size) := Lib.hid K0.out.lt
    have HW0 := Lib.hid hW0.symm
    clear hW0
    have HL0_0 := Lib.hid hl0_0
    clear hl0_0
    have HL0_1 := Lib.hid hl0_1
    clear hl0_1
    go_enter Try.func6, Try.ntmps6
    go_wp2_with fail
    rw [HW0.out]
    have HT : Hid (Below W0.heap.size W0 W0) := Lib.hid (Below.refl _ _)
    refine (szTape_bad0  _ _ _ _ _ _ _ (by have := HL0_0.out; have := HL0_1.out; omega) HL0_0.out hm0_0 hz0_0).mono ?_
    rintro e vz0 ⟨rfl, bz⟩
    replace HT := Lib.hid (HT.out.trans (bz.mono HT.out.size))
    clear bz
    go_wp2
    go_ret
    exact ⟨rfl, HB0.out.trans (HT.out.mono HB0.out.size)⟩
  have hm0_0 : ¬ l0_0 < 0 := by omega
  by_cases hn0_1 : 0 ≤ l0_1
  rotate_left
  · have hm0_1 : l0_1 < 0 := by omega
    obtain ⟨W0, hW0⟩ : ∃ x, x = (w.alloc (Obj.cells #[.slice a0_0 len0_0 cap0_0, .slice a0_1 len0_1 cap0_1] 47)) := ⟨_, rfl⟩
    have HB0 : Hid (Below w.heap.size w W0) := Lib.hid (by rw [hW0]; exact ((Below.refl w.heap.size w).alloc (Nat.le_refl _) _))
    have K0 : Hid (Cels W0 (w.heap.size) 47 [.slice a0_0 len0_0 cap0_0, .slice a0_1 len0_1 cap0_1]) := Lib.hid (by rw [hW0]; have h := (Cels.new w 47 [.slice a0_0 len0_0 cap0_0, .slice a0_1 len0_1 cap0_1]); first | exact h | (simp only [World.size_alloc] at h; exact h))
    have AK0 : Hid (w.heap.size < W0.heap.size) := Lib.hid K0.out.lt
    have HW0 := Lib.hid hW0.symm
    clear hW0
    have HL0_0 := Lib.hid hl0_0
    clear hl0_0
    have HL0_1 := Lib.hid hl0_1
    clear hl0_1
    go_enter Try.func6, Try.ntmps6
    go_wp2_with fail
    rw [HW0.out]
    have HT : Hid (Below W0.heap.size W0 W0) := Lib.hid (Below.refl _ _)
    refine (szTape_bad1  _ _ _ _ _ _ _ (by have := HL0_0.out; have := HL0_1.out; omega) HL0_0.out hn0_0 hz0_0 HL0_1.out hm0_1 hz0_1).mono ?_
    rintro e vz0 ⟨rfl, bz⟩
    replace HT := Lib.hid (HT.out.trans (bz.mono HT.out.size))
    clear bz
    go_wp2
    go_ret
    exact ⟨rfl, HB0.out.trans (HT.out.mono HB0.out.size)⟩
  have hm0_1 : ¬ l0_1 < 0 := by omega
  obtain ⟨y0_0, hy0_0⟩ : ∃ y, y = z0_0.take len0_0 := ⟨_, rfl⟩
  have R0_0 : Hid (Rd w (.slice a0_0 len0_0 cap0_0) y0_0) := Lib.hid (by rw [hy0_0]; exact rd_of_row w0_0 (by omega))
  clear hy0_0 w0_0
  obtain ⟨y0_1, hy0_1⟩ : ∃ y, y = z0_1.take len0_1 := ⟨_, rfl⟩
  have R0_1 : Hid (Rd w (.slice a0_1 len0_1 cap0_1) y0_1) := Lib.hid (by rw [hy0_1]; exact rd_of_row w0_1 (by omega))
  clear hy0_1 w0_1
  obtain ⟨W0, hW0⟩ : ∃ x, x = (w.alloc (Obj.cells #[.slice a0_0 len0_0 cap0_0, .slice a0_1 len0_1 cap0_1] 47)) := ⟨_, rfl⟩
  have HB0 : Hid (Below w.heap.size w W0) := Lib.hid (by rw [hW0]; exact ((Below.refl w.heap.size w).alloc (Nat.le_refl _) _))
  have K0 : Hid (Cels W0 (w.heap.size) 47 [.slice a0_0 len0_0 cap0_0, .slice a0_1 len0_1 cap0_1]) := Lib.hid (by rw [hW0]; have h := (Cels.new w 47 [.slice a0_0 len0_0 cap0_0, .slice a0_1 len0_1 cap0_1]); first | exact h | (simp only [World.size_alloc] at h; exact h))
  have AK0 : Hid (w.heap.size < W0.heap.size) := Lib.hid K0.out.lt
  have HW0 := Lib.hid hW0.symm
  clear hW0
  have HL0_0 := Lib.hid hl0_0
  clear hl0_0
  have HL0_1 := Lib.hid hl0_1
  clear hl0_1
  replace R0_0 := Lib.hid (R0_0.out.below HB0.out (Nat.le_refl _))
  replace R0_1 := Lib.hid (R0_1.out.below HB0.out (Nat.le_refl _))
  go_enter Try.func6, Try.ntmps6
  go_wp2_with fail
  rw [HW0.out]
  have HT : Hid (Below W0.heap.size W0 W0) := Lib.hid (Below.refl _ _)
  refine (szTape  _ _ _ _ _ _ _ (by have := HL0_0.out; have := HL0_1.out; omega) HL0_0.out hn0_0 hz0_0 HL0_1.out hn0_1 hz0_1).mono ?_
  rintro e vz0 ⟨rfl, bz⟩
  replace K0 := Lib.hid (K0.out.below bz K0.out.lt)
  replace HT := Lib.hid (HT.out.trans (bz.mono HT.out.size))
  clear bz
  clear HL0_0 hn0_0 hz0_0 HL0_1 hn0_1 hz0_1
  have zzK0_0 := K0.out.cell 0 rfl
  have zzK0_1 := K0.out.cell 1 rfl
  go_wp2_with fail
  refine (toTape  _ y0_0 _ y0_1 _ (R0_0.out.below HT.out (Nat.le_refl _)) (R0_1.out.below HT.out (Nat.le_refl _))).mono ?_
  rintro e v1 ⟨us0_0, us0_1, rfl, os0_0, os0_1, ss0_0_s0_1, b1⟩
  have Ls0_0 := Lib.hid HT.out.size
  have Ls0_1 := Lib.hid HT.out.size
  replace K0 := Lib.hid (K0.out.below b1 K0.out.lt)
  replace HT := Lib.hid (HT.out.trans (b1.mono HT.out.size))
  have Ss0_0_s0_1 := Lib.hid ss0_0_s0_1
  clear ss0_0_s0_1
  have Xs0_0 := Lib.hid os0_0
  obtain ⟨gas0_0, gcs0_0, hus0_0⟩ := os0_0.shape
  subst hus0_0
  clear os0_0
  have Xs0_1 := Lib.hid os0_1
  obtain ⟨gas0_1, gcs0_1, hus0_1⟩ := os0_1.shape
  subst hus0_1
  clear os0_1
  clear b1
  clear zzK0_0 zzK0_1
  go_wp2_with fail
  refine (specTapeWord _ y0_0 _ y0_1 _ Xs0_0.out.rd Xs0_1.out.rd).mono ?_
  rintro e v2 ⟨uw0_0, rfl, ow0_0, b2⟩
  have Ss0_0_w0_0 := Lib.hid (sep_of Xs0_0.out.top ow0_0.row.lt Xs0_0.out.size)
  have Ss0_1_w0_0 := Lib.hid (sep_of Xs0_1.out.top ow0_0.row.lt Xs0_1.out.size)
  have Lw0_0 := Lib.hid HT.out.size
  replace Xs0_0 := Lib.hid (Xs0_0.out.below b2 Xs0_0.out.size)
  replace Xs0_1 := Lib.hid (Xs0_1.out.below b2 Xs0_1.out.size)
  replace K0 := Lib.hid (K0.out.below b2 K0.out.lt)
  replace HT := Lib.hid (HT.out.trans (b2.mono HT.out.size))
  have Xw0_0 := Lib.hid ow0_0
  obtain ⟨gaw0_0, gcw0_0, huw0_0⟩ := ow0_0.shape
  subst huw0_0
  clear ow0_0
  clear b2
  clear Xs0_0
  clear Xs0_1
  have zzK0_0 := K0.out.cell 0 rfl
  have zzK0_1 := K0.out.cell 1 rfl
  go_wp2_with fail
  refine (toTape  _ y0_0 _ y0_1 _ (R0_0.out.below HT.out (Nat.le_refl _)) (R0_1.out.below HT.out (Nat.le_refl _))).mono ?_
  rintro e v3 ⟨ux0_0, ux0_1, rfl, ox0_0, ox0_1, sx0_0_x0_1, b3⟩
  have Sw0_0_x0_0 := Lib.hid (sep_of Xw0_0.out.top ox0_0.row.lt Xw0_0.out.size)
  have Lx0_0 := Lib.hid HT.out.size
  have Sw0_0_x0_1 := Lib.hid (sep_of Xw0_0.out.top ox0_1.row.lt Xw0_0.out.size)
  have Lx0_1 := Lib.hid HT.out.size
  replace Xw0_0 := Lib.hid (Xw0_0.out.below b3 Xw0_0.out.size)
  replace K0 := Lib.hid (K0.out.below b3 K0.out.lt)
  replace HT := Lib.hid (HT.out.trans (b3.mono HT.out.size))
  have Sx0_0_x0_1 := Lib.hid sx0_0_x0_1
  clear sx0_0_x0_1
  have Xx0_0 := Lib.hid ox0_0
  obtain ⟨gax0_0, gcx0_0, hux0_0⟩ := ox0_0.shape
  subst hux0_0
  clear ox0_0
  have Xx0_1 := Lib.hid ox0_1
  obtain ⟨gax0_1, gcx0_1, hux0_1⟩ := ox0_1.shape
  subst hux0_1
  clear ox0_1
  clear b3
  have q1 : Below v3.heap.size v3 (v3.alloc (Obj.cells #[.slice gax0_0 y0_0.length gcx0_0, .slice gax0_1 y0_1.length gcx0_1] 51)) := (Below.refl _ _).alloc (Nat.le_refl _) _
  have Kx0 : Hid (Cels (v3.alloc (Obj.cells #[.slice gax0_0 y0_0.length gcx0_0, .slice gax0_1 y0_1.length gcx0_1] 51)) v3.heap.size 51 [.slice gax0_0 y0_0.length gcx0_0, .slice gax0_1 y0_1.length gcx0_1]) := Lib.hid (Cels.new _ _ _)
  have NKx0_w0_0 := Lib.hid (fun q (hq : _ = some q) => Nat.lt_of_lt_of_le (Xw0_0.out.top q hq) Xw0_0.out.size)
  have NKx0_x0_0 := Lib.hid (fun q (hq : _ = some q) => Nat.lt_of_lt_of_le (Xx0_0.out.top q hq) Xx0_0.out.size)
  have NKx0_x0_1 := Lib.hid (fun q (hq : _ = some q) => Nat.lt_of_lt_of_le (Xx0_1.out.top q hq) Xx0_1.out.size)
  replace Xw0_0 := Lib.hid (Xw0_0.out.below q1 Xw0_0.out.size)
  replace Xx0_0 := Lib.hid (Xx0_0.out.below q1 Xx0_0.out.size)
  replace Xx0_1 := Lib.hid (Xx0_1.out.below q1 Xx0_1.out.size)
  replace K0 := Lib.hid (K0.out.below q1 K0.out.lt)
  replace HT := Lib.hid (HT.out.trans (q1.mono HT.out.size))
  clear q1
  clear zzK0_0 zzK0_1
  have zzKx0_0 := Kx0.out.cell 0 rfl
  have zzKx0_1 := Kx0.out.cell 1 rfl
  go_wp2_with fail
  refine (implTapeWord _ y0_0 _ y0_1 _ Xx0_0.out.rd Xx0_1.out.rd).mono ?_
  rintro e v4 ⟨ug0_0, rfl, og0_0, b4⟩
  have Sw0_0_g0_0 := Lib.hid (sep_of Xw0_0.out.top og0_0.row.lt Xw0_0.out.size)
  have Sx0_0_g0_0 := Lib.hid (sep_of Xx0_0.out.top og0_0.row.lt Xx0_0.out.size)
  have Sx0_1_g0_0 := Lib.hid (sep_of Xx0_1.out.top og0_0.row.lt Xx0_1.out.size)
  have Lg0_0 := Lib.hid HT.out.size
  replace Xw0_0 := Lib.hid (Xw0_0.out.below b4 Xw0_0.out.size)
  replace Xx0_0 := Lib.hid (Xx0_0.out.below b4 Xx0_0.out.size)
  replace Xx0_1 := Lib.hid (Xx0_1.out.below b4 Xx0_1.out.size)
  replace K0 := Lib.hid (K0.out.below b4 K0.out.lt)
  replace Kx0 := Lib.hid (Kx0.out.below b4 Kx0.out.lt)
  replace HT := Lib.hid (HT.out.trans (b4.mono HT.out.size))
  have Xg0_0 := Lib.hid og0_0
  obtain ⟨gag0_0, gcg0_0, hug0_0⟩ := og0_0.shape
  subst hug0_0
  clear og0_0
  clear b4
  clear zzKx0_0 zzKx0_1
  go_wp2_with fail
  refine (eqInts  _ _ _ _ Xg0_0.out.rd Xw0_0.out.rd).mono ?_
  rintro e v5 ⟨rfl, b5⟩
  replace Xw0_0 := Lib.hid (Xw0_0.out.below b5 Xw0_0.out.size)
  replace Xx0_0 := Lib.hid (Xx0_0.out.below b5 Xx0_0.out.size)
  replace Xx0_1 := Lib.hid (Xx0_1.out.below b5 Xx0_1.out.size)
  replace Xg0_0 := Lib.hid (Xg0_0.out.below b5 Xg0_0.out.size)
  replace K0 := Lib.hid (K0.out.below b5 K0.out.lt)
  replace Kx0 := Lib.hid (Kx0.out.below b5 Kx0.out.lt)
  replace HT := Lib.hid (HT.out.trans (b5.mono HT.out.size))
  clear b5
  go_wp2_with fail
  have HS6 : Hid (∀ W', Below v5.heap.size v5 W' → W'.cell? ⟨v3.heap.size, 0, none⟩ = some (.slice gax0_0 y0_0.length gcx0_0) ∧ W'.cell? ⟨v3.heap.size, 1, none⟩ = some (.slice gax0_1 y0_1.length gcx0_1) ∧ W'.cell? ⟨w.heap.size, 0, none⟩ = some (.slice a0_0 len0_0 cap0_0) ∧ W'.cell? ⟨w.heap.size, 1, none⟩ = some (.slice a0_1 len0_1 cap0_1)) := Lib.hid (fun W' hW' => ⟨(Kx0.out.below hW' Kx0.out.lt).cell 0 rfl, (Kx0.out.below hW' Kx0.out.lt).cell 1 rfl, (K0.out.below hW' K0.out.lt).cell 0 rfl, (K0.out.below hW' K0.out.lt).cell 1 rfl⟩)
  have bd : Below v5.heap.size v5 v5.drew := (Below.refl _ _).drew
  have HD := Lib.hid bd
  replace Xw0_0 := Lib.hid (Xw0_0.out.below bd Xw0_0.out.size)
  replace Xx0_0 := Lib.hid (Xx0_0.out.below bd Xx0_0.out.size)
  replace Xx0_1 := Lib.hid (Xx0_1.out.below bd Xx0_1.out.size)
  replace Xg0_0 := Lib.hid (Xg0_0.out.below bd Xg0_0.out.size)
  replace K0 := Lib.hid (K0.out.below bd K0.out.lt)
  replace Kx0 := Lib.hid (Kx0.out.below bd Kx0.out.lt)
  replace HT := Lib.hid (HT.out.trans (bd.mono HT.out.size))
  clear bd
  go_region_held3 (fun w' => w'.cell? ⟨v3.heap.size, 0, none⟩ = some (.slice gax0_0 y0_0.length gcx0_0) ∧ w'.cell? ⟨v3.heap.size, 1, none⟩ = some (.slice gax0_1 y0_1.length gcx0_1) ∧ w'.cell? ⟨w.heap.size, 0, none⟩ = some (.slice a0_0 len0_0 cap0_0) ∧ w'.cell? ⟨w.heap.size, 1, none⟩ = some (.slice a0_1 len0_1 cap0_1)) (exact HS6.out _ HD.out) (first | (go_at_call 29; with_reducible refine (toTape  _ y0_0 _ y0_1 _ (R0_0.out.below HT.out (Nat.le_refl _)) (R0_1.out.below HT.out (Nat.le_refl _))).mono ?_; rintro e w6 ⟨uc0_0, uc0_1, rfl, oc0_0, oc0_1, sc0_0_c0_1, bq⟩; replace HD := Lib.hid (HD.out.trans (bq.mono HD.out.size)); have Sw0_0_c0_0 := Lib.hid (sep_of Xw0_0.out.top oc0_0.row.lt Xw0_0.out.size); have Sx0_0_c0_0 := Lib.hid (sep_of Xx0_0.out.top oc0_0.row.lt Xx0_0.out.size); have Sx0_1_c0_0 := Lib.hid (sep_of Xx0_1.out.top oc0_0.row.lt Xx0_1.out.size); have Sg0_0_c0_0 := Lib.hid (sep_of Xg0_0.out.top oc0_0.row.lt Xg0_0.out.size); have Lc0_0 := Lib.hid HT.out.size; have Sw0_0_c0_1 := Lib.hid (sep_of Xw0_0.out.top oc0_1.row.lt Xw0_0.out.size); have Sx0_0_c0_1 := Lib.hid (sep_of Xx0_0.out.top oc0_1.row.lt Xx0_0.out.size); have Sx0_1_c0_1 := Lib.hid (sep_of Xx0_1.out.top oc0_1.row.lt Xx0_1.out.size); have Sg0_0_c0_1 := Lib.hid (sep_of Xg0_0.out.top oc0_1.row.lt Xg0_0.out.size); have Lc0_1 := Lib.hid HT.out.size; replace Xw0_0 := Lib.hid (Xw0_0.out.below bq Xw0_0.out.size); replace Xx0_0 := Lib.hid (Xx0_0.out.below bq Xx0_0.out.size); replace Xx0_1 := Lib.hid (Xx0_1.out.below bq Xx0_1.out.size); replace Xg0_0 := Lib.hid (Xg0_0.out.below bq Xg0_0.out.size); replace K0 := Lib.hid (K0.out.below bq K0.out.lt); replace Kx0 := Lib.hid (Kx0.out.below bq Kx0.out.lt); replace HT := Lib.hid (HT.out.trans (bq.mono HT.out.size)); have Sc0_0_c0_1 := Lib.hid sc0_0_c0_1; clear sc0_0_c0_1; have Xc0_0 := Lib.hid oc0_0; obtain ⟨gac0_0, gcc0_0, huc0_0⟩ := oc0_0.shape; subst huc0_0; clear oc0_0; have Xc0_1 := Lib.hid oc0_1; obtain ⟨gac0_1, gcc0_1, huc0_1⟩ := oc0_1.shape; subst huc0_1; clear oc0_1; clear bq) | (go_at_call 32; with_reducible refine (eqTape  _ _ _ _ _ _ _ Xx0_0.out.rd Xc0_0.out.rd Xx0_1.out.rd Xc0_1.out.rd).mono ?_; rintro e w6 ⟨rfl, bq⟩; replace HD := Lib.hid (HD.out.trans (bq.mono HD.out.size)); replace Xw0_0 := Lib.hid (Xw0_0.out.below bq Xw0_0.out.size); replace Xx0_0 := Lib.hid (Xx0_0.out.below bq Xx0_0.out.size); replace Xx0_1 := Lib.hid (Xx0_1.out.below bq Xx0_1.out.size); replace Xg0_0 := Lib.hid (Xg0_0.out.below bq Xg0_0.out.size); replace Xc0_0 := Lib.hid (Xc0_0.out.below bq Xc0_0.out.size); replace Xc0_1 := Lib.hid (Xc0_1.out.below bq Xc0_1.out.size); replace K0 := Lib.hid (K0.out.below bq K0.out.lt); replace Kx0 := Lib.hid (Kx0.out.below bq Kx0.out.lt); replace HT := Lib.hid (HT.out.trans (bq.mono HT.out.size)); clear bq))
  clear Xc0_0
  clear Xc0_1
  have zzKx0_0 := Kx0.out.cell 0 rfl
  have zzKx0_1 := Kx0.out.cell 1 rfl
  go_wp2_with fail
  refine (markTape  _ _ _ _ (1) _ _ _ _ _ Xx0_0.out Xx0_1.out Sx0_0_x0_1.out (by have r0_0 := R0_0.out.len; have r0_1 := R0_1.out.len; omega) (by have r0_0 := R0_0.out.len; have r0_1 := R0_1.out.len; omega)).mono ?_
  rintro e v7 ⟨rfl, vm7, o7, ob7, g7, gb7⟩
  replace Xw0_0 := Lib.hid ((Xw0_0.out.grown g7 Sw0_0_x0_0.out.1).grown gb7 Sw0_0_x0_1.out.1)
  replace Xg0_0 := Lib.hid ((Xg0_0.out.grown g7 Sx0_0_g0_0.out.2).grown gb7 Sx0_1_g0_0.out.2)
  replace K0 := Lib.hid ((K0.out.grown g7 (fun e => by have := (Xx0_0.out.row.lt _ e).1; have := Lx0_0.out; have := AK0.out; omega)).grown gb7 (fun e => by have := (Xx0_1.out.row.lt _ e).1; have := Lx0_1.out; have := AK0.out; omega))
  replace Kx0 := Lib.hid ((Kx0.out.grown g7 (fun e => Nat.lt_irrefl _ (NKx0_x0_0.out _ e))).grown gb7 (fun e => Nat.lt_irrefl _ (NKx0_x0_1.out _ e)))
  replace HT := Lib.hid (HT.out.trans (((Xx0_0.out.gb g7).mono Lx0_0.out).trans (((Xx0_1.out.grown g7 Sx0_0_x0_1.out.2).gb gb7).mono Lx0_1.out)))
  replace Xx0_0 := Lib.hid o7
  replace Xx0_1 := Lib.hid ob7
  clear o7 g7 ob7 gb7
  clear zzKx0_0 zzKx0_1
  go_wp2_with fail
  refine (eqInts  _ _ _ _ Xg0_0.out.rd Xw0_0.out.rd).mono ?_
  rintro e v8 ⟨rfl, b8⟩
  replace Xw0_0 := Lib.hid (Xw0_0.out.below b8 Xw0_0.out.size)
  replace Xx0_0 := Lib.hid (Xx0_0.out.below b8 Xx0_0.out.size)
  replace Xx0_1 := Lib.hid (Xx0_1.out.below b8 Xx0_1.out.size)
  replace Xg0_0 := Lib.hid (Xg0_0.out.below b8 Xg0_0.out.size)
  replace K0 := Lib.hid (K0.out.below b8 K0.out.lt)
  replace Kx0 := Lib.hid (Kx0.out.below b8 Kx0.out.lt)
  replace HT := Lib.hid (HT.out.trans (b8.mono HT.out.size))
  clear b8
  clear Xx0_0
  clear Xx0_1
  have N0_0 := Xg0_0.out.len
  go_wp2_with fail
  refine (markInts  _ _ 1 _ _ _ Xg0_0.out (by omega) (by omega)).mono ?_
  rintro e v9 ⟨rfl, o9, g9⟩
  replace Xw0_0 := Lib.hid (Xw0_0.out.grown g9 Sw0_0_g0_0.out.1)
  replace K0 := Lib.hid (K0.out.grown g9 (fun e => by have := (Xg0_0.out.row.lt _ e).1; have := Lg0_0.out; have := AK0.out; omega))
  clear Kx0
  replace HT := Lib.hid (HT.out.trans ((Xg0_0.out.gb g9).mono Lg0_0.out))
  replace Xg0_0 := Lib.hid o9
  clear o9 g9
  go_wp2_with fail
  refine ((heldInts _ _ 1 _ Xg0_0.out.rd (by omega) (by omega)).mono (fun _ _ h => held_below h)).mono ?_
  rintro e v10 ⟨rfl, b10⟩
  replace Xw0_0 := Lib.hid (Xw0_0.out.below b10 Xw0_0.out.size)
  replace Xg0_0 := Lib.hid (Xg0_0.out.below b10 Xg0_0.out.size)
  replace K0 := Lib.hid (K0.out.below b10 K0.out.lt)
  replace HT := Lib.hid (HT.out.trans (b10.mono HT.out.size))
  clear b10
  have zzK0_0 := K0.out.cell 0 rfl
  have zzK0_1 := K0.out.cell 1 rfl
  go_wp2_with fail
  refine (toTape  _ y0_0 _ y0_1 _ (R0_0.out.below HT.out (Nat.le_refl _)) (R0_1.out.below HT.out (Nat.le_refl _))).mono ?_
  rintro e v11 ⟨ud0_0, ud0_1, rfl, od0_0, od0_1, sd0_0_d0_1, b11⟩
  have Sw0_0_d0_0 := Lib.hid (sep_of Xw0_0.out.top od0_0.row.lt Xw0_0.out.size)
  have Sg0_0_d0_0 := Lib.hid (sep_of Xg0_0.out.top od0_0.row.lt Xg0_0.out.size)
  have Ld0_0 := Lib.hid HT.out.size
  have Sw0_0_d0_1 := Lib.hid (sep_of Xw0_0.out.top od0_1.row.lt Xw0_0.out.size)
  have Sg0_0_d0_1 := Lib.hid (sep_of Xg0_0.out.top od0_1.row.lt Xg0_0.out.size)
  have Ld0_1 := Lib.hid HT.out.size
  replace Xw0_0 := Lib.hid (Xw0_0.out.below b11 Xw0_0.out.size)
  replace Xg0_0 := Lib.hid (Xg0_0.out.below b11 Xg0_0.out.size)
  replace K0 := Lib.hid (K0.out.below b11 K0.out.lt)
  replace HT := Lib.hid (HT.out.trans (b11.mono HT.out.size))
  have Sd0_0_d0_1 := Lib.hid sd0_0_d0_1
  clear sd0_0_d0_1
  have Xd0_0 := Lib.hid od0_0
  obtain ⟨gad0_0, gcd0_0, hud0_0⟩ := od0_0.shape
  subst hud0_0
  clear od0_0
  have Xd0_1 := Lib.hid od0_1
  obtain ⟨gad0_1, gcd0_1, hud0_1⟩ := od0_1.shape
  subst hud0_1
  clear od0_1
  clear b11
  clear zzK0_0 zzK0_1
  go_wp2_with fail
  refine (implTapeWord _ y0_0 _ y0_1 _ Xd0_0.out.rd Xd0_1.out.rd).mono ?_
  rintro e v12 ⟨uh0_0, rfl, oh0_0, b12⟩
  have Sw0_0_h0_0 := Lib.hid (sep_of Xw0_0.out.top oh0_0.row.lt Xw0_0.out.size)
  have Sg0_0_h0_0 := Lib.hid (sep_of Xg0_0.out.top oh0_0.row.lt Xg0_0.out.size)
  have Sd0_0_h0_0 := Lib.hid (sep_of Xd0_0.out.top oh0_0.row.lt Xd0_0.out.size)
  have Sd0_1_h0_0 := Lib.hid (sep_of Xd0_1.out.top oh0_0.row.lt Xd0_1.out.size)
  have Lh0_0 := Lib.hid HT.out.size
  replace Xw0_0 := Lib.hid (Xw0_0.out.below b12 Xw0_0.out.size)
  replace Xg0_0 := Lib.hid (Xg0_0.out.below b12 Xg0_0.out.size)
  replace Xd0_0 := Lib.hid (Xd0_0.out.below b12 Xd0_0.out.size)
  replace Xd0_1 := Lib.hid (Xd0_1.out.below b12 Xd0_1.out.size)
  replace K0 := Lib.hid (K0.out.below b12 K0.out.lt)
  replace HT := Lib.hid (HT.out.trans (b12.mono HT.out.size))
  have Xh0_0 := Lib.hid oh0_0
  obtain ⟨gah0_0, gch0_0, huh0_0⟩ := oh0_0.shape
  subst huh0_0
  clear oh0_0
  clear b12
  go_wp2_with fail
  refine (eqInts  _ _ _ _ Xh0_0.out.rd Xw0_0.out.rd).mono ?_
  rintro e v13 ⟨rfl, b13⟩
  replace Xw0_0 := Lib.hid (Xw0_0.out.below b13 Xw0_0.out.size)
  replace Xg0_0 := Lib.hid (Xg0_0.out.below b13 Xg0_0.out.size)
  replace Xd0_0 := Lib.hid (Xd0_0.out.below b13 Xd0_0.out.size)
  replace Xd0_1 := Lib.hid (Xd0_1.out.below b13 Xd0_1.out.size)
  replace Xh0_0 := Lib.hid (Xh0_0.out.below b13 Xh0_0.out.size)
  replace K0 := Lib.hid (K0.out.below b13 K0.out.lt)
  replace HT := Lib.hid (HT.out.trans (b13.mono HT.out.size))
  clear b13
  go_wp2_with fail
  refine ((heldInts _ _ 1 _ Xg0_0.out.rd (by omega) (by omega)).mono (fun _ _ h => held_below h)).mono ?_
  rintro e v14 ⟨rfl, b14⟩
  replace Xw0_0 := Lib.hid (Xw0_0.out.below b14 Xw0_0.out.size)
  replace Xg0_0 := Lib.hid (Xg0_0.out.below b14 Xg0_0.out.size)
  replace Xd0_0 := Lib.hid (Xd0_0.out.below b14 Xd0_0.out.size)
  replace Xd0_1 := Lib.hid (Xd0_1.out.below b14 Xd0_1.out.size)
  replace Xh0_0 := Lib.hid (Xh0_0.out.below b14 Xh0_0.out.size)
  replace K0 := Lib.hid (K0.out.below b14 K0.out.lt)
  replace HT := Lib.hid (HT.out.trans (b14.mono HT.out.size))
  clear b14
  go_wp2
  go_ret
  exact ⟨rfl, HB0.out.trans (HT.out.mono HB0.out.size)⟩

set_option maxRecDepth 100000 in
theorem lifted (os : Os) (started : os.Started) (H : Type) (enc : TypeId × Value → H) :
    ReturnsInHanded {} Try.checked os 6 .any (Rows.fnExactTapeWordSpec.pre6 enc Try.prog Try.f6 Rows.fnExactTapeWordRow.domain false) (Rows.fnExactTapeWordSpec.post enc Try.prog Try.f6 false true false false) := by
  refine returnsInHanded_of_change (C := Try.checked) own started (by kernel_rfl) Try.func6
    (ChangeSpec.witness6 (enc := enc) (C := Try.checked) false ⟨#[], #[.agg #[.slice none 0 0, .slice none 0 0]], []⟩ 8 (by kernel_rfl) (by kernel_rfl) (by kernel_rfl) (by kernel_rfl)) ?_
  intro W base args ds gs before hval0 hW hcnd _
  have hval : ∀ (j : Nat) t v, Try.f6.params[j]? = some t → args[j]? = some v → Value.okWide Try.prog W .any base t v := hval0
  have hW' := hW
  obtain ⟨p, q, hA0, hV, rfl, hfz, hnd⟩ := hW
  have hA : DataW.TrodAll enc Try.prog W 0 (fun _ => true) true Try.f6.params.toList args.toList ds p := hA0
  rw [Try.params6] at hA hval
  obtain ⟨v0, vs0, d0, ds0, p0, q0, hargs, rfl, rfl, h0, r0⟩ := trodAll_cons hA
  obtain ⟨rfl, rfl, rfl⟩ := trodAll_nil r0
  obtain rfl : args = #[v0] := by cases args; simp_all
  obtain ⟨rfl, rfl⟩ := trodVars_none hV
  have k0 := h0
  have lt0 : ∀ x ∈ p0, x.block < W.heap.size := by obtain ⟨m, hm⟩ := k0; exact DataW.trod_lt m _ _ _ hm
  obtain ⟨c0_0, c0_1, y0_0, y0_1, n0, rfl, _, _, t0_0, t0_1⟩ := Go.Joins.open_agg2 Try.underlying47 (by kernel_rfl) (by kernel_rfl) (hval 0 47 v0 rfl rfl) h0
  obtain ⟨a0_0, len0_0, cap0_0, z0_0, e0_0, w0_0⟩ := open_list t0_0
  simp only [List.cons.injEq, and_true] at e0_0
  subst e0_0
  obtain ⟨a0_1, len0_1, cap0_1, z0_1, e0_1, w0_1⟩ := open_list t0_1
  simp only [List.cons.injEq, and_true] at e0_1
  subst e0_1
  clear hA0 hval0
  refine (walk a0_0 len0_0 cap0_0 z0_0 a0_1 len0_1 cap0_1 z0_1 W w0_0 w0_1).mono fun e W' ⟨he, bel⟩ => ?_
  subst he
  exact ⟨_, rfl, _, _, _, [], _, [], hW', trodAll_mk1 (shut_bool Try.underlying4 _), (trodAll_cons_mk (Below.trod laidOut (by kernel_rfl) (of_decide_eq_true (by kernel_rfl)) k0 bel lt0) trodAll_mk0), rfl, bel.frame _, fun h => by cases h⟩

theorem over : Rows.fnExactTapeWordRow.holds Try.pinned (OpenSpec.ofChange Rows.fnExactTapeWordSpec) :=
  OpenClaim.holds_of_wide 6 Try.f6 rfl rfl rfl rfl rfl rfl rfl ⟨rfl, rfl, rfl, rfl, rfl⟩ rfl rfl rfl rfl rfl (by kernel_rfl) Try.func6 (by kernel_rfl)
    (of_decide_eq_true (by kernel_rfl)) (by unfold Func.isWrapper; first | (rw [if_pos (by decide +kernel)]; kernel_rfl) | (rw [if_neg (by decide +kernel)]; exact ⟨rfl, rfl⟩))
    (fun os started H enc _ => lifted os started H enc)

/-- The statement. -/
theorem proved : Rows.FnExactTapeWordSaid := over
#print axioms proved
end Go.Proofs.Ytmaapgjgbmefmaa.fnExactTapeWord
