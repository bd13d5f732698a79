/-   FnExactStartConfig: for every machine and word the program's StartConfig answers as its model, configuration and code, leaves its arguments alone, and its answer is its own; the variable noRule is read as start-up lays it (tied). No condition. -/
import Derived.Test.YtmgogbcipdjddaaDoorRows
import Derived.Test.YtmgogbcipdjddaaDoorCards
import Derived.Test.YtmgogbcipdjddaaDoorTie
import Derived.WalkKit
import Derived.ProofKit
import Derived.OpenShut
import Derived.ShutString
import Derived.ChangeOld
import Derived.Below
import Derived.Lib.SmallJoins
import Derived.Deep.Strs
import Derived.OpenVars
import Derived.LaidMore
import Derived.Lay
import Derived.LaidOnce
import Derived.SevenTiedAt
import Derived.Stop.Joined
import Derived.Handy
import Derived.Lib.Hide
import Derived.Deep.RegionHeld3
import Derived.Test.YtmgogbcipdjddaaDoorMark
import Derived.Test.YtmgogbcipdjddaaDoorMarkC
import Derived.Test.YtmgogbcipdjddaaDoorStart
namespace Go.Proofs.YtmgogbcipdjddaaDoor.fnExactStartConfig
open Go.ChangeShapes Go.WideShapes Go.ChangeAt Go.RowKit
set_option linter.unusedVariables false
set_option linter.unusedSimpArgs false

theorem own : ownKnob Tryd.prog.godebug = none := by kernel_rfl
theorem laidOut : laidOutB Tryd.prog = true := by kernel_rfl
open Ints

set_option maxHeartbeats 8000000 in
theorem walk (i0_0 : Int) (i0_1 : Int) (a0_0 : Option Addr) (len0_0 cap0_0 : Nat) (z0_0 : List Ru) (a1_0 : Option Addr) (len1_0 cap1_0 : Nat) (z1_0 : List Int) (w : World) (j0_0 : (Lit.int .i64 i0_0).wf = true) (j0_1 : (Lit.int .i64 i0_1).wf = true) (w0_0 : IsRules w a0_0 len0_0 cap0_0 z0_0) (w1_0 : IsList w a1_0 len1_0 cap1_0 z1_0) (hnr : NoR w) :
    Calls Tryd.prog 5 #[.agg #[.int .i64 i0_0, .int .i64 i0_1, .slice a0_0 len0_0 cap0_0], .slice a1_0 len1_0 cap1_0] w fun e w' => e = .returned (.bool true) ∧ Below w.heap.size w w' := by
  have hz0_0 := w0_0.le
  obtain ⟨l0_0, hl0_0⟩ : ∃ l : Int, l = 1048576 - (len0_0 : Int) := ⟨_, rfl⟩
  by_cases hb1_0 : len1_0 ≤ 1048576
  rotate_left
  · have hc1_0 : (1048576 : Int) < (len1_0 : Int) := by omega
    obtain ⟨W0, hW0⟩ : ∃ x, x = (w.alloc (Obj.cells #[.int .i64 i0_0, .int .i64 i0_1, .slice a0_0 len0_0 cap0_0] 24)) := ⟨_, rfl⟩
    have HB0 : Hid (Below w.heap.size w W0) := Lib.hid (by rw [hW0]; exact ((Below.refl w.heap.size w).alloc (Nat.le_refl _) _))
    have K0 : Hid (Cels W0 (w.heap.size) 24 [.int .i64 i0_0, .int .i64 i0_1, .slice a0_0 len0_0 cap0_0]) := Lib.hid (by rw [hW0]; have h := (Cels.new w 24 [.int .i64 i0_0, .int .i64 i0_1, .slice a0_0 len0_0 cap0_0]); first | exact h | (simp only [World.size_alloc] at h; exact h))
    have AK0 : Hid (w.heap.size < W0.heap.size) := Lib.hid K0.out.lt
    have HW0 := Lib.hid hW0.symm
    clear hW0
    have HL0_0 := Lib.hid hl0_0
    clear hl0_0
    go_enter Tryd.func5, Tryd.ntmps5
    go_wp2
    go_ret
    exact ⟨rfl, by rw [HW0.out]; exact HB0.out⟩
  have hd1_0 : ¬ (1048576 : Int) < (len1_0 : Int) := by omega
  by_cases hn0_0 : 0 ≤ l0_0
  rotate_left
  · have hm0_0 : l0_0 < 0 := by omega
    obtain ⟨W0, hW0⟩ : ∃ x, x = (w.alloc (Obj.cells #[.int .i64 i0_0, .int .i64 i0_1, .slice a0_0 len0_0 cap0_0] 24)) := ⟨_, rfl⟩
    have HB0 : Hid (Below w.heap.size w W0) := Lib.hid (by rw [hW0]; exact ((Below.refl w.heap.size w).alloc (Nat.le_refl _) _))
    have K0 : Hid (Cels W0 (w.heap.size) 24 [.int .i64 i0_0, .int .i64 i0_1, .slice a0_0 len0_0 cap0_0]) := Lib.hid (by rw [hW0]; have h := (Cels.new w 24 [.int .i64 i0_0, .int .i64 i0_1, .slice a0_0 len0_0 cap0_0]); first | exact h | (simp only [World.size_alloc] at h; exact h))
    have AK0 : Hid (w.heap.size < W0.heap.size) := Lib.hid K0.out.lt
    have HW0 := Lib.hid hW0.symm
    clear hW0
    have HL0_0 := Lib.hid hl0_0
    clear hl0_0
    go_enter Tryd.func5, Tryd.ntmps5
    go_wp2_with fail
    rw [HW0.out]
    have HT : Hid (Below W0.heap.size W0 W0) := Lib.hid (Below.refl _ _)
    refine (szMach_bad0 i0_0 i0_1 _ _ _ _ (by have := HL0_0.out; omega) HL0_0.out hm0_0 hz0_0).mono ?_
    rintro e vz0 ⟨rfl, bz⟩
    replace HT := Lib.hid (HT.out.trans (bz.mono HT.out.size))
    clear bz
    go_wp2
    go_ret
    exact ⟨rfl, HB0.out.trans (HT.out.mono HB0.out.size)⟩
  have hm0_0 : ¬ l0_0 < 0 := by omega
  obtain ⟨y0_0, hy0_0⟩ : ∃ y, y = z0_0.take len0_0 := ⟨_, rfl⟩
  have R0_0 : Hid (RdR w (.slice a0_0 len0_0 cap0_0) y0_0) := Lib.hid (by rw [hy0_0]; exact rdr_of_row w0_0 (by omega))
  clear hy0_0 w0_0
  obtain ⟨y1_0, hy1_0⟩ : ∃ y, y = z1_0.take len1_0 := ⟨_, rfl⟩
  have R1_0 : Hid (Rd w (.slice a1_0 len1_0 cap1_0) y1_0) := Lib.hid (by rw [hy1_0]; exact rd_of_row w1_0 (by omega))
  clear hy1_0 w1_0
  obtain ⟨W0, hW0⟩ : ∃ x, x = (w.alloc (Obj.cells #[.int .i64 i0_0, .int .i64 i0_1, .slice a0_0 len0_0 cap0_0] 24)) := ⟨_, rfl⟩
  have HB0 : Hid (Below w.heap.size w W0) := Lib.hid (by rw [hW0]; exact ((Below.refl w.heap.size w).alloc (Nat.le_refl _) _))
  have K0 : Hid (Cels W0 (w.heap.size) 24 [.int .i64 i0_0, .int .i64 i0_1, .slice a0_0 len0_0 cap0_0]) := Lib.hid (by rw [hW0]; have h := (Cels.new w 24 [.int .i64 i0_0, .int .i64 i0_1, .slice a0_0 len0_0 cap0_0]); first | exact h | (simp only [World.size_alloc] at h; exact h))
  have AK0 : Hid (w.heap.size < W0.heap.size) := Lib.hid K0.out.lt
  have HW0 := Lib.hid hW0.symm
  clear hW0
  have HL0_0 := Lib.hid hl0_0
  clear hl0_0
  replace R0_0 := Lib.hid (R0_0.out.below HB0.out (Nat.le_refl _))
  replace R1_0 := Lib.hid (R1_0.out.below HB0.out (Nat.le_refl _))
  have HN := Lib.hid (hnr.below HB0.out (Nat.le_refl _))
  clear hnr
  go_enter Tryd.func5, Tryd.ntmps5
  go_wp2_with fail
  rw [HW0.out]
  have HT : Hid (Below W0.heap.size W0 W0) := Lib.hid (Below.refl _ _)
  refine (szMach i0_0 i0_1 _ _ _ _ (by have := HL0_0.out; omega) HL0_0.out hn0_0 hz0_0).mono ?_
  rintro e vz0 ⟨rfl, bz⟩
  replace K0 := Lib.hid (K0.out.below bz K0.out.lt)
  replace HT := Lib.hid (HT.out.trans (bz.mono HT.out.size))
  clear bz
  clear HL0_0 hn0_0 hz0_0
  have zzK0_0 := K0.out.cell 0 rfl
  have zzK0_1 := K0.out.cell 1 rfl
  have zzK0_2 := K0.out.cell 2 rfl
  go_wp2_with fail
  refine (toMach i0_0 i0_1 _ y0_0 _ (R0_0.out.below HT.out (Nat.le_refl _))).mono ?_
  rintro e v1 ⟨us0_0, rfl, os0_0, b1⟩
  have Ls0_0 := Lib.hid HT.out.size
  replace K0 := Lib.hid (K0.out.below b1 K0.out.lt)
  replace HT := Lib.hid (HT.out.trans (b1.mono HT.out.size))
  have Xs0_0 := Lib.hid os0_0
  obtain ⟨gas0_0, gcs0_0, hus0_0⟩ := os0_0.shape
  subst hus0_0
  clear os0_0
  clear b1
  clear zzK0_0 zzK0_1 zzK0_2
  go_wp2_with fail
  refine (toInts  _ y1_0 _ (R1_0.out.below HT.out (Nat.le_refl _))).mono ?_
  rintro e v2 ⟨us1_0, rfl, os1_0, b2⟩
  have Ss0_0_s1_0 := Lib.hid (sep_of Xs0_0.out.top os1_0.row.lt Xs0_0.out.size)
  have Ls1_0 := Lib.hid HT.out.size
  replace Xs0_0 := Lib.hid (Xs0_0.out.below b2 Xs0_0.out.size)
  replace K0 := Lib.hid (K0.out.below b2 K0.out.lt)
  replace HT := Lib.hid (HT.out.trans (b2.mono HT.out.size))
  have Xs1_0 := Lib.hid os1_0
  obtain ⟨gas1_0, gcs1_0, hus1_0⟩ := os1_0.shape
  subst hus1_0
  clear os1_0
  clear b2
  go_wp2_with fail
  refine (specStartConfig i0_0 i0_1 _ y0_0 _ y1_0 _ Xs0_0.out.rd Xs1_0.out.rd).mono ?_
  rintro e v3 ⟨uw0_0, uw0_1, rfl, ow0_0, ow0_1, sw0_0_w0_1, b3⟩
  have Ss0_0_w0_0 := Lib.hid (sep_of Xs0_0.out.top ow0_0.row.lt Xs0_0.out.size)
  have Ss1_0_w0_0 := Lib.hid (sep_of Xs1_0.out.top ow0_0.row.lt Xs1_0.out.size)
  have Lw0_0 := Lib.hid HT.out.size
  have Ss0_0_w0_1 := Lib.hid (sep_of Xs0_0.out.top ow0_1.row.lt Xs0_0.out.size)
  have Ss1_0_w0_1 := Lib.hid (sep_of Xs1_0.out.top ow0_1.row.lt Xs1_0.out.size)
  have Lw0_1 := Lib.hid HT.out.size
  replace Xs0_0 := Lib.hid (Xs0_0.out.below b3 Xs0_0.out.size)
  replace Xs1_0 := Lib.hid (Xs1_0.out.below b3 Xs1_0.out.size)
  replace K0 := Lib.hid (K0.out.below b3 K0.out.lt)
  replace HT := Lib.hid (HT.out.trans (b3.mono HT.out.size))
  have Sw0_0_w0_1 := Lib.hid sw0_0_w0_1
  clear sw0_0_w0_1
  have Xw0_0 := Lib.hid ow0_0
  obtain ⟨gaw0_0, gcw0_0, huw0_0⟩ := ow0_0.shape
  subst huw0_0
  clear ow0_0
  have Xw0_1 := Lib.hid ow0_1
  obtain ⟨gaw0_1, gcw0_1, huw0_1⟩ := ow0_1.shape
  subst huw0_1
  clear ow0_1
  clear b3
  clear Xs0_0
  clear Xs1_0
  have q1 : Below v3.heap.size v3 (v3.alloc (Obj.cells #[.int .i64 0, .slice gaw0_0 scL.length gcw0_0, .slice gaw0_1 (scR i0_0 i0_1 y0_0 y1_0).length gcw0_1] 35)) := (Below.refl _ _).alloc (Nat.le_refl _) _
  have Kw0 : Hid (Cels (v3.alloc (Obj.cells #[.int .i64 0, .slice gaw0_0 scL.length gcw0_0, .slice gaw0_1 (scR i0_0 i0_1 y0_0 y1_0).length gcw0_1] 35)) v3.heap.size 35 [.int .i64 0, .slice gaw0_0 scL.length gcw0_0, .slice gaw0_1 (scR i0_0 i0_1 y0_0 y1_0).length gcw0_1]) := Lib.hid (Cels.new _ _ _)
  replace Xw0_0 := Lib.hid (Xw0_0.out.below q1 Xw0_0.out.size)
  replace Xw0_1 := Lib.hid (Xw0_1.out.below q1 Xw0_1.out.size)
  replace K0 := Lib.hid (K0.out.below q1 K0.out.lt)
  replace HT := Lib.hid (HT.out.trans (q1.mono HT.out.size))
  clear q1
  have zzK0_0 := K0.out.cell 0 rfl
  have zzK0_1 := K0.out.cell 1 rfl
  have zzK0_2 := K0.out.cell 2 rfl
  go_wp2_with fail
  refine (toMach i0_0 i0_1 _ y0_0 _ (R0_0.out.below HT.out (Nat.le_refl _))).mono ?_
  rintro e v4 ⟨ux0_0, rfl, ox0_0, b4⟩
  have Sw0_0_x0_0 := Lib.hid (sep_of Xw0_0.out.top ox0_0.row.lt Xw0_0.out.size)
  have Sw0_1_x0_0 := Lib.hid (sep_of Xw0_1.out.top ox0_0.row.lt Xw0_1.out.size)
  have Lx0_0 := Lib.hid HT.out.size
  replace Xw0_0 := Lib.hid (Xw0_0.out.below b4 Xw0_0.out.size)
  replace Xw0_1 := Lib.hid (Xw0_1.out.below b4 Xw0_1.out.size)
  replace K0 := Lib.hid (K0.out.below b4 K0.out.lt)
  replace Kw0 := Lib.hid (Kw0.out.below b4 Kw0.out.lt)
  replace HT := Lib.hid (HT.out.trans (b4.mono HT.out.size))
  have Xx0_0 := Lib.hid ox0_0
  obtain ⟨gax0_0, gcx0_0, hux0_0⟩ := ox0_0.shape
  subst hux0_0
  clear ox0_0
  clear b4
  have q2 : Below v4.heap.size v4 (v4.alloc (Obj.cells #[.int .i64 i0_0, .int .i64 i0_1, .slice gax0_0 y0_0.length gcx0_0] 33)) := (Below.refl _ _).alloc (Nat.le_refl _) _
  have Kx0 : Hid (Cels (v4.alloc (Obj.cells #[.int .i64 i0_0, .int .i64 i0_1, .slice gax0_0 y0_0.length gcx0_0] 33)) v4.heap.size 33 [.int .i64 i0_0, .int .i64 i0_1, .slice gax0_0 y0_0.length gcx0_0]) := Lib.hid (Cels.new _ _ _)
  replace Xw0_0 := Lib.hid (Xw0_0.out.below q2 Xw0_0.out.size)
  replace Xw0_1 := Lib.hid (Xw0_1.out.below q2 Xw0_1.out.size)
  replace Xx0_0 := Lib.hid (Xx0_0.out.below q2 Xx0_0.out.size)
  replace K0 := Lib.hid (K0.out.below q2 K0.out.lt)
  replace Kw0 := Lib.hid (Kw0.out.below q2 Kw0.out.lt)
  replace HT := Lib.hid (HT.out.trans (q2.mono HT.out.size))
  clear q2
  clear zzK0_0 zzK0_1 zzK0_2
  go_wp2_with fail
  refine (toInts  _ y1_0 _ (R1_0.out.below HT.out (Nat.le_refl _))).mono ?_
  rintro e v5 ⟨ux1_0, rfl, ox1_0, b5⟩
  have Sw0_0_x1_0 := Lib.hid (sep_of Xw0_0.out.top ox1_0.row.lt Xw0_0.out.size)
  have Sw0_1_x1_0 := Lib.hid (sep_of Xw0_1.out.top ox1_0.row.lt Xw0_1.out.size)
  have Sx0_0_x1_0 := Lib.hid (sep_of Xx0_0.out.top ox1_0.row.lt Xx0_0.out.size)
  have Lx1_0 := Lib.hid HT.out.size
  replace Xw0_0 := Lib.hid (Xw0_0.out.below b5 Xw0_0.out.size)
  replace Xw0_1 := Lib.hid (Xw0_1.out.below b5 Xw0_1.out.size)
  replace Xx0_0 := Lib.hid (Xx0_0.out.below b5 Xx0_0.out.size)
  replace K0 := Lib.hid (K0.out.below b5 K0.out.lt)
  replace Kw0 := Lib.hid (Kw0.out.below b5 Kw0.out.lt)
  replace Kx0 := Lib.hid (Kx0.out.below b5 Kx0.out.lt)
  replace HT := Lib.hid (HT.out.trans (b5.mono HT.out.size))
  have Xx1_0 := Lib.hid ox1_0
  obtain ⟨gax1_0, gcx1_0, hux1_0⟩ := ox1_0.shape
  subst hux1_0
  clear ox1_0
  clear b5
  have zzKx0_0 := Kx0.out.cell 0 rfl
  have zzKx0_1 := Kx0.out.cell 1 rfl
  have zzKx0_2 := Kx0.out.cell 2 rfl
  go_wp2_with fail
  refine (implStartConfig i0_0 i0_1 _ y0_0 _ y1_0 _ Xx0_0.out.rd Xx1_0.out.rd (HN.out.below HT.out (Nat.le_refl _))).mono ?_
  rintro e v6 ⟨ug0_0, ug0_1, rfl, og0_0, og0_1, sg0_0_g0_1, b6⟩
  have Sw0_0_g0_0 := Lib.hid (sep_of Xw0_0.out.top og0_0.row.lt Xw0_0.out.size)
  have Sw0_1_g0_0 := Lib.hid (sep_of Xw0_1.out.top og0_0.row.lt Xw0_1.out.size)
  have Sx0_0_g0_0 := Lib.hid (sep_of Xx0_0.out.top og0_0.row.lt Xx0_0.out.size)
  have Sx1_0_g0_0 := Lib.hid (sep_of Xx1_0.out.top og0_0.row.lt Xx1_0.out.size)
  have Lg0_0 := Lib.hid HT.out.size
  have Sw0_0_g0_1 := Lib.hid (sep_of Xw0_0.out.top og0_1.row.lt Xw0_0.out.size)
  have Sw0_1_g0_1 := Lib.hid (sep_of Xw0_1.out.top og0_1.row.lt Xw0_1.out.size)
  have Sx0_0_g0_1 := Lib.hid (sep_of Xx0_0.out.top og0_1.row.lt Xx0_0.out.size)
  have Sx1_0_g0_1 := Lib.hid (sep_of Xx1_0.out.top og0_1.row.lt Xx1_0.out.size)
  have Lg0_1 := Lib.hid HT.out.size
  replace Xw0_0 := Lib.hid (Xw0_0.out.below b6 Xw0_0.out.size)
  replace Xw0_1 := Lib.hid (Xw0_1.out.below b6 Xw0_1.out.size)
  replace Xx0_0 := Lib.hid (Xx0_0.out.below b6 Xx0_0.out.size)
  replace Xx1_0 := Lib.hid (Xx1_0.out.below b6 Xx1_0.out.size)
  replace K0 := Lib.hid (K0.out.below b6 K0.out.lt)
  replace Kw0 := Lib.hid (Kw0.out.below b6 Kw0.out.lt)
  replace Kx0 := Lib.hid (Kx0.out.below b6 Kx0.out.lt)
  replace HT := Lib.hid (HT.out.trans (b6.mono HT.out.size))
  have Sg0_0_g0_1 := Lib.hid sg0_0_g0_1
  clear sg0_0_g0_1
  have Xg0_0 := Lib.hid og0_0
  obtain ⟨gag0_0, gcg0_0, hug0_0⟩ := og0_0.shape
  subst hug0_0
  clear og0_0
  have Xg0_1 := Lib.hid og0_1
  obtain ⟨gag0_1, gcg0_1, hug0_1⟩ := og0_1.shape
  subst hug0_1
  clear og0_1
  clear b6
  have q3 : Below v6.heap.size v6 (v6.alloc (Obj.cells #[.int .i64 0, .slice gag0_0 scL.length gcg0_0, .slice gag0_1 (scR i0_0 i0_1 y0_0 y1_0).length gcg0_1] 35)) := (Below.refl _ _).alloc (Nat.le_refl _) _
  have Kg0 : Hid (Cels (v6.alloc (Obj.cells #[.int .i64 0, .slice gag0_0 scL.length gcg0_0, .slice gag0_1 (scR i0_0 i0_1 y0_0 y1_0).length gcg0_1] 35)) v6.heap.size 35 [.int .i64 0, .slice gag0_0 scL.length gcg0_0, .slice gag0_1 (scR i0_0 i0_1 y0_0 y1_0).length gcg0_1]) := Lib.hid (Cels.new _ _ _)
  replace Xw0_0 := Lib.hid (Xw0_0.out.below q3 Xw0_0.out.size)
  replace Xw0_1 := Lib.hid (Xw0_1.out.below q3 Xw0_1.out.size)
  replace Xx0_0 := Lib.hid (Xx0_0.out.below q3 Xx0_0.out.size)
  replace Xx1_0 := Lib.hid (Xx1_0.out.below q3 Xx1_0.out.size)
  replace Xg0_0 := Lib.hid (Xg0_0.out.below q3 Xg0_0.out.size)
  replace Xg0_1 := Lib.hid (Xg0_1.out.below q3 Xg0_1.out.size)
  replace K0 := Lib.hid (K0.out.below q3 K0.out.lt)
  replace Kw0 := Lib.hid (Kw0.out.below q3 Kw0.out.lt)
  replace Kx0 := Lib.hid (Kx0.out.below q3 Kx0.out.lt)
  replace HT := Lib.hid (HT.out.trans (q3.mono HT.out.size))
  clear q3
  clear zzKx0_0 zzKx0_1 zzKx0_2
  have zzKg0_0 := Kg0.out.cell 0 rfl
  have zzKg0_1 := Kg0.out.cell 1 rfl
  have zzKg0_2 := Kg0.out.cell 2 rfl
  have zzKw0_0 := Kw0.out.cell 0 rfl
  have zzKw0_1 := Kw0.out.cell 1 rfl
  have zzKw0_2 := Kw0.out.cell 2 rfl
  go_wp2_with fail
  refine (eqConf _ _ _ _ _ _ _ _ Xg0_0.out.rd Xw0_0.out.rd Xg0_1.out.rd Xw0_1.out.rd).mono ?_
  rintro e v7 ⟨rfl, b7⟩
  replace Xw0_0 := Lib.hid (Xw0_0.out.below b7 Xw0_0.out.size)
  replace Xw0_1 := Lib.hid (Xw0_1.out.below b7 Xw0_1.out.size)
  replace Xx0_0 := Lib.hid (Xx0_0.out.below b7 Xx0_0.out.size)
  replace Xx1_0 := Lib.hid (Xx1_0.out.below b7 Xx1_0.out.size)
  replace Xg0_0 := Lib.hid (Xg0_0.out.below b7 Xg0_0.out.size)
  replace Xg0_1 := Lib.hid (Xg0_1.out.below b7 Xg0_1.out.size)
  replace K0 := Lib.hid (K0.out.below b7 K0.out.lt)
  replace Kw0 := Lib.hid (Kw0.out.below b7 Kw0.out.lt)
  replace Kx0 := Lib.hid (Kx0.out.below b7 Kx0.out.lt)
  replace Kg0 := Lib.hid (Kg0.out.below b7 Kg0.out.lt)
  replace HT := Lib.hid (HT.out.trans (b7.mono HT.out.size))
  clear b7
  clear zzKg0_0 zzKg0_1 zzKg0_2 zzKw0_0 zzKw0_1 zzKw0_2
  go_wp2_with fail
  have HS8 : Hid (∀ W', Below v7.heap.size v7 W' → W'.cell? ⟨v4.heap.size, 0, none⟩ = some (.int .i64 i0_0) ∧ W'.cell? ⟨v4.heap.size, 1, none⟩ = some (.int .i64 i0_1) ∧ W'.cell? ⟨v4.heap.size, 2, none⟩ = some (.slice gax0_0 y0_0.length gcx0_0) ∧ W'.cell? ⟨w.heap.size, 0, none⟩ = some (.int .i64 i0_0) ∧ W'.cell? ⟨w.heap.size, 1, none⟩ = some (.int .i64 i0_1) ∧ W'.cell? ⟨w.heap.size, 2, none⟩ = some (.slice a0_0 len0_0 cap0_0)) := Lib.hid (fun W' hW' => ⟨(Kx0.out.below hW' Kx0.out.lt).cell 0 rfl, (Kx0.out.below hW' Kx0.out.lt).cell 1 rfl, (Kx0.out.below hW' Kx0.out.lt).cell 2 rfl, (K0.out.below hW' K0.out.lt).cell 0 rfl, (K0.out.below hW' K0.out.lt).cell 1 rfl, (K0.out.below hW' K0.out.lt).cell 2 rfl⟩)
  have bd : Below v7.heap.size v7 v7.drew := (Below.refl _ _).drew
  have HD := Lib.hid bd
  replace Xw0_0 := Lib.hid (Xw0_0.out.below bd Xw0_0.out.size)
  replace Xw0_1 := Lib.hid (Xw0_1.out.below bd Xw0_1.out.size)
  replace Xx0_0 := Lib.hid (Xx0_0.out.below bd Xx0_0.out.size)
  replace Xx1_0 := Lib.hid (Xx1_0.out.below bd Xx1_0.out.size)
  replace Xg0_0 := Lib.hid (Xg0_0.out.below bd Xg0_0.out.size)
  replace Xg0_1 := Lib.hid (Xg0_1.out.below bd Xg0_1.out.size)
  replace K0 := Lib.hid (K0.out.below bd K0.out.lt)
  replace Kw0 := Lib.hid (Kw0.out.below bd Kw0.out.lt)
  replace Kx0 := Lib.hid (Kx0.out.below bd Kx0.out.lt)
  replace Kg0 := Lib.hid (Kg0.out.below bd Kg0.out.lt)
  replace HT := Lib.hid (HT.out.trans (bd.mono HT.out.size))
  clear bd
  go_region_held3 (fun w' => w'.cell? ⟨v4.heap.size, 0, none⟩ = some (.int .i64 i0_0) ∧ w'.cell? ⟨v4.heap.size, 1, none⟩ = some (.int .i64 i0_1) ∧ w'.cell? ⟨v4.heap.size, 2, none⟩ = some (.slice gax0_0 y0_0.length gcx0_0) ∧ w'.cell? ⟨w.heap.size, 0, none⟩ = some (.int .i64 i0_0) ∧ w'.cell? ⟨w.heap.size, 1, none⟩ = some (.int .i64 i0_1) ∧ w'.cell? ⟨w.heap.size, 2, none⟩ = some (.slice a0_0 len0_0 cap0_0)) (exact HS8.out _ HD.out) (first | (go_at_call 14; with_reducible refine (toMach i0_0 i0_1 _ y0_0 _ (R0_0.out.below HT.out (Nat.le_refl _))).mono ?_; rintro e w8 ⟨uc0_0, rfl, oc0_0, bq⟩; replace HD := Lib.hid (HD.out.trans (bq.mono HD.out.size)); have Sw0_0_c0_0 := Lib.hid (sep_of Xw0_0.out.top oc0_0.row.lt Xw0_0.out.size); have Sw0_1_c0_0 := Lib.hid (sep_of Xw0_1.out.top oc0_0.row.lt Xw0_1.out.size); have Sx0_0_c0_0 := Lib.hid (sep_of Xx0_0.out.top oc0_0.row.lt Xx0_0.out.size); have Sx1_0_c0_0 := Lib.hid (sep_of Xx1_0.out.top oc0_0.row.lt Xx1_0.out.size); have Sg0_0_c0_0 := Lib.hid (sep_of Xg0_0.out.top oc0_0.row.lt Xg0_0.out.size); have Sg0_1_c0_0 := Lib.hid (sep_of Xg0_1.out.top oc0_0.row.lt Xg0_1.out.size); have Lc0_0 := Lib.hid HT.out.size; replace Xw0_0 := Lib.hid (Xw0_0.out.below bq Xw0_0.out.size); replace Xw0_1 := Lib.hid (Xw0_1.out.below bq Xw0_1.out.size); replace Xx0_0 := Lib.hid (Xx0_0.out.below bq Xx0_0.out.size); replace Xx1_0 := Lib.hid (Xx1_0.out.below bq Xx1_0.out.size); replace Xg0_0 := Lib.hid (Xg0_0.out.below bq Xg0_0.out.size); replace Xg0_1 := Lib.hid (Xg0_1.out.below bq Xg0_1.out.size); replace K0 := Lib.hid (K0.out.below bq K0.out.lt); replace Kw0 := Lib.hid (Kw0.out.below bq Kw0.out.lt); replace Kx0 := Lib.hid (Kx0.out.below bq Kx0.out.lt); replace Kg0 := Lib.hid (Kg0.out.below bq Kg0.out.lt); replace HT := Lib.hid (HT.out.trans (bq.mono HT.out.size)); have Xc0_0 := Lib.hid oc0_0; obtain ⟨gac0_0, gcc0_0, huc0_0⟩ := oc0_0.shape; subst huc0_0; clear oc0_0; clear bq) | (go_at_call 17; with_reducible refine (eqMach _ _ _ _ _ _ Xx0_0.out.rd Xc0_0.out.rd).mono ?_; rintro e w8 ⟨rfl, bq⟩; replace HD := Lib.hid (HD.out.trans (bq.mono HD.out.size)); replace Xw0_0 := Lib.hid (Xw0_0.out.below bq Xw0_0.out.size); replace Xw0_1 := Lib.hid (Xw0_1.out.below bq Xw0_1.out.size); replace Xx0_0 := Lib.hid (Xx0_0.out.below bq Xx0_0.out.size); replace Xx1_0 := Lib.hid (Xx1_0.out.below bq Xx1_0.out.size); replace Xg0_0 := Lib.hid (Xg0_0.out.below bq Xg0_0.out.size); replace Xg0_1 := Lib.hid (Xg0_1.out.below bq Xg0_1.out.size); replace Xc0_0 := Lib.hid (Xc0_0.out.below bq Xc0_0.out.size); replace K0 := Lib.hid (K0.out.below bq K0.out.lt); replace Kw0 := Lib.hid (Kw0.out.below bq Kw0.out.lt); replace Kx0 := Lib.hid (Kx0.out.below bq Kx0.out.lt); replace Kg0 := Lib.hid (Kg0.out.below bq Kg0.out.lt); replace HT := Lib.hid (HT.out.trans (bq.mono HT.out.size)); clear bq))
  clear Xc0_0
  go_wp2_with fail
  refine (toInts  _ y1_0 _ (R1_0.out.below HT.out (Nat.le_refl _))).mono ?_
  rintro e v9 ⟨uc1_0, rfl, oc1_0, b9⟩
  have Sw0_0_c1_0 := Lib.hid (sep_of Xw0_0.out.top oc1_0.row.lt Xw0_0.out.size)
  have Sw0_1_c1_0 := Lib.hid (sep_of Xw0_1.out.top oc1_0.row.lt Xw0_1.out.size)
  have Sx0_0_c1_0 := Lib.hid (sep_of Xx0_0.out.top oc1_0.row.lt Xx0_0.out.size)
  have Sx1_0_c1_0 := Lib.hid (sep_of Xx1_0.out.top oc1_0.row.lt Xx1_0.out.size)
  have Sg0_0_c1_0 := Lib.hid (sep_of Xg0_0.out.top oc1_0.row.lt Xg0_0.out.size)
  have Sg0_1_c1_0 := Lib.hid (sep_of Xg0_1.out.top oc1_0.row.lt Xg0_1.out.size)
  have Lc1_0 := Lib.hid HT.out.size
  replace Xw0_0 := Lib.hid (Xw0_0.out.below b9 Xw0_0.out.size)
  replace Xw0_1 := Lib.hid (Xw0_1.out.below b9 Xw0_1.out.size)
  replace Xx0_0 := Lib.hid (Xx0_0.out.below b9 Xx0_0.out.size)
  replace Xx1_0 := Lib.hid (Xx1_0.out.below b9 Xx1_0.out.size)
  replace Xg0_0 := Lib.hid (Xg0_0.out.below b9 Xg0_0.out.size)
  replace Xg0_1 := Lib.hid (Xg0_1.out.below b9 Xg0_1.out.size)
  replace K0 := Lib.hid (K0.out.below b9 K0.out.lt)
  replace Kw0 := Lib.hid (Kw0.out.below b9 Kw0.out.lt)
  replace Kx0 := Lib.hid (Kx0.out.below b9 Kx0.out.lt)
  replace Kg0 := Lib.hid (Kg0.out.below b9 Kg0.out.lt)
  replace HT := Lib.hid (HT.out.trans (b9.mono HT.out.size))
  have Xc1_0 := Lib.hid oc1_0
  obtain ⟨gac1_0, gcc1_0, huc1_0⟩ := oc1_0.shape
  subst huc1_0
  clear oc1_0
  clear b9
  go_wp2_with fail
  refine (eqInts  _ _ _ _ Xx1_0.out.rd Xc1_0.out.rd).mono ?_
  rintro e v10 ⟨rfl, b10⟩
  replace Xw0_0 := Lib.hid (Xw0_0.out.below b10 Xw0_0.out.size)
  replace Xw0_1 := Lib.hid (Xw0_1.out.below b10 Xw0_1.out.size)
  replace Xx0_0 := Lib.hid (Xx0_0.out.below b10 Xx0_0.out.size)
  replace Xx1_0 := Lib.hid (Xx1_0.out.below b10 Xx1_0.out.size)
  replace Xg0_0 := Lib.hid (Xg0_0.out.below b10 Xg0_0.out.size)
  replace Xg0_1 := Lib.hid (Xg0_1.out.below b10 Xg0_1.out.size)
  replace Xc1_0 := Lib.hid (Xc1_0.out.below b10 Xc1_0.out.size)
  replace K0 := Lib.hid (K0.out.below b10 K0.out.lt)
  replace Kw0 := Lib.hid (Kw0.out.below b10 Kw0.out.lt)
  replace Kx0 := Lib.hid (Kx0.out.below b10 Kx0.out.lt)
  replace Kg0 := Lib.hid (Kg0.out.below b10 Kg0.out.lt)
  replace HT := Lib.hid (HT.out.trans (b10.mono HT.out.size))
  clear b10
  clear Xc1_0
  have zzKx0_0 := Kx0.out.cell 0 rfl
  have zzKx0_1 := Kx0.out.cell 1 rfl
  have zzKx0_2 := Kx0.out.cell 2 rfl
  go_wp2_with fail
  refine (markMach _ _ _ _ (1) _ _ _ Xx0_0.out (by have r0_0 := R0_0.out.len; have r1_0 := R1_0.out.len; omega) (by have r0_0 := R0_0.out.len; have r1_0 := R1_0.out.len; omega)).mono ?_
  rintro e v11 ⟨rfl, o11, g11⟩
  replace Xw0_0 := Lib.hid (Xw0_0.out.grown g11 Sw0_0_x0_0.out.1)
  replace Xw0_1 := Lib.hid (Xw0_1.out.grown g11 Sw0_1_x0_0.out.1)
  replace Xx1_0 := Lib.hid (Xx1_0.out.grown g11 Sx0_0_x1_0.out.2)
  replace Xg0_0 := Lib.hid (Xg0_0.out.grown g11 Sx0_0_g0_0.out.2)
  replace Xg0_1 := Lib.hid (Xg0_1.out.grown g11 Sx0_0_g0_1.out.2)
  replace K0 := Lib.hid (K0.out.grown g11 (Xx0_0.out.nblk K0.out (by decide)))
  replace Kw0 := Lib.hid (Kw0.out.grown g11 (Xx0_0.out.nblk Kw0.out (by decide)))
  replace Kx0 := Lib.hid (Kx0.out.grown g11 (Xx0_0.out.nblk Kx0.out (by decide)))
  replace Kg0 := Lib.hid (Kg0.out.grown g11 (Xx0_0.out.nblk Kg0.out (by decide)))
  replace HT := Lib.hid (HT.out.trans ((Xx0_0.out.gb g11).mono Lx0_0.out))
  replace Xx0_0 := Lib.hid o11
  clear o11 g11
  clear zzKx0_0 zzKx0_1 zzKx0_2
  go_wp2_with fail
  refine (markInts  _ _ (1 + 3 * (y0_0.length : Int)) _ _ _ Xx1_0.out (by have r0_0 := R0_0.out.len; have r1_0 := R1_0.out.len; omega) (by have r0_0 := R0_0.out.len; have r1_0 := R1_0.out.len; omega)).mono ?_
  rintro e v12 ⟨rfl, o12, g12⟩
  replace Xw0_0 := Lib.hid (Xw0_0.out.grown g12 Sw0_0_x1_0.out.1)
  replace Xw0_1 := Lib.hid (Xw0_1.out.grown g12 Sw0_1_x1_0.out.1)
  replace Xx0_0 := Lib.hid (Xx0_0.out.grown g12 Sx0_0_x1_0.out.1)
  replace Xg0_0 := Lib.hid (Xg0_0.out.grown g12 Sx1_0_g0_0.out.2)
  replace Xg0_1 := Lib.hid (Xg0_1.out.grown g12 Sx1_0_g0_1.out.2)
  replace K0 := Lib.hid (K0.out.grown g12 (Xx1_0.out.nblk K0.out (by decide)))
  replace Kw0 := Lib.hid (Kw0.out.grown g12 (Xx1_0.out.nblk Kw0.out (by decide)))
  replace Kx0 := Lib.hid (Kx0.out.grown g12 (Xx1_0.out.nblk Kx0.out (by decide)))
  replace Kg0 := Lib.hid (Kg0.out.grown g12 (Xx1_0.out.nblk Kg0.out (by decide)))
  replace HT := Lib.hid (HT.out.trans ((Xx1_0.out.gb g12).mono Lx1_0.out))
  replace Xx1_0 := Lib.hid o12
  clear o12 g12
  have zzKg0_0 := Kg0.out.cell 0 rfl
  have zzKg0_1 := Kg0.out.cell 1 rfl
  have zzKg0_2 := Kg0.out.cell 2 rfl
  have zzKw0_0 := Kw0.out.cell 0 rfl
  have zzKw0_1 := Kw0.out.cell 1 rfl
  have zzKw0_2 := Kw0.out.cell 2 rfl
  go_wp2_with fail
  refine (eqConf _ _ _ _ _ _ _ _ Xg0_0.out.rd Xw0_0.out.rd Xg0_1.out.rd Xw0_1.out.rd).mono ?_
  rintro e v13 ⟨rfl, b13⟩
  replace Xw0_0 := Lib.hid (Xw0_0.out.below b13 Xw0_0.out.size)
  replace Xw0_1 := Lib.hid (Xw0_1.out.below b13 Xw0_1.out.size)
  replace Xx0_0 := Lib.hid (Xx0_0.out.below b13 Xx0_0.out.size)
  replace Xx1_0 := Lib.hid (Xx1_0.out.below b13 Xx1_0.out.size)
  replace Xg0_0 := Lib.hid (Xg0_0.out.below b13 Xg0_0.out.size)
  replace Xg0_1 := Lib.hid (Xg0_1.out.below b13 Xg0_1.out.size)
  replace K0 := Lib.hid (K0.out.below b13 K0.out.lt)
  replace Kw0 := Lib.hid (Kw0.out.below b13 Kw0.out.lt)
  replace Kx0 := Lib.hid (Kx0.out.below b13 Kx0.out.lt)
  replace Kg0 := Lib.hid (Kg0.out.below b13 Kg0.out.lt)
  replace HT := Lib.hid (HT.out.trans (b13.mono HT.out.size))
  clear b13
  clear Xx0_0
  clear Xx1_0
  have N0_0 := Xg0_0.out.len
  have N0_1 := Xg0_1.out.len
  clear zzKg0_0 zzKg0_1 zzKg0_2 zzKw0_0 zzKw0_1 zzKw0_2
  have zzKg0_0 := Kg0.out.cell 0 rfl
  have zzKg0_1 := Kg0.out.cell 1 rfl
  have zzKg0_2 := Kg0.out.cell 2 rfl
  go_wp2_with fail
  refine (markConf _ _ _ _ _ 1 _ _ _ _ _ Xg0_0.out Xg0_1.out Sg0_0_g0_1.out (by omega) (by omega)).mono ?_
  rintro e v14 ⟨rfl, vm14, o14, ob14, g14, gb14⟩
  replace Xw0_0 := Lib.hid ((Xw0_0.out.grown g14 Sw0_0_g0_0.out.1).grown gb14 Sw0_0_g0_1.out.1)
  replace Xw0_1 := Lib.hid ((Xw0_1.out.grown g14 Sw0_1_g0_0.out.1).grown gb14 Sw0_1_g0_1.out.1)
  replace K0 := Lib.hid ((K0.out.grown g14 (Xg0_0.out.nblk K0.out (by decide))).grown gb14 (Xg0_1.out.nblk K0.out (by decide)))
  replace Kw0 := Lib.hid ((Kw0.out.grown g14 (Xg0_0.out.nblk Kw0.out (by decide))).grown gb14 (Xg0_1.out.nblk Kw0.out (by decide)))
  replace Kx0 := Lib.hid ((Kx0.out.grown g14 (Xg0_0.out.nblk Kx0.out (by decide))).grown gb14 (Xg0_1.out.nblk Kx0.out (by decide)))
  replace Kg0 := Lib.hid ((Kg0.out.grown g14 (Xg0_0.out.nblk Kg0.out (by decide))).grown gb14 (Xg0_1.out.nblk Kg0.out (by decide)))
  replace HT := Lib.hid (HT.out.trans (((Xg0_0.out.gb g14).mono Lg0_0.out).trans (((Xg0_1.out.grown g14 Sg0_0_g0_1.out.2).gb gb14).mono Lg0_1.out)))
  replace Xg0_0 := Lib.hid o14
  replace Xg0_1 := Lib.hid ob14
  clear o14 g14 ob14 gb14
  clear zzKg0_0 zzKg0_1 zzKg0_2
  have zzKg0_0 := Kg0.out.cell 0 rfl
  have zzKg0_1 := Kg0.out.cell 1 rfl
  have zzKg0_2 := Kg0.out.cell 2 rfl
  go_wp2_with fail
  refine (heldConf _ _ _ _ _ 1 _ Xg0_0.out.rd Xg0_1.out.rd (by omega) (by omega)).mono ?_
  rintro e v15 ⟨rfl, b15⟩
  replace Xw0_0 := Lib.hid (Xw0_0.out.below b15 Xw0_0.out.size)
  replace Xw0_1 := Lib.hid (Xw0_1.out.below b15 Xw0_1.out.size)
  replace Xg0_0 := Lib.hid (Xg0_0.out.below b15 Xg0_0.out.size)
  replace Xg0_1 := Lib.hid (Xg0_1.out.below b15 Xg0_1.out.size)
  replace K0 := Lib.hid (K0.out.below b15 K0.out.lt)
  replace Kw0 := Lib.hid (Kw0.out.below b15 Kw0.out.lt)
  replace Kx0 := Lib.hid (Kx0.out.below b15 Kx0.out.lt)
  replace Kg0 := Lib.hid (Kg0.out.below b15 Kg0.out.lt)
  replace HT := Lib.hid (HT.out.trans (b15.mono HT.out.size))
  clear b15
  clear zzKg0_0 zzKg0_1 zzKg0_2
  have zzK0_0 := K0.out.cell 0 rfl
  have zzK0_1 := K0.out.cell 1 rfl
  have zzK0_2 := K0.out.cell 2 rfl
  go_wp2_with fail
  refine (toMach i0_0 i0_1 _ y0_0 _ (R0_0.out.below HT.out (Nat.le_refl _))).mono ?_
  rintro e v16 ⟨ud0_0, rfl, od0_0, b16⟩
  have Sw0_0_d0_0 := Lib.hid (sep_of Xw0_0.out.top od0_0.row.lt Xw0_0.out.size)
  have Sw0_1_d0_0 := Lib.hid (sep_of Xw0_1.out.top od0_0.row.lt Xw0_1.out.size)
  have Sg0_0_d0_0 := Lib.hid (sep_of Xg0_0.out.top od0_0.row.lt Xg0_0.out.size)
  have Sg0_1_d0_0 := Lib.hid (sep_of Xg0_1.out.top od0_0.row.lt Xg0_1.out.size)
  have Ld0_0 := Lib.hid HT.out.size
  replace Xw0_0 := Lib.hid (Xw0_0.out.below b16 Xw0_0.out.size)
  replace Xw0_1 := Lib.hid (Xw0_1.out.below b16 Xw0_1.out.size)
  replace Xg0_0 := Lib.hid (Xg0_0.out.below b16 Xg0_0.out.size)
  replace Xg0_1 := Lib.hid (Xg0_1.out.below b16 Xg0_1.out.size)
  replace K0 := Lib.hid (K0.out.below b16 K0.out.lt)
  replace Kw0 := Lib.hid (Kw0.out.below b16 Kw0.out.lt)
  replace Kx0 := Lib.hid (Kx0.out.below b16 Kx0.out.lt)
  replace Kg0 := Lib.hid (Kg0.out.below b16 Kg0.out.lt)
  replace HT := Lib.hid (HT.out.trans (b16.mono HT.out.size))
  have Xd0_0 := Lib.hid od0_0
  obtain ⟨gad0_0, gcd0_0, hud0_0⟩ := od0_0.shape
  subst hud0_0
  clear od0_0
  clear b16
  clear zzK0_0 zzK0_1 zzK0_2
  go_wp2_with fail
  refine (toInts  _ y1_0 _ (R1_0.out.below HT.out (Nat.le_refl _))).mono ?_
  rintro e v17 ⟨ud1_0, rfl, od1_0, b17⟩
  have Sw0_0_d1_0 := Lib.hid (sep_of Xw0_0.out.top od1_0.row.lt Xw0_0.out.size)
  have Sw0_1_d1_0 := Lib.hid (sep_of Xw0_1.out.top od1_0.row.lt Xw0_1.out.size)
  have Sg0_0_d1_0 := Lib.hid (sep_of Xg0_0.out.top od1_0.row.lt Xg0_0.out.size)
  have Sg0_1_d1_0 := Lib.hid (sep_of Xg0_1.out.top od1_0.row.lt Xg0_1.out.size)
  have Sd0_0_d1_0 := Lib.hid (sep_of Xd0_0.out.top od1_0.row.lt Xd0_0.out.size)
  have Ld1_0 := Lib.hid HT.out.size
  replace Xw0_0 := Lib.hid (Xw0_0.out.below b17 Xw0_0.out.size)
  replace Xw0_1 := Lib.hid (Xw0_1.out.below b17 Xw0_1.out.size)
  replace Xg0_0 := Lib.hid (Xg0_0.out.below b17 Xg0_0.out.size)
  replace Xg0_1 := Lib.hid (Xg0_1.out.below b17 Xg0_1.out.size)
  replace Xd0_0 := Lib.hid (Xd0_0.out.below b17 Xd0_0.out.size)
  replace K0 := Lib.hid (K0.out.below b17 K0.out.lt)
  replace Kw0 := Lib.hid (Kw0.out.below b17 Kw0.out.lt)
  replace Kx0 := Lib.hid (Kx0.out.below b17 Kx0.out.lt)
  replace Kg0 := Lib.hid (Kg0.out.below b17 Kg0.out.lt)
  replace HT := Lib.hid (HT.out.trans (b17.mono HT.out.size))
  have Xd1_0 := Lib.hid od1_0
  obtain ⟨gad1_0, gcd1_0, hud1_0⟩ := od1_0.shape
  subst hud1_0
  clear od1_0
  clear b17
  go_wp2_with fail
  refine (implStartConfig i0_0 i0_1 _ y0_0 _ y1_0 _ Xd0_0.out.rd Xd1_0.out.rd (HN.out.below HT.out (Nat.le_refl _))).mono ?_
  rintro e v18 ⟨uh0_0, uh0_1, rfl, oh0_0, oh0_1, sh0_0_h0_1, b18⟩
  have Sw0_0_h0_0 := Lib.hid (sep_of Xw0_0.out.top oh0_0.row.lt Xw0_0.out.size)
  have Sw0_1_h0_0 := Lib.hid (sep_of Xw0_1.out.top oh0_0.row.lt Xw0_1.out.size)
  have Sg0_0_h0_0 := Lib.hid (sep_of Xg0_0.out.top oh0_0.row.lt Xg0_0.out.size)
  have Sg0_1_h0_0 := Lib.hid (sep_of Xg0_1.out.top oh0_0.row.lt Xg0_1.out.size)
  have Sd0_0_h0_0 := Lib.hid (sep_of Xd0_0.out.top oh0_0.row.lt Xd0_0.out.size)
  have Sd1_0_h0_0 := Lib.hid (sep_of Xd1_0.out.top oh0_0.row.lt Xd1_0.out.size)
  have Lh0_0 := Lib.hid HT.out.size
  have Sw0_0_h0_1 := Lib.hid (sep_of Xw0_0.out.top oh0_1.row.lt Xw0_0.out.size)
  have Sw0_1_h0_1 := Lib.hid (sep_of Xw0_1.out.top oh0_1.row.lt Xw0_1.out.size)
  have Sg0_0_h0_1 := Lib.hid (sep_of Xg0_0.out.top oh0_1.row.lt Xg0_0.out.size)
  have Sg0_1_h0_1 := Lib.hid (sep_of Xg0_1.out.top oh0_1.row.lt Xg0_1.out.size)
  have Sd0_0_h0_1 := Lib.hid (sep_of Xd0_0.out.top oh0_1.row.lt Xd0_0.out.size)
  have Sd1_0_h0_1 := Lib.hid (sep_of Xd1_0.out.top oh0_1.row.lt Xd1_0.out.size)
  have Lh0_1 := Lib.hid HT.out.size
  replace Xw0_0 := Lib.hid (Xw0_0.out.below b18 Xw0_0.out.size)
  replace Xw0_1 := Lib.hid (Xw0_1.out.below b18 Xw0_1.out.size)
  replace Xg0_0 := Lib.hid (Xg0_0.out.below b18 Xg0_0.out.size)
  replace Xg0_1 := Lib.hid (Xg0_1.out.below b18 Xg0_1.out.size)
  replace Xd0_0 := Lib.hid (Xd0_0.out.below b18 Xd0_0.out.size)
  replace Xd1_0 := Lib.hid (Xd1_0.out.below b18 Xd1_0.out.size)
  replace K0 := Lib.hid (K0.out.below b18 K0.out.lt)
  replace Kw0 := Lib.hid (Kw0.out.below b18 Kw0.out.lt)
  replace Kx0 := Lib.hid (Kx0.out.below b18 Kx0.out.lt)
  replace Kg0 := Lib.hid (Kg0.out.below b18 Kg0.out.lt)
  replace HT := Lib.hid (HT.out.trans (b18.mono HT.out.size))
  have Sh0_0_h0_1 := Lib.hid sh0_0_h0_1
  clear sh0_0_h0_1
  have Xh0_0 := Lib.hid oh0_0
  obtain ⟨gah0_0, gch0_0, huh0_0⟩ := oh0_0.shape
  subst huh0_0
  clear oh0_0
  have Xh0_1 := Lib.hid oh0_1
  obtain ⟨gah0_1, gch0_1, huh0_1⟩ := oh0_1.shape
  subst huh0_1
  clear oh0_1
  clear b18
  have q4 : Below v18.heap.size v18 (v18.alloc (Obj.cells #[.int .i64 0, .slice gah0_0 scL.length gch0_0, .slice gah0_1 (scR i0_0 i0_1 y0_0 y1_0).length gch0_1] 35)) := (Below.refl _ _).alloc (Nat.le_refl _) _
  have Kh0 : Hid (Cels (v18.alloc (Obj.cells #[.int .i64 0, .slice gah0_0 scL.length gch0_0, .slice gah0_1 (scR i0_0 i0_1 y0_0 y1_0).length gch0_1] 35)) v18.heap.size 35 [.int .i64 0, .slice gah0_0 scL.length gch0_0, .slice gah0_1 (scR i0_0 i0_1 y0_0 y1_0).length gch0_1]) := Lib.hid (Cels.new _ _ _)
  replace Xw0_0 := Lib.hid (Xw0_0.out.below q4 Xw0_0.out.size)
  replace Xw0_1 := Lib.hid (Xw0_1.out.below q4 Xw0_1.out.size)
  replace Xg0_0 := Lib.hid (Xg0_0.out.below q4 Xg0_0.out.size)
  replace Xg0_1 := Lib.hid (Xg0_1.out.below q4 Xg0_1.out.size)
  replace Xd0_0 := Lib.hid (Xd0_0.out.below q4 Xd0_0.out.size)
  replace Xd1_0 := Lib.hid (Xd1_0.out.below q4 Xd1_0.out.size)
  replace Xh0_0 := Lib.hid (Xh0_0.out.below q4 Xh0_0.out.size)
  replace Xh0_1 := Lib.hid (Xh0_1.out.below q4 Xh0_1.out.size)
  replace K0 := Lib.hid (K0.out.below q4 K0.out.lt)
  replace Kw0 := Lib.hid (Kw0.out.below q4 Kw0.out.lt)
  replace Kx0 := Lib.hid (Kx0.out.below q4 Kx0.out.lt)
  replace Kg0 := Lib.hid (Kg0.out.below q4 Kg0.out.lt)
  replace HT := Lib.hid (HT.out.trans (q4.mono HT.out.size))
  clear q4
  have zzKh0_0 := Kh0.out.cell 0 rfl
  have zzKh0_1 := Kh0.out.cell 1 rfl
  have zzKh0_2 := Kh0.out.cell 2 rfl
  have zzKw0_0 := Kw0.out.cell 0 rfl
  have zzKw0_1 := Kw0.out.cell 1 rfl
  have zzKw0_2 := Kw0.out.cell 2 rfl
  go_wp2_with fail
  refine (eqConf _ _ _ _ _ _ _ _ Xh0_0.out.rd Xw0_0.out.rd Xh0_1.out.rd Xw0_1.out.rd).mono ?_
  rintro e v19 ⟨rfl, b19⟩
  replace Xw0_0 := Lib.hid (Xw0_0.out.below b19 Xw0_0.out.size)
  replace Xw0_1 := Lib.hid (Xw0_1.out.below b19 Xw0_1.out.size)
  replace Xg0_0 := Lib.hid (Xg0_0.out.below b19 Xg0_0.out.size)
  replace Xg0_1 := Lib.hid (Xg0_1.out.below b19 Xg0_1.out.size)
  replace Xd0_0 := Lib.hid (Xd0_0.out.below b19 Xd0_0.out.size)
  replace Xd1_0 := Lib.hid (Xd1_0.out.below b19 Xd1_0.out.size)
  replace Xh0_0 := Lib.hid (Xh0_0.out.below b19 Xh0_0.out.size)
  replace Xh0_1 := Lib.hid (Xh0_1.out.below b19 Xh0_1.out.size)
  replace K0 := Lib.hid (K0.out.below b19 K0.out.lt)
  replace Kw0 := Lib.hid (Kw0.out.below b19 Kw0.out.lt)
  replace Kx0 := Lib.hid (Kx0.out.below b19 Kx0.out.lt)
  replace Kg0 := Lib.hid (Kg0.out.below b19 Kg0.out.lt)
  replace Kh0 := Lib.hid (Kh0.out.below b19 Kh0.out.lt)
  replace HT := Lib.hid (HT.out.trans (b19.mono HT.out.size))
  clear b19
  clear zzKh0_0 zzKh0_1 zzKh0_2 zzKw0_0 zzKw0_1 zzKw0_2
  have zzKg0_0 := Kg0.out.cell 0 rfl
  have zzKg0_1 := Kg0.out.cell 1 rfl
  have zzKg0_2 := Kg0.out.cell 2 rfl
  go_wp2_with fail
  refine (heldConf _ _ _ _ _ 1 _ Xg0_0.out.rd Xg0_1.out.rd (by omega) (by omega)).mono ?_
  rintro e v20 ⟨rfl, b20⟩
  replace Xw0_0 := Lib.hid (Xw0_0.out.below b20 Xw0_0.out.size)
  replace Xw0_1 := Lib.hid (Xw0_1.out.below b20 Xw0_1.out.size)
  replace Xg0_0 := Lib.hid (Xg0_0.out.below b20 Xg0_0.out.size)
  replace Xg0_1 := Lib.hid (Xg0_1.out.below b20 Xg0_1.out.size)
  replace Xd0_0 := Lib.hid (Xd0_0.out.below b20 Xd0_0.out.size)
  replace Xd1_0 := Lib.hid (Xd1_0.out.below b20 Xd1_0.out.size)
  replace Xh0_0 := Lib.hid (Xh0_0.out.below b20 Xh0_0.out.size)
  replace Xh0_1 := Lib.hid (Xh0_1.out.below b20 Xh0_1.out.size)
  replace K0 := Lib.hid (K0.out.below b20 K0.out.lt)
  replace Kw0 := Lib.hid (Kw0.out.below b20 Kw0.out.lt)
  replace Kx0 := Lib.hid (Kx0.out.below b20 Kx0.out.lt)
  replace Kg0 := Lib.hid (Kg0.out.below b20 Kg0.out.lt)
  replace Kh0 := Lib.hid (Kh0.out.below b20 Kh0.out.lt)
  replace HT := Lib.hid (HT.out.trans (b20.mono HT.out.size))
  clear b20
  go_wp2
  go_ret
  exact ⟨rfl, HB0.out.trans (HT.out.mono HB0.out.size)⟩

set_option maxRecDepth 100000 in
theorem lifted (os : Os) (started : os.Started) (H : Type) (enc : TypeId × Value → H) :
    ReturnsInHanded {} Tryd.checked os 5 .any (fun w args => (Rows.fnExactStartConfigSpec.pre enc Tryd.prog Tryd.f5 [] false w args ∧ laidMetH Tryd.prog Rows.fnExactStartConfigRow.laid w) ∧ sizedMet enc Tryd.prog Tryd.f5 (OpenSpec.ofChange Rows.fnExactStartConfigSpec) false w args) (Rows.fnExactStartConfigSpec.post enc Tryd.prog Tryd.f5 false true false false) := by
  refine returnsInHanded_of_change_and (C := Tryd.checked) (X := fun w _ => laidMetH Tryd.prog Rows.fnExactStartConfigRow.laid w) (fun _ _ _ hh h => h.of_heap hh) own started (by kernel_rfl) Tryd.func5
    (ChangeSpec.witness_shaped (enc := enc) (C := Tryd.checked) (os := os) (X := fun w _ => laidMetH Tryd.prog Rows.fnExactStartConfigRow.laid w) false (World.laidAll Tryd.prog os Rows.fnExactStartConfigRow.laid) #[.agg #[.int .i64 0, .int .i64 0, .slice none 0 0], .slice none 0 0] 8 (World.laidAll_os _ _ _) (World.shaped_of_ZipB (by kernel_rfl) (by kernel_rfl)) (by kernel_rfl) (by kernel_rfl) (by kernel_rfl)
      (by rw [MakeChecks.laidMetH_plain _ _ _ (by kernel_rfl)]; exact laidMet_laidAll _ (by kernel_rfl) (by kernel_rfl))) ?_
  intro W base args ds gs before hval0 hW _ _ hL _
  have hval : ∀ (j : Nat) t v, Tryd.f5.params[j]? = some t → args[j]? = some v → Value.okWide Tryd.prog W .any base t v := hval0
  have hW' := hW
  obtain ⟨p, q, hA0, hV, rfl, hfz, hnd⟩ := hW
  have hA : DataW.TrodAll enc Tryd.prog W 0 (fun _ => true) true Tryd.f5.params.toList args.toList ds p := hA0
  rw [Tryd.params5] at hA hval
  obtain ⟨v0, vs0, d0, ds0, p0, q0, hargs, rfl, rfl, h0, r0⟩ := trodAll_cons hA
  obtain ⟨v1, vs1, d1, ds1, p1, q1, rfl, rfl, rfl, h1, r1⟩ := trodAll_cons r0
  obtain ⟨rfl, rfl, rfl⟩ := trodAll_nil r1
  obtain rfl : args = #[v0, v1] := by cases args; simp_all
  have hV1 : DataW.TrodVars enc Tryd.prog W (fun _ => true) Rows.fnExactStartConfigSpec.vars gs q := hV
  have k0 := h0
  have lt0 : ∀ x ∈ p0, x.block < W.heap.size := by obtain ⟨m, hm⟩ := k0; exact DataW.trod_lt m _ _ _ hm
  obtain ⟨c0_0, c0_1, c0_2, y0_0, y0_1, y0_2, n0, rfl, _, _, t0_0, t0_1, t0_2⟩ := Go.Joins.open_agg3 Tryd.underlying24 (by kernel_rfl) (by kernel_rfl) (hval 0 24 v0 rfl rfl) h0
  obtain ⟨i0_0, e0_0, _, j0_0⟩ := DataW.trod_int Tryd.underlying2 t0_0
  simp only [List.cons.injEq, and_true] at e0_0
  subst e0_0
  obtain ⟨i0_1, e0_1, _, j0_1⟩ := DataW.trod_int Tryd.underlying2 t0_1
  simp only [List.cons.injEq, and_true] at e0_1
  subst e0_1
  obtain ⟨a0_0, len0_0, cap0_0, z0_0, e0_0, w0_0⟩ := open_rules t0_2
  simp only [List.cons.injEq, and_true] at e0_0
  subst e0_0
  have k1 := h1
  have lt1 : ∀ x ∈ p1, x.block < W.heap.size := by obtain ⟨m, hm⟩ := k1; exact DataW.trod_lt m _ _ _ hm
  obtain ⟨a1_0, len1_0, cap1_0, rfl⟩ := okWide_slice Tryd.underlying25 (hval 1 25 v1 rfl rfl)
  obtain ⟨z1_0, w1_0⟩ : ∃ zs, IsList W a1_0 len1_0 cap1_0 zs := by
    obtain ⟨fuel, hf⟩ := h1
    obtain ⟨a', len', cap', z', e', w'⟩ := open_list hf
    simp [Value.cells] at e'
    obtain ⟨rfl, rfl, rfl⟩ := e'
    exact ⟨z', w'⟩
  clear hA0 hval0
  obtain ⟨gv, rfl⟩ : ∃ x, gs = [x] := by
    obtain ⟨_, _, _, _, x, _, rfl, _⟩ := trodVars_one (show DataW.TrodVars enc Tryd.prog W (fun _ => true) ["loop.example/g01079/impl.noRule"] gs q from hV1)
    exact ⟨x, rfl⟩
  refine (walk i0_0 i0_1 a0_0 len0_0 cap0_0 z0_0 a1_0 len1_0 cap1_0 z1_0 W j0_0 j0_1 w0_0 w1_0 (noR_of_laid hL)).mono fun e W' ⟨he, bel⟩ => ?_
  subst he
  exact ⟨_, rfl, _, _, _, [], _, q, hW', trodAll_mk1 (shut_bool Tryd.underlying4 _), (trodAll_cons_mk (Below.trod laidOut (by kernel_rfl) (of_decide_eq_true (by kernel_rfl)) k0 bel lt0) (trodAll_cons_mk (Below.trod laidOut (by kernel_rfl) (of_decide_eq_true (by kernel_rfl)) k1 bel lt1) trodAll_mk0)), bel.trodVars laidOut (by kernel_rfl) hV1, bel.frame _, fun h => by cases h⟩

theorem over : Rows.fnExactStartConfigRow.holds Tryd.pinned (OpenSpec.ofChange Rows.fnExactStartConfigSpec) :=
  OpenClaim.holds_of_wide 5 Tryd.f5 rfl rfl rfl rfl rfl rfl rfl ⟨rfl, rfl, rfl, rfl, rfl⟩ rfl rfl rfl rfl rfl (by kernel_rfl) Tryd.func5 (by kernel_rfl)
    (of_decide_eq_true (by kernel_rfl)) (by unfold Func.isWrapper; first | (rw [if_pos (by decide +kernel)]; kernel_rfl) | (rw [if_neg (by decide +kernel)]; exact ⟨rfl, rfl⟩))
    (fun os started H enc _ => lifted os started H enc)

/-- The statement: the tied card. -/
theorem proved : Rows.FnExactStartConfigCardSaid :=
  Claim7.holds_tied_plain_at .later [] [.data] true (true, "c55629d5258df5787542cb948229df54977e89236064997cf78e3dd7c72c83a1") false over (fun _ h => by cases h) (by kernel_rfl) (fun _ h => by cases h) fnExactStartConfig_row_tie rfl ⟨rfl, rfl⟩ (by kernel_rfl) rfl
    (fun f fn hf hfn => by
      obtain rfl : f = 5 := Option.some.inj ((show Tryd.prog.funcNamed "loop.example/g01079/laws.FnExactStartConfig" = some 5 by kernel_rfl).symm.trans hf) |>.symm
      obtain rfl : fn = Tryd.f5 := (Option.some.inj (Tryd.func5.symm.trans hfn)).symm
      exact ⟨by kernel_rfl, fun j t ht => by
        rw [Tryd.params5] at ht
        have hm : t ∈ [24, 25] := by simpa using Array.mem_of_getElem? ht
        have hall : ([24, 25].all fun u => !Tryd.prog.wantsStandIn u) = true := by kernel_rfl
        exact (show Tryd.prog.wantsStandIn t = false by simpa using List.all_eq_true.1 hall t hm)⟩)
    (by kernel_rfl)
#print axioms proved
end Go.Proofs.YtmgogbcipdjddaaDoor.fnExactStartConfig
