/-   FnExactMirrorMachine: for every machine the program's MirrorMachine answers as its model, machine and code, leaves its argument alone, and its answer is its own; the variable noRule is read as start-up lays it (tied). No condition. -/
import Derived.Test.YtknlpoeolicinadDoorRows
import Derived.Test.YtknlpoeolicinadDoorCards
import Derived.Test.YtknlpoeolicinadDoorTie
import Derived.WalkKit
import Derived.ProofKit
import Derived.OpenShut
import Derived.ShutString
import Derived.ChangeOld
import Derived.Below
import Derived.Lib.SmallJoins
import Derived.Deep.Strs
import Derived.OpenVars
import Derived.LaidMore
import Derived.Lay
import Derived.LaidOnce
import Derived.SevenTiedAt
import Derived.Stop.Joined
import Derived.Handy
import Derived.Lib.Hide
import Derived.Deep.RegionHeld3
import Derived.Test.YtknlpoeolicinadDoorMark
import Derived.Test.YtknlpoeolicinadDoorHeld
import Derived.Test.YtknlpoeolicinadDoorMirD
namespace Go.Proofs.YtknlpoeolicinadDoor.fnExactMirrorMachine
open Go.ChangeShapes Go.WideShapes Go.ChangeAt Go.RowKit
set_option linter.unusedVariables false
set_option linter.unusedSimpArgs false

theorem own : ownKnob Tryd.prog.godebug = none := by kernel_rfl
theorem laidOut : laidOutB Tryd.prog = true := by kernel_rfl
open Ints

set_option maxHeartbeats 8000000 in
theorem walk (i0_0 : Int) (i0_1 : Int) (a0_0 : Option Addr) (len0_0 cap0_0 : Nat) (z0_0 : List Ru) (w : World) (j0_0 : (Lit.int .i64 i0_0).wf = true) (j0_1 : (Lit.int .i64 i0_1).wf = true) (w0_0 : IsRules w a0_0 len0_0 cap0_0 z0_0) (hnr : NoR w) :
    Calls Tryd.prog 9 #[.agg #[.int .i64 i0_0, .int .i64 i0_1, .slice a0_0 len0_0 cap0_0]] w fun e w' => e = .returned (.bool true) ∧ Below w.heap.size w w' := by
  have hz0_0 := w0_0.le
  obtain ⟨l0_0, hl0_0⟩ : ∃ l : Int, l = 1048576 - (len0_0 : Int) := ⟨_, rfl⟩
  by_cases hn0_0 : 0 ≤ l0_0
  rotate_left
  · have hm0_0 : l0_0 < 0 := by omega
    obtain ⟨W0, hW0⟩ : ∃ x, x = (w.alloc (Obj.cells #[.int .i64 i0_0, .int .i64 i0_1, .slice a0_0 len0_0 cap0_0] 24)) := ⟨_, rfl⟩
    have HB0 : Hid (Below w.heap.size w W0) := Lib.hid (by rw [hW0]; exact ((Below.refl w.heap.size w).alloc (Nat.le_refl _) _))
    have K0 : Hid (Cels W0 (w.heap.size) 24 [.int .i64 i0_0, .int .i64 i0_1, .slice a0_0 len0_0 cap0_0]) := Lib.hid (by rw [hW0]; have h := (Cels.new w 24 [.int .i64 i0_0, .int .i64 i0_1, .slice a0_0 len0_0 cap0_0]); first | exact h | (simp only [World.size_alloc] at h; exact h))
    have AK0 : Hid (w.heap.size < W0.heap.size) := Lib.hid K0.out.lt
    have HW0 := Lib.hid hW0.symm
    clear hW0
    have HL0_0 := Lib.hid hl0_0
    clear hl0_0
    go_enter Tryd.func9, Tryd.ntmps9
    go_wp2_with fail
    rw [HW0.out]
    have HT : Hid (Below W0.heap.size W0 W0) := Lib.hid (Below.refl _ _)
    refine (szMach_bad0 i0_0 i0_1 _ _ _ _ (by have := HL0_0.out; omega) HL0_0.out hm0_0 hz0_0).mono ?_
    rintro e vz0 ⟨rfl, bz⟩
    replace HT := Lib.hid (HT.out.trans (bz.mono HT.out.size))
    clear bz
    go_wp2
    go_ret
    exact ⟨rfl, HB0.out.trans (HT.out.mono HB0.out.size)⟩
  have hm0_0 : ¬ l0_0 < 0 := by omega
  obtain ⟨y0_0, hy0_0⟩ : ∃ y, y = z0_0.take len0_0 := ⟨_, rfl⟩
  have R0_0 : Hid (RdR w (.slice a0_0 len0_0 cap0_0) y0_0) := Lib.hid (by rw [hy0_0]; exact rdr_of_row w0_0 (by omega))
  clear hy0_0 w0_0
  obtain ⟨W0, hW0⟩ : ∃ x, x = (w.alloc (Obj.cells #[.int .i64 i0_0, .int .i64 i0_1, .slice a0_0 len0_0 cap0_0] 24)) := ⟨_, rfl⟩
  have HB0 : Hid (Below w.heap.size w W0) := Lib.hid (by rw [hW0]; exact ((Below.refl w.heap.size w).alloc (Nat.le_refl _) _))
  have K0 : Hid (Cels W0 (w.heap.size) 24 [.int .i64 i0_0, .int .i64 i0_1, .slice a0_0 len0_0 cap0_0]) := Lib.hid (by rw [hW0]; have h := (Cels.new w 24 [.int .i64 i0_0, .int .i64 i0_1, .slice a0_0 len0_0 cap0_0]); first | exact h | (simp only [World.size_alloc] at h; exact h))
  have AK0 : Hid (w.heap.size < W0.heap.size) := Lib.hid K0.out.lt
  have HW0 := Lib.hid hW0.symm
  clear hW0
  have HL0_0 := Lib.hid hl0_0
  clear hl0_0
  replace R0_0 := Lib.hid (R0_0.out.below HB0.out (Nat.le_refl _))
  have HN := Lib.hid (hnr.below HB0.out (Nat.le_refl _))
  clear hnr
  go_enter Tryd.func9, Tryd.ntmps9
  go_wp2_with fail
  rw [HW0.out]
  have HT : Hid (Below W0.heap.size W0 W0) := Lib.hid (Below.refl _ _)
  refine (szMach i0_0 i0_1 _ _ _ _ (by have := HL0_0.out; omega) HL0_0.out hn0_0 hz0_0).mono ?_
  rintro e vz0 ⟨rfl, bz⟩
  replace K0 := Lib.hid (K0.out.below bz K0.out.lt)
  replace HT := Lib.hid (HT.out.trans (bz.mono HT.out.size))
  clear bz
  clear HL0_0 hn0_0 hz0_0
  have zzK0_0 := K0.out.cell 0 rfl
  have zzK0_1 := K0.out.cell 1 rfl
  have zzK0_2 := K0.out.cell 2 rfl
  go_wp2_with fail
  refine (toMach i0_0 i0_1 _ y0_0 _ (R0_0.out.below HT.out (Nat.le_refl _))).mono ?_
  rintro e v1 ⟨us0_0, rfl, os0_0, b1⟩
  have Ls0_0 := Lib.hid HT.out.size
  replace K0 := Lib.hid (K0.out.below b1 K0.out.lt)
  replace HT := Lib.hid (HT.out.trans (b1.mono HT.out.size))
  have Xs0_0 := Lib.hid os0_0
  obtain ⟨gas0_0, gcs0_0, hus0_0⟩ := os0_0.shape
  subst hus0_0
  clear os0_0
  clear b1
  clear zzK0_0 zzK0_1 zzK0_2
  go_wp2_with fail
  refine (specMirrorMachine i0_0 i0_1 _ y0_0 _ Xs0_0.out.rd).mono ?_
  rintro e v2 ⟨uw0_0, rfl, ow0_0, b2⟩
  have Ss0_0_w0_0 := Lib.hid (sep_of Xs0_0.out.top ow0_0.row.lt Xs0_0.out.size)
  have Lw0_0 := Lib.hid HT.out.size
  replace Xs0_0 := Lib.hid (Xs0_0.out.below b2 Xs0_0.out.size)
  replace K0 := Lib.hid (K0.out.below b2 K0.out.lt)
  replace HT := Lib.hid (HT.out.trans (b2.mono HT.out.size))
  have Xw0_0 := Lib.hid ow0_0
  obtain ⟨gaw0_0, gcw0_0, huw0_0⟩ := ow0_0.shape
  subst huw0_0
  clear ow0_0
  clear b2
  clear Xs0_0
  have q1 : Below v2.heap.size v2 (v2.alloc (Obj.cells #[.int .i64 (mmI i0_0 i0_1 y0_0 i0_0), .int .i64 (mmI i0_0 i0_1 y0_0 i0_1), .slice gaw0_0 (mmR i0_0 i0_1 y0_0).length gcw0_0] 29)) := (Below.refl _ _).alloc (Nat.le_refl _) _
  have Kw0 : Hid (Cels (v2.alloc (Obj.cells #[.int .i64 (mmI i0_0 i0_1 y0_0 i0_0), .int .i64 (mmI i0_0 i0_1 y0_0 i0_1), .slice gaw0_0 (mmR i0_0 i0_1 y0_0).length gcw0_0] 29)) v2.heap.size 29 [.int .i64 (mmI i0_0 i0_1 y0_0 i0_0), .int .i64 (mmI i0_0 i0_1 y0_0 i0_1), .slice gaw0_0 (mmR i0_0 i0_1 y0_0).length gcw0_0]) := Lib.hid (Cels.new _ _ _)
  have NKw0_w0_0 := Lib.hid (fun q (hq : _ = some q) => Nat.lt_of_lt_of_le (Xw0_0.out.top q hq) Xw0_0.out.size)
  replace Xw0_0 := Lib.hid (Xw0_0.out.below q1 Xw0_0.out.size)
  replace K0 := Lib.hid (K0.out.below q1 K0.out.lt)
  replace HT := Lib.hid (HT.out.trans (q1.mono HT.out.size))
  clear q1
  have zzK0_0 := K0.out.cell 0 rfl
  have zzK0_1 := K0.out.cell 1 rfl
  have zzK0_2 := K0.out.cell 2 rfl
  go_wp2_with fail
  refine (toMach i0_0 i0_1 _ y0_0 _ (R0_0.out.below HT.out (Nat.le_refl _))).mono ?_
  rintro e v3 ⟨ux0_0, rfl, ox0_0, b3⟩
  have Sw0_0_x0_0 := Lib.hid (sep_of Xw0_0.out.top ox0_0.row.lt Xw0_0.out.size)
  have NKw0_x0_0 := Lib.hid (fun q (hq : _ = some q) => Nat.lt_of_lt_of_le Kw0.out.lt (ox0_0.row.lt q hq).1)
  have Lx0_0 := Lib.hid HT.out.size
  replace Xw0_0 := Lib.hid (Xw0_0.out.below b3 Xw0_0.out.size)
  replace K0 := Lib.hid (K0.out.below b3 K0.out.lt)
  replace Kw0 := Lib.hid (Kw0.out.below b3 Kw0.out.lt)
  replace HT := Lib.hid (HT.out.trans (b3.mono HT.out.size))
  have Xx0_0 := Lib.hid ox0_0
  obtain ⟨gax0_0, gcx0_0, hux0_0⟩ := ox0_0.shape
  subst hux0_0
  clear ox0_0
  clear b3
  have q2 : Below v3.heap.size v3 (v3.alloc (Obj.cells #[.int .i64 i0_0, .int .i64 i0_1, .slice gax0_0 y0_0.length gcx0_0] 29)) := (Below.refl _ _).alloc (Nat.le_refl _) _
  have Kx0 : Hid (Cels (v3.alloc (Obj.cells #[.int .i64 i0_0, .int .i64 i0_1, .slice gax0_0 y0_0.length gcx0_0] 29)) v3.heap.size 29 [.int .i64 i0_0, .int .i64 i0_1, .slice gax0_0 y0_0.length gcx0_0]) := Lib.hid (Cels.new _ _ _)
  have NKx0_w0_0 := Lib.hid (fun q (hq : _ = some q) => Nat.lt_of_lt_of_le (Xw0_0.out.top q hq) Xw0_0.out.size)
  have NKx0_x0_0 := Lib.hid (fun q (hq : _ = some q) => Nat.lt_of_lt_of_le (Xx0_0.out.top q hq) Xx0_0.out.size)
  replace Xw0_0 := Lib.hid (Xw0_0.out.below q2 Xw0_0.out.size)
  replace Xx0_0 := Lib.hid (Xx0_0.out.below q2 Xx0_0.out.size)
  replace K0 := Lib.hid (K0.out.below q2 K0.out.lt)
  replace Kw0 := Lib.hid (Kw0.out.below q2 Kw0.out.lt)
  replace HT := Lib.hid (HT.out.trans (q2.mono HT.out.size))
  clear q2
  clear zzK0_0 zzK0_1 zzK0_2
  have zzKx0_0 := Kx0.out.cell 0 rfl
  have zzKx0_1 := Kx0.out.cell 1 rfl
  have zzKx0_2 := Kx0.out.cell 2 rfl
  go_wp2_with fail
  refine (implMirrorMachine i0_0 i0_1 _ y0_0 _ Xx0_0.out.rd (HN.out.below HT.out (Nat.le_refl _))).mono ?_
  rintro e v4 ⟨ug0_0, rfl, og0_0, b4⟩
  have Sw0_0_g0_0 := Lib.hid (sep_of Xw0_0.out.top og0_0.row.lt Xw0_0.out.size)
  have Sx0_0_g0_0 := Lib.hid (sep_of Xx0_0.out.top og0_0.row.lt Xx0_0.out.size)
  have NKw0_g0_0 := Lib.hid (fun q (hq : _ = some q) => Nat.lt_of_lt_of_le Kw0.out.lt (og0_0.row.lt q hq).1)
  have NKx0_g0_0 := Lib.hid (fun q (hq : _ = some q) => Nat.lt_of_lt_of_le Kx0.out.lt (og0_0.row.lt q hq).1)
  have Lg0_0 := Lib.hid HT.out.size
  replace Xw0_0 := Lib.hid (Xw0_0.out.below b4 Xw0_0.out.size)
  replace Xx0_0 := Lib.hid (Xx0_0.out.below b4 Xx0_0.out.size)
  replace K0 := Lib.hid (K0.out.below b4 K0.out.lt)
  replace Kw0 := Lib.hid (Kw0.out.below b4 Kw0.out.lt)
  replace Kx0 := Lib.hid (Kx0.out.below b4 Kx0.out.lt)
  replace HT := Lib.hid (HT.out.trans (b4.mono HT.out.size))
  have Xg0_0 := Lib.hid og0_0
  obtain ⟨gag0_0, gcg0_0, hug0_0⟩ := og0_0.shape
  subst hug0_0
  clear og0_0
  clear b4
  have q3 : Below v4.heap.size v4 (v4.alloc (Obj.cells #[.int .i64 (mmI i0_0 i0_1 y0_0 i0_0), .int .i64 (mmI i0_0 i0_1 y0_0 i0_1), .slice gag0_0 (mmR i0_0 i0_1 y0_0).length gcg0_0] 29)) := (Below.refl _ _).alloc (Nat.le_refl _) _
  have Kg0 : Hid (Cels (v4.alloc (Obj.cells #[.int .i64 (mmI i0_0 i0_1 y0_0 i0_0), .int .i64 (mmI i0_0 i0_1 y0_0 i0_1), .slice gag0_0 (mmR i0_0 i0_1 y0_0).length gcg0_0] 29)) v4.heap.size 29 [.int .i64 (mmI i0_0 i0_1 y0_0 i0_0), .int .i64 (mmI i0_0 i0_1 y0_0 i0_1), .slice gag0_0 (mmR i0_0 i0_1 y0_0).length gcg0_0]) := Lib.hid (Cels.new _ _ _)
  have NKg0_w0_0 := Lib.hid (fun q (hq : _ = some q) => Nat.lt_of_lt_of_le (Xw0_0.out.top q hq) Xw0_0.out.size)
  have NKg0_x0_0 := Lib.hid (fun q (hq : _ = some q) => Nat.lt_of_lt_of_le (Xx0_0.out.top q hq) Xx0_0.out.size)
  have NKg0_g0_0 := Lib.hid (fun q (hq : _ = some q) => Nat.lt_of_lt_of_le (Xg0_0.out.top q hq) Xg0_0.out.size)
  replace Xw0_0 := Lib.hid (Xw0_0.out.below q3 Xw0_0.out.size)
  replace Xx0_0 := Lib.hid (Xx0_0.out.below q3 Xx0_0.out.size)
  replace Xg0_0 := Lib.hid (Xg0_0.out.below q3 Xg0_0.out.size)
  replace K0 := Lib.hid (K0.out.below q3 K0.out.lt)
  replace Kw0 := Lib.hid (Kw0.out.below q3 Kw0.out.lt)
  replace Kx0 := Lib.hid (Kx0.out.below q3 Kx0.out.lt)
  replace HT := Lib.hid (HT.out.trans (q3.mono HT.out.size))
  clear q3
  clear zzKx0_0 zzKx0_1 zzKx0_2
  have zzKg0_0 := Kg0.out.cell 0 rfl
  have zzKg0_1 := Kg0.out.cell 1 rfl
  have zzKg0_2 := Kg0.out.cell 2 rfl
  have zzKw0_0 := Kw0.out.cell 0 rfl
  have zzKw0_1 := Kw0.out.cell 1 rfl
  have zzKw0_2 := Kw0.out.cell 2 rfl
  go_wp2_with fail
  refine (eqMach _ _ _ _ _ _ Xg0_0.out.rd Xw0_0.out.rd).mono ?_
  rintro e v5 ⟨rfl, b5⟩
  replace Xw0_0 := Lib.hid (Xw0_0.out.below b5 Xw0_0.out.size)
  replace Xx0_0 := Lib.hid (Xx0_0.out.below b5 Xx0_0.out.size)
  replace Xg0_0 := Lib.hid (Xg0_0.out.below b5 Xg0_0.out.size)
  replace K0 := Lib.hid (K0.out.below b5 K0.out.lt)
  replace Kw0 := Lib.hid (Kw0.out.below b5 Kw0.out.lt)
  replace Kx0 := Lib.hid (Kx0.out.below b5 Kx0.out.lt)
  replace Kg0 := Lib.hid (Kg0.out.below b5 Kg0.out.lt)
  replace HT := Lib.hid (HT.out.trans (b5.mono HT.out.size))
  clear b5
  clear zzKg0_0 zzKg0_1 zzKg0_2 zzKw0_0 zzKw0_1 zzKw0_2
  go_wp2_with fail
  have HS6 : Hid (∀ W', Below v5.heap.size v5 W' → W'.cell? ⟨v3.heap.size, 0, none⟩ = some (.int .i64 i0_0) ∧ W'.cell? ⟨v3.heap.size, 1, none⟩ = some (.int .i64 i0_1) ∧ W'.cell? ⟨v3.heap.size, 2, none⟩ = some (.slice gax0_0 y0_0.length gcx0_0) ∧ W'.cell? ⟨w.heap.size, 0, none⟩ = some (.int .i64 i0_0) ∧ W'.cell? ⟨w.heap.size, 1, none⟩ = some (.int .i64 i0_1) ∧ W'.cell? ⟨w.heap.size, 2, none⟩ = some (.slice a0_0 len0_0 cap0_0)) := Lib.hid (fun W' hW' => ⟨(Kx0.out.below hW' Kx0.out.lt).cell 0 rfl, (Kx0.out.below hW' Kx0.out.lt).cell 1 rfl, (Kx0.out.below hW' Kx0.out.lt).cell 2 rfl, (K0.out.below hW' K0.out.lt).cell 0 rfl, (K0.out.below hW' K0.out.lt).cell 1 rfl, (K0.out.below hW' K0.out.lt).cell 2 rfl⟩)
  have bd : Below v5.heap.size v5 v5.drew := (Below.refl _ _).drew
  have HD := Lib.hid bd
  replace Xw0_0 := Lib.hid (Xw0_0.out.below bd Xw0_0.out.size)
  replace Xx0_0 := Lib.hid (Xx0_0.out.below bd Xx0_0.out.size)
  replace Xg0_0 := Lib.hid (Xg0_0.out.below bd Xg0_0.out.size)
  replace K0 := Lib.hid (K0.out.below bd K0.out.lt)
  replace Kw0 := Lib.hid (Kw0.out.below bd Kw0.out.lt)
  replace Kx0 := Lib.hid (Kx0.out.below bd Kx0.out.lt)
  replace Kg0 := Lib.hid (Kg0.out.below bd Kg0.out.lt)
  replace HT := Lib.hid (HT.out.trans (bd.mono HT.out.size))
  clear bd
  go_region_held3 (fun w' => w'.cell? ⟨v3.heap.size, 0, none⟩ = some (.int .i64 i0_0) ∧ w'.cell? ⟨v3.heap.size, 1, none⟩ = some (.int .i64 i0_1) ∧ w'.cell? ⟨v3.heap.size, 2, none⟩ = some (.slice gax0_0 y0_0.length gcx0_0) ∧ w'.cell? ⟨w.heap.size, 0, none⟩ = some (.int .i64 i0_0) ∧ w'.cell? ⟨w.heap.size, 1, none⟩ = some (.int .i64 i0_1) ∧ w'.cell? ⟨w.heap.size, 2, none⟩ = some (.slice a0_0 len0_0 cap0_0)) (exact HS6.out _ HD.out) (first | (go_at_call 16; with_reducible refine (toMach i0_0 i0_1 _ y0_0 _ (R0_0.out.below HT.out (Nat.le_refl _))).mono ?_; rintro e w6 ⟨uc0_0, rfl, oc0_0, bq⟩; replace HD := Lib.hid (HD.out.trans (bq.mono HD.out.size)); have Sw0_0_c0_0 := Lib.hid (sep_of Xw0_0.out.top oc0_0.row.lt Xw0_0.out.size); have Sx0_0_c0_0 := Lib.hid (sep_of Xx0_0.out.top oc0_0.row.lt Xx0_0.out.size); have Sg0_0_c0_0 := Lib.hid (sep_of Xg0_0.out.top oc0_0.row.lt Xg0_0.out.size); have NKw0_c0_0 := Lib.hid (fun q (hq : _ = some q) => Nat.lt_of_lt_of_le Kw0.out.lt (oc0_0.row.lt q hq).1); have NKx0_c0_0 := Lib.hid (fun q (hq : _ = some q) => Nat.lt_of_lt_of_le Kx0.out.lt (oc0_0.row.lt q hq).1); have NKg0_c0_0 := Lib.hid (fun q (hq : _ = some q) => Nat.lt_of_lt_of_le Kg0.out.lt (oc0_0.row.lt q hq).1); have Lc0_0 := Lib.hid HT.out.size; replace Xw0_0 := Lib.hid (Xw0_0.out.below bq Xw0_0.out.size); replace Xx0_0 := Lib.hid (Xx0_0.out.below bq Xx0_0.out.size); replace Xg0_0 := Lib.hid (Xg0_0.out.below bq Xg0_0.out.size); replace K0 := Lib.hid (K0.out.below bq K0.out.lt); replace Kw0 := Lib.hid (Kw0.out.below bq Kw0.out.lt); replace Kx0 := Lib.hid (Kx0.out.below bq Kx0.out.lt); replace Kg0 := Lib.hid (Kg0.out.below bq Kg0.out.lt); replace HT := Lib.hid (HT.out.trans (bq.mono HT.out.size)); have Xc0_0 := Lib.hid oc0_0; obtain ⟨gac0_0, gcc0_0, huc0_0⟩ := oc0_0.shape; subst huc0_0; clear oc0_0; clear bq) | (go_at_call 18; with_reducible refine (eqMach _ _ _ _ _ _ Xx0_0.out.rd Xc0_0.out.rd).mono ?_; rintro e w6 ⟨rfl, bq⟩; replace HD := Lib.hid (HD.out.trans (bq.mono HD.out.size)); replace Xw0_0 := Lib.hid (Xw0_0.out.below bq Xw0_0.out.size); replace Xx0_0 := Lib.hid (Xx0_0.out.below bq Xx0_0.out.size); replace Xg0_0 := Lib.hid (Xg0_0.out.below bq Xg0_0.out.size); replace Xc0_0 := Lib.hid (Xc0_0.out.below bq Xc0_0.out.size); replace K0 := Lib.hid (K0.out.below bq K0.out.lt); replace Kw0 := Lib.hid (Kw0.out.below bq Kw0.out.lt); replace Kx0 := Lib.hid (Kx0.out.below bq Kx0.out.lt); replace Kg0 := Lib.hid (Kg0.out.below bq Kg0.out.lt); replace HT := Lib.hid (HT.out.trans (bq.mono HT.out.size)); clear bq))
  clear Xc0_0
  have zzKx0_0 := Kx0.out.cell 0 rfl
  have zzKx0_1 := Kx0.out.cell 1 rfl
  have zzKx0_2 := Kx0.out.cell 2 rfl
  go_wp2_with fail
  refine (markMach _ _ _ _ (1) _ _ _ Xx0_0.out (by have r0_0 := R0_0.out.len; omega) (by have r0_0 := R0_0.out.len; omega)).mono ?_
  rintro e v7 ⟨rfl, o7, g7⟩
  replace Xw0_0 := Lib.hid (Xw0_0.out.grown g7 Sw0_0_x0_0.out.1)
  replace Xg0_0 := Lib.hid (Xg0_0.out.grown g7 Sx0_0_g0_0.out.2)
  replace K0 := Lib.hid (K0.out.grown g7 (fun e => by have := (Xx0_0.out.row.lt _ e).1; have := Lx0_0.out; have := AK0.out; omega))
  replace Kw0 := Lib.hid (Kw0.out.grown g7 (fun e => Nat.lt_irrefl _ (NKw0_x0_0.out _ e)))
  replace Kx0 := Lib.hid (Kx0.out.grown g7 (fun e => Nat.lt_irrefl _ (NKx0_x0_0.out _ e)))
  replace Kg0 := Lib.hid (Kg0.out.grown g7 (fun e => Nat.lt_irrefl _ (NKg0_x0_0.out _ e)))
  replace HT := Lib.hid (HT.out.trans ((Xx0_0.out.gb g7).mono Lx0_0.out))
  replace Xx0_0 := Lib.hid o7
  clear o7 g7
  clear zzKx0_0 zzKx0_1 zzKx0_2
  have zzKg0_0 := Kg0.out.cell 0 rfl
  have zzKg0_1 := Kg0.out.cell 1 rfl
  have zzKg0_2 := Kg0.out.cell 2 rfl
  have zzKw0_0 := Kw0.out.cell 0 rfl
  have zzKw0_1 := Kw0.out.cell 1 rfl
  have zzKw0_2 := Kw0.out.cell 2 rfl
  go_wp2_with fail
  refine (eqMach _ _ _ _ _ _ Xg0_0.out.rd Xw0_0.out.rd).mono ?_
  rintro e v8 ⟨rfl, b8⟩
  replace Xw0_0 := Lib.hid (Xw0_0.out.below b8 Xw0_0.out.size)
  replace Xx0_0 := Lib.hid (Xx0_0.out.below b8 Xx0_0.out.size)
  replace Xg0_0 := Lib.hid (Xg0_0.out.below b8 Xg0_0.out.size)
  replace K0 := Lib.hid (K0.out.below b8 K0.out.lt)
  replace Kw0 := Lib.hid (Kw0.out.below b8 Kw0.out.lt)
  replace Kx0 := Lib.hid (Kx0.out.below b8 Kx0.out.lt)
  replace Kg0 := Lib.hid (Kg0.out.below b8 Kg0.out.lt)
  replace HT := Lib.hid (HT.out.trans (b8.mono HT.out.size))
  clear b8
  clear Xx0_0
  have N0_0 := Xg0_0.out.len
  clear zzKg0_0 zzKg0_1 zzKg0_2 zzKw0_0 zzKw0_1 zzKw0_2
  have zzKg0_0 := Kg0.out.cell 0 rfl
  have zzKg0_1 := Kg0.out.cell 1 rfl
  have zzKg0_2 := Kg0.out.cell 2 rfl
  go_wp2_with fail
  refine (markMach _ _ _ _ 1 _ _ _ Xg0_0.out (by omega) (by omega)).mono ?_
  rintro e v9 ⟨rfl, o9, g9⟩
  replace Xw0_0 := Lib.hid (Xw0_0.out.grown g9 Sw0_0_g0_0.out.1)
  replace K0 := Lib.hid (K0.out.grown g9 (fun e => by have := (Xg0_0.out.row.lt _ e).1; have := Lg0_0.out; have := AK0.out; omega))
  replace Kw0 := Lib.hid (Kw0.out.grown g9 (fun e => Nat.lt_irrefl _ (NKw0_g0_0.out _ e)))
  replace Kx0 := Lib.hid (Kx0.out.grown g9 (fun e => Nat.lt_irrefl _ (NKx0_g0_0.out _ e)))
  replace Kg0 := Lib.hid (Kg0.out.grown g9 (fun e => Nat.lt_irrefl _ (NKg0_g0_0.out _ e)))
  replace HT := Lib.hid (HT.out.trans ((Xg0_0.out.gb g9).mono Lg0_0.out))
  replace Xg0_0 := Lib.hid o9
  clear o9 g9
  clear zzKg0_0 zzKg0_1 zzKg0_2
  have zzKg0_0 := Kg0.out.cell 0 rfl
  have zzKg0_1 := Kg0.out.cell 1 rfl
  have zzKg0_2 := Kg0.out.cell 2 rfl
  go_wp2_with fail
  refine (heldMach _ _ _ _ 1 _ Xg0_0.out.rd (by omega) (by omega) (by omega)).mono ?_
  rintro e v10 ⟨rfl, b10⟩
  replace Xw0_0 := Lib.hid (Xw0_0.out.below b10 Xw0_0.out.size)
  replace Xg0_0 := Lib.hid (Xg0_0.out.below b10 Xg0_0.out.size)
  replace K0 := Lib.hid (K0.out.below b10 K0.out.lt)
  replace Kw0 := Lib.hid (Kw0.out.below b10 Kw0.out.lt)
  replace Kx0 := Lib.hid (Kx0.out.below b10 Kx0.out.lt)
  replace Kg0 := Lib.hid (Kg0.out.below b10 Kg0.out.lt)
  replace HT := Lib.hid (HT.out.trans (b10.mono HT.out.size))
  clear b10
  clear zzKg0_0 zzKg0_1 zzKg0_2
  have zzK0_0 := K0.out.cell 0 rfl
  have zzK0_1 := K0.out.cell 1 rfl
  have zzK0_2 := K0.out.cell 2 rfl
  go_wp2_with fail
  refine (toMach i0_0 i0_1 _ y0_0 _ (R0_0.out.below HT.out (Nat.le_refl _))).mono ?_
  rintro e v11 ⟨ud0_0, rfl, od0_0, b11⟩
  have Sw0_0_d0_0 := Lib.hid (sep_of Xw0_0.out.top od0_0.row.lt Xw0_0.out.size)
  have Sg0_0_d0_0 := Lib.hid (sep_of Xg0_0.out.top od0_0.row.lt Xg0_0.out.size)
  have NKw0_d0_0 := Lib.hid (fun q (hq : _ = some q) => Nat.lt_of_lt_of_le Kw0.out.lt (od0_0.row.lt q hq).1)
  have NKx0_d0_0 := Lib.hid (fun q (hq : _ = some q) => Nat.lt_of_lt_of_le Kx0.out.lt (od0_0.row.lt q hq).1)
  have NKg0_d0_0 := Lib.hid (fun q (hq : _ = some q) => Nat.lt_of_lt_of_le Kg0.out.lt (od0_0.row.lt q hq).1)
  have Ld0_0 := Lib.hid HT.out.size
  replace Xw0_0 := Lib.hid (Xw0_0.out.below b11 Xw0_0.out.size)
  replace Xg0_0 := Lib.hid (Xg0_0.out.below b11 Xg0_0.out.size)
  replace K0 := Lib.hid (K0.out.below b11 K0.out.lt)
  replace Kw0 := Lib.hid (Kw0.out.below b11 Kw0.out.lt)
  replace Kx0 := Lib.hid (Kx0.out.below b11 Kx0.out.lt)
  replace Kg0 := Lib.hid (Kg0.out.below b11 Kg0.out.lt)
  replace HT := Lib.hid (HT.out.trans (b11.mono HT.out.size))
  have Xd0_0 := Lib.hid od0_0
  obtain ⟨gad0_0, gcd0_0, hud0_0⟩ := od0_0.shape
  subst hud0_0
  clear od0_0
  clear b11
  clear zzK0_0 zzK0_1 zzK0_2
  go_wp2_with fail
  refine (implMirrorMachine i0_0 i0_1 _ y0_0 _ Xd0_0.out.rd (HN.out.below HT.out (Nat.le_refl _))).mono ?_
  rintro e v12 ⟨uh0_0, rfl, oh0_0, b12⟩
  have Sw0_0_h0_0 := Lib.hid (sep_of Xw0_0.out.top oh0_0.row.lt Xw0_0.out.size)
  have Sg0_0_h0_0 := Lib.hid (sep_of Xg0_0.out.top oh0_0.row.lt Xg0_0.out.size)
  have Sd0_0_h0_0 := Lib.hid (sep_of Xd0_0.out.top oh0_0.row.lt Xd0_0.out.size)
  have NKw0_h0_0 := Lib.hid (fun q (hq : _ = some q) => Nat.lt_of_lt_of_le Kw0.out.lt (oh0_0.row.lt q hq).1)
  have NKx0_h0_0 := Lib.hid (fun q (hq : _ = some q) => Nat.lt_of_lt_of_le Kx0.out.lt (oh0_0.row.lt q hq).1)
  have NKg0_h0_0 := Lib.hid (fun q (hq : _ = some q) => Nat.lt_of_lt_of_le Kg0.out.lt (oh0_0.row.lt q hq).1)
  have Lh0_0 := Lib.hid HT.out.size
  replace Xw0_0 := Lib.hid (Xw0_0.out.below b12 Xw0_0.out.size)
  replace Xg0_0 := Lib.hid (Xg0_0.out.below b12 Xg0_0.out.size)
  replace Xd0_0 := Lib.hid (Xd0_0.out.below b12 Xd0_0.out.size)
  replace K0 := Lib.hid (K0.out.below b12 K0.out.lt)
  replace Kw0 := Lib.hid (Kw0.out.below b12 Kw0.out.lt)
  replace Kx0 := Lib.hid (Kx0.out.below b12 Kx0.out.lt)
  replace Kg0 := Lib.hid (Kg0.out.below b12 Kg0.out.lt)
  replace HT := Lib.hid (HT.out.trans (b12.mono HT.out.size))
  have Xh0_0 := Lib.hid oh0_0
  obtain ⟨gah0_0, gch0_0, huh0_0⟩ := oh0_0.shape
  subst huh0_0
  clear oh0_0
  clear b12
  have q4 : Below v12.heap.size v12 (v12.alloc (Obj.cells #[.int .i64 (mmI i0_0 i0_1 y0_0 i0_0), .int .i64 (mmI i0_0 i0_1 y0_0 i0_1), .slice gah0_0 (mmR i0_0 i0_1 y0_0).length gch0_0] 29)) := (Below.refl _ _).alloc (Nat.le_refl _) _
  have Kh0 : Hid (Cels (v12.alloc (Obj.cells #[.int .i64 (mmI i0_0 i0_1 y0_0 i0_0), .int .i64 (mmI i0_0 i0_1 y0_0 i0_1), .slice gah0_0 (mmR i0_0 i0_1 y0_0).length gch0_0] 29)) v12.heap.size 29 [.int .i64 (mmI i0_0 i0_1 y0_0 i0_0), .int .i64 (mmI i0_0 i0_1 y0_0 i0_1), .slice gah0_0 (mmR i0_0 i0_1 y0_0).length gch0_0]) := Lib.hid (Cels.new _ _ _)
  have NKh0_w0_0 := Lib.hid (fun q (hq : _ = some q) => Nat.lt_of_lt_of_le (Xw0_0.out.top q hq) Xw0_0.out.size)
  have NKh0_g0_0 := Lib.hid (fun q (hq : _ = some q) => Nat.lt_of_lt_of_le (Xg0_0.out.top q hq) Xg0_0.out.size)
  have NKh0_d0_0 := Lib.hid (fun q (hq : _ = some q) => Nat.lt_of_lt_of_le (Xd0_0.out.top q hq) Xd0_0.out.size)
  have NKh0_h0_0 := Lib.hid (fun q (hq : _ = some q) => Nat.lt_of_lt_of_le (Xh0_0.out.top q hq) Xh0_0.out.size)
  replace Xw0_0 := Lib.hid (Xw0_0.out.below q4 Xw0_0.out.size)
  replace Xg0_0 := Lib.hid (Xg0_0.out.below q4 Xg0_0.out.size)
  replace Xd0_0 := Lib.hid (Xd0_0.out.below q4 Xd0_0.out.size)
  replace Xh0_0 := Lib.hid (Xh0_0.out.below q4 Xh0_0.out.size)
  replace K0 := Lib.hid (K0.out.below q4 K0.out.lt)
  replace Kw0 := Lib.hid (Kw0.out.below q4 Kw0.out.lt)
  replace Kx0 := Lib.hid (Kx0.out.below q4 Kx0.out.lt)
  replace Kg0 := Lib.hid (Kg0.out.below q4 Kg0.out.lt)
  replace HT := Lib.hid (HT.out.trans (q4.mono HT.out.size))
  clear q4
  have zzKh0_0 := Kh0.out.cell 0 rfl
  have zzKh0_1 := Kh0.out.cell 1 rfl
  have zzKh0_2 := Kh0.out.cell 2 rfl
  have zzKw0_0 := Kw0.out.cell 0 rfl
  have zzKw0_1 := Kw0.out.cell 1 rfl
  have zzKw0_2 := Kw0.out.cell 2 rfl
  go_wp2_with fail
  refine (eqMach _ _ _ _ _ _ Xh0_0.out.rd Xw0_0.out.rd).mono ?_
  rintro e v13 ⟨rfl, b13⟩
  replace Xw0_0 := Lib.hid (Xw0_0.out.below b13 Xw0_0.out.size)
  replace Xg0_0 := Lib.hid (Xg0_0.out.below b13 Xg0_0.out.size)
  replace Xd0_0 := Lib.hid (Xd0_0.out.below b13 Xd0_0.out.size)
  replace Xh0_0 := Lib.hid (Xh0_0.out.below b13 Xh0_0.out.size)
  replace K0 := Lib.hid (K0.out.below b13 K0.out.lt)
  replace Kw0 := Lib.hid (Kw0.out.below b13 Kw0.out.lt)
  replace Kx0 := Lib.hid (Kx0.out.below b13 Kx0.out.lt)
  replace Kg0 := Lib.hid (Kg0.out.below b13 Kg0.out.lt)
  replace Kh0 := Lib.hid (Kh0.out.below b13 Kh0.out.lt)
  replace HT := Lib.hid (HT.out.trans (b13.mono HT.out.size))
  clear b13
  clear zzKh0_0 zzKh0_1 zzKh0_2 zzKw0_0 zzKw0_1 zzKw0_2
  have zzKg0_0 := Kg0.out.cell 0 rfl
  have zzKg0_1 := Kg0.out.cell 1 rfl
  have zzKg0_2 := Kg0.out.cell 2 rfl
  go_wp2_with fail
  refine (heldMach _ _ _ _ 1 _ Xg0_0.out.rd (by omega) (by omega) (by omega)).mono ?_
  rintro e v14 ⟨rfl, b14⟩
  replace Xw0_0 := Lib.hid (Xw0_0.out.below b14 Xw0_0.out.size)
  replace Xg0_0 := Lib.hid (Xg0_0.out.below b14 Xg0_0.out.size)
  replace Xd0_0 := Lib.hid (Xd0_0.out.below b14 Xd0_0.out.size)
  replace Xh0_0 := Lib.hid (Xh0_0.out.below b14 Xh0_0.out.size)
  replace K0 := Lib.hid (K0.out.below b14 K0.out.lt)
  replace Kw0 := Lib.hid (Kw0.out.below b14 Kw0.out.lt)
  replace Kx0 := Lib.hid (Kx0.out.below b14 Kx0.out.lt)
  replace Kg0 := Lib.hid (Kg0.out.below b14 Kg0.out.lt)
  replace Kh0 := Lib.hid (Kh0.out.below b14 Kh0.out.lt)
  replace HT := Lib.hid (HT.out.trans (b14.mono HT.out.size))
  clear b14
  go_wp2
  go_ret
  exact ⟨rfl, HB0.out.trans (HT.out.mono HB0.out.size)⟩

set_option maxRecDepth 100000 in
theorem lifted (os : Os) (started : os.Started) (H : Type) (enc : TypeId × Value → H) :
    ReturnsInHanded {} Tryd.checked os 9 .any (fun w args => (Rows.fnExactMirrorMachineSpec.pre enc Tryd.prog Tryd.f9 [] false w args ∧ laidMetH Tryd.prog Rows.fnExactMirrorMachineRow.laid w) ∧ sizedMet enc Tryd.prog Tryd.f9 (OpenSpec.ofChange Rows.fnExactMirrorMachineSpec) false w args) (Rows.fnExactMirrorMachineSpec.post enc Tryd.prog Tryd.f9 false true false false) := by
  refine returnsInHanded_of_change_and (C := Tryd.checked) (X := fun w _ => laidMetH Tryd.prog Rows.fnExactMirrorMachineRow.laid w) (fun _ _ _ hh h => h.of_heap hh) own started (by kernel_rfl) Tryd.func9
    (ChangeSpec.witness_shaped (enc := enc) (C := Tryd.checked) (os := os) (X := fun w _ => laidMetH Tryd.prog Rows.fnExactMirrorMachineRow.laid w) false (World.laidAll Tryd.prog os Rows.fnExactMirrorMachineRow.laid) #[.agg #[.int .i64 0, .int .i64 0, .slice none 0 0]] 8 (World.laidAll_os _ _ _) (World.shaped_of_ZipB (by kernel_rfl) (by kernel_rfl)) (by kernel_rfl) (by kernel_rfl) (by kernel_rfl)
      (by rw [MakeChecks.laidMetH_plain _ _ _ (by kernel_rfl)]; exact laidMet_laidAll _ (by kernel_rfl) (by kernel_rfl))) ?_
  intro W base args ds gs before hval0 hW _ _ hL _
  have hval : ∀ (j : Nat) t v, Tryd.f9.params[j]? = some t → args[j]? = some v → Value.okWide Tryd.prog W .any base t v := hval0
  have hW' := hW
  obtain ⟨p, q, hA0, hV, rfl, hfz, hnd⟩ := hW
  have hA : DataW.TrodAll enc Tryd.prog W 0 (fun _ => true) true Tryd.f9.params.toList args.toList ds p := hA0
  rw [Tryd.params9] at hA hval
  obtain ⟨v0, vs0, d0, ds0, p0, q0, hargs, rfl, rfl, h0, r0⟩ := trodAll_cons hA
  obtain ⟨rfl, rfl, rfl⟩ := trodAll_nil r0
  obtain rfl : args = #[v0] := by cases args; simp_all
  have hV1 : DataW.TrodVars enc Tryd.prog W (fun _ => true) Rows.fnExactMirrorMachineSpec.vars gs q := hV
  have k0 := h0
  have lt0 : ∀ x ∈ p0, x.block < W.heap.size := by obtain ⟨m, hm⟩ := k0; exact DataW.trod_lt m _ _ _ hm
  obtain ⟨c0_0, c0_1, c0_2, y0_0, y0_1, y0_2, n0, rfl, _, _, t0_0, t0_1, t0_2⟩ := Go.Joins.open_agg3 Tryd.underlying24 (by kernel_rfl) (by kernel_rfl) (hval 0 24 v0 rfl rfl) h0
  obtain ⟨i0_0, e0_0, _, j0_0⟩ := DataW.trod_int Tryd.underlying2 t0_0
  simp only [List.cons.injEq, and_true] at e0_0
  subst e0_0
  obtain ⟨i0_1, e0_1, _, j0_1⟩ := DataW.trod_int Tryd.underlying2 t0_1
  simp only [List.cons.injEq, and_true] at e0_1
  subst e0_1
  obtain ⟨a0_0, len0_0, cap0_0, z0_0, e0_0, w0_0⟩ := open_rules t0_2
  simp only [List.cons.injEq, and_true] at e0_0
  subst e0_0
  clear hA0 hval0
  obtain ⟨gv, rfl⟩ : ∃ x, gs = [x] := by
    obtain ⟨_, _, _, _, x, _, rfl, _⟩ := trodVars_one (show DataW.TrodVars enc Tryd.prog W (fun _ => true) ["loop.example/g01079/impl.noRule"] gs q from hV1)
    exact ⟨x, rfl⟩
  refine (walk i0_0 i0_1 a0_0 len0_0 cap0_0 z0_0 W j0_0 j0_1 w0_0 (noR_of_laid hL)).mono fun e W' ⟨he, bel⟩ => ?_
  subst he
  exact ⟨_, rfl, _, _, _, [], _, q, hW', trodAll_mk1 (shut_bool Tryd.underlying4 _), (trodAll_cons_mk (Below.trod laidOut (by kernel_rfl) (of_decide_eq_true (by kernel_rfl)) k0 bel lt0) trodAll_mk0), bel.trodVars laidOut (by kernel_rfl) hV1, bel.frame _, fun h => by cases h⟩

theorem over : Rows.fnExactMirrorMachineRow.holds Tryd.pinned (OpenSpec.ofChange Rows.fnExactMirrorMachineSpec) :=
  OpenClaim.holds_of_wide 9 Tryd.f9 rfl rfl rfl rfl rfl rfl rfl ⟨rfl, rfl, rfl, rfl, rfl⟩ rfl rfl rfl rfl rfl (by kernel_rfl) Tryd.func9 (by kernel_rfl)
    (of_decide_eq_true (by kernel_rfl)) (by unfold Func.isWrapper; first | (rw [if_pos (by decide +kernel)]; kernel_rfl) | (rw [if_neg (by decide +kernel)]; exact ⟨rfl, rfl⟩))
    (fun os started H enc _ => lifted os started H enc)

/-- The statement: the tied card. -/
theorem proved : Rows.FnExactMirrorMachineCardSaid :=
  Claim7.holds_tied_plain_at .later [] [.data] true (true, "9ca71008c5ddd113d9b55e62e4b442ec04746e1b03bb1d9ba516c98d207dad25") false over (fun _ h => by cases h) (by kernel_rfl) (fun _ h => by cases h) fnExactMirrorMachine_row_tie rfl ⟨rfl, rfl⟩ (by kernel_rfl) rfl
    (fun f fn hf hfn => by
      obtain rfl : f = 9 := Option.some.inj ((show Tryd.prog.funcNamed "loop.example/g01079/laws.FnExactMirrorMachine" = some 9 by kernel_rfl).symm.trans hf) |>.symm
      obtain rfl : fn = Tryd.f9 := (Option.some.inj (Tryd.func9.symm.trans hfn)).symm
      exact ⟨by kernel_rfl, fun j t ht => by
        rw [Tryd.params9] at ht
        have hm : t ∈ [24] := by simpa using Array.mem_of_getElem? ht
        have hall : ([24].all fun u => !Tryd.prog.wantsStandIn u) = true := by kernel_rfl
        exact (show Tryd.prog.wantsStandIn t = false by simpa using List.all_eq_true.1 hall t hm)⟩)
    (by kernel_rfl)
#print axioms proved
end Go.Proofs.YtknlpoeolicinadDoor.fnExactMirrorMachine
