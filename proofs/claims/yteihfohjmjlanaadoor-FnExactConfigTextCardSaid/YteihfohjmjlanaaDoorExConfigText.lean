/-   FnExactConfigText: for every machine and configuration the program's ConfigText answers as its model, and leaves its arguments alone. The library's table and the program's noRule are read as the program's text lays them (the card). -/
import Derived.Test.YteihfohjmjlanaaDoorRows
import Derived.Test.YteihfohjmjlanaaDoorCards
import Derived.Test.YteihfohjmjlanaaDoorTie
import Derived.WalkKit
import Derived.ProofKit
import Derived.OpenShut
import Derived.ShutString
import Derived.ChangeOld
import Derived.Below
import Derived.Lib.SmallJoins
import Derived.Deep.Strs
import Derived.OpenVars
import Derived.LaidMore
import Derived.Lay
import Derived.LaidOnce
import Derived.SevenTiedAt
import Derived.Stop.Joined
import Derived.Handy
import Derived.Lib.Hide
import Derived.Deep.RegionHeld3
import Derived.Test.YteihfohjmjlanaaDoorSideV
import Derived.Test.YteihfohjmjlanaaDoorCfT
import Derived.Test.YteihfohjmjlanaaDoorTab4
namespace Go.Proofs.YteihfohjmjlanaaDoor.fnExactConfigText
open Go.ChangeShapes Go.WideShapes Go.ChangeAt Go.RowKit
set_option linter.unusedVariables false
set_option linter.unusedSimpArgs false

theorem own : ownKnob Tryd.prog.godebug = none := by kernel_rfl
theorem laidOut : laidOutB Tryd.prog = true := by kernel_rfl
open Ints

set_option maxHeartbeats 8000000 in
theorem walk (i0_0 : Int) (i0_1 : Int) (a0_0 : Option Addr) (len0_0 cap0_0 : Nat) (z0_0 : List Ru) (i1_0 : Int) (a1_0 : Option Addr) (len1_0 cap1_0 : Nat) (z1_0 : List Int) (a1_1 : Option Addr) (len1_1 cap1_1 : Nat) (z1_1 : List Int) (w : World) (j0_0 : (Lit.int .i64 i0_0).wf = true) (j0_1 : (Lit.int .i64 i0_1).wf = true) (w0_0 : IsRules w a0_0 len0_0 cap0_0 z0_0) (j1_0 : (Lit.int .i64 i1_0).wf = true) (w1_0 : IsList w a1_0 len1_0 cap1_0 z1_0) (w1_1 : IsList w a1_1 len1_1 cap1_1 z1_1) (hnr : NoR w) (htab : TabV w) :
    Calls Tryd.prog 4 #[.agg #[.int .i64 i0_0, .int .i64 i0_1, .slice a0_0 len0_0 cap0_0], .agg #[.int .i64 i1_0, .slice a1_0 len1_0 cap1_0, .slice a1_1 len1_1 cap1_1]] w fun e w' => e = .returned (.bool true) ∧ Below w.heap.size w w' := by
  have HTab := Lib.hid htab
  clear htab
  have hz0_0 := w0_0.le
  obtain ⟨l0_0, hl0_0⟩ : ∃ l : Int, l = 1048576 - (len0_0 : Int) := ⟨_, rfl⟩
  have hz1_0 := w1_0.le
  obtain ⟨l1_0, hl1_0⟩ : ∃ l : Int, l = l0_0 - (len1_0 : Int) := ⟨_, rfl⟩
  have hz1_1 := w1_1.le
  obtain ⟨l1_1, hl1_1⟩ : ∃ l : Int, l = l1_0 - (len1_1 : Int) := ⟨_, rfl⟩
  by_cases hn0_0 : 0 ≤ l0_0
  rotate_left
  · have hm0_0 : l0_0 < 0 := by omega
    obtain ⟨W0, hW0⟩ : ∃ x, x = ((w.alloc (Obj.cells #[.int .i64 i0_0, .int .i64 i0_1, .slice a0_0 len0_0 cap0_0] 31)).alloc (Obj.cells #[.int .i64 i1_0, .slice a1_0 len1_0 cap1_0, .slice a1_1 len1_1 cap1_1] 34)) := ⟨_, rfl⟩
    have HB0 : Hid (Below w.heap.size w W0) := Lib.hid (by rw [hW0]; exact (((Below.refl w.heap.size w).alloc (Nat.le_refl _) _).alloc (by simp) _))
    have K0 : Hid (Cels W0 (w.heap.size) 31 [.int .i64 i0_0, .int .i64 i0_1, .slice a0_0 len0_0 cap0_0]) := Lib.hid (by rw [hW0]; have h := ((Cels.new w 31 [.int .i64 i0_0, .int .i64 i0_1, .slice a0_0 len0_0 cap0_0]).alloc (Obj.cells #[.int .i64 i1_0, .slice a1_0 len1_0 cap1_0, .slice a1_1 len1_1 cap1_1] 34)); first | exact h | (simp only [World.size_alloc] at h; exact h))
    have K1 : Hid (Cels W0 (w.heap.size + 1) 34 [.int .i64 i1_0, .slice a1_0 len1_0 cap1_0, .slice a1_1 len1_1 cap1_1]) := Lib.hid (by rw [hW0]; have h := (Cels.new (w.alloc (Obj.cells #[.int .i64 i0_0, .int .i64 i0_1, .slice a0_0 len0_0 cap0_0] 31)) 34 [.int .i64 i1_0, .slice a1_0 len1_0 cap1_0, .slice a1_1 len1_1 cap1_1]); first | exact h | (simp only [World.size_alloc] at h; exact h))
    have AK0 : Hid (w.heap.size < W0.heap.size) := Lib.hid K0.out.lt
    have AK1 : Hid (w.heap.size + 1 < W0.heap.size) := Lib.hid K1.out.lt
    have HW0 := Lib.hid hW0.symm
    clear hW0
    have HL0_0 := Lib.hid hl0_0
    clear hl0_0
    have HL1_0 := Lib.hid hl1_0
    clear hl1_0
    have HL1_1 := Lib.hid hl1_1
    clear hl1_1
    go_enter Tryd.func4, Tryd.ntmps4
    go_wp2_with fail
    rw [HW0.out]
    have HT : Hid (Below W0.heap.size W0 W0) := Lib.hid (Below.refl _ _)
    refine (szMach_bad0 i0_0 i0_1 _ _ _ _ (by have := HL0_0.out; have := HL1_0.out; have := HL1_1.out; omega) HL0_0.out hm0_0 hz0_0).mono ?_
    rintro e vz0 ⟨rfl, bz⟩
    replace HT := Lib.hid (HT.out.trans (bz.mono HT.out.size))
    clear bz
    go_wp2
    go_ret
    exact ⟨rfl, HB0.out.trans (HT.out.mono HB0.out.size)⟩
  have hm0_0 : ¬ l0_0 < 0 := by omega
  by_cases hn1_0 : 0 ≤ l1_0
  rotate_left
  · have hm1_0 : l1_0 < 0 := by omega
    obtain ⟨W0, hW0⟩ : ∃ x, x = ((w.alloc (Obj.cells #[.int .i64 i0_0, .int .i64 i0_1, .slice a0_0 len0_0 cap0_0] 31)).alloc (Obj.cells #[.int .i64 i1_0, .slice a1_0 len1_0 cap1_0, .slice a1_1 len1_1 cap1_1] 34)) := ⟨_, rfl⟩
    have HB0 : Hid (Below w.heap.size w W0) := Lib.hid (by rw [hW0]; exact (((Below.refl w.heap.size w).alloc (Nat.le_refl _) _).alloc (by simp) _))
    have K0 : Hid (Cels W0 (w.heap.size) 31 [.int .i64 i0_0, .int .i64 i0_1, .slice a0_0 len0_0 cap0_0]) := Lib.hid (by rw [hW0]; have h := ((Cels.new w 31 [.int .i64 i0_0, .int .i64 i0_1, .slice a0_0 len0_0 cap0_0]).alloc (Obj.cells #[.int .i64 i1_0, .slice a1_0 len1_0 cap1_0, .slice a1_1 len1_1 cap1_1] 34)); first | exact h | (simp only [World.size_alloc] at h; exact h))
    have K1 : Hid (Cels W0 (w.heap.size + 1) 34 [.int .i64 i1_0, .slice a1_0 len1_0 cap1_0, .slice a1_1 len1_1 cap1_1]) := Lib.hid (by rw [hW0]; have h := (Cels.new (w.alloc (Obj.cells #[.int .i64 i0_0, .int .i64 i0_1, .slice a0_0 len0_0 cap0_0] 31)) 34 [.int .i64 i1_0, .slice a1_0 len1_0 cap1_0, .slice a1_1 len1_1 cap1_1]); first | exact h | (simp only [World.size_alloc] at h; exact h))
    have AK0 : Hid (w.heap.size < W0.heap.size) := Lib.hid K0.out.lt
    have AK1 : Hid (w.heap.size + 1 < W0.heap.size) := Lib.hid K1.out.lt
    have HW0 := Lib.hid hW0.symm
    clear hW0
    have HL0_0 := Lib.hid hl0_0
    clear hl0_0
    have HL1_0 := Lib.hid hl1_0
    clear hl1_0
    have HL1_1 := Lib.hid hl1_1
    clear hl1_1
    go_enter Tryd.func4, Tryd.ntmps4
    go_wp2_with fail
    rw [HW0.out]
    have HT : Hid (Below W0.heap.size W0 W0) := Lib.hid (Below.refl _ _)
    refine (szMach i0_0 i0_1 _ _ _ _ (by have := HL0_0.out; have := HL1_0.out; have := HL1_1.out; omega) HL0_0.out hn0_0 hz0_0).mono ?_
    rintro e vz0 ⟨rfl, bz⟩
    replace K0 := Lib.hid (K0.out.below bz K0.out.lt)
    replace K1 := Lib.hid (K1.out.below bz K1.out.lt)
    replace HT := Lib.hid (HT.out.trans (bz.mono HT.out.size))
    clear bz
    have zzK1_0 := K1.out.cell 0 rfl
    have zzK1_1 := K1.out.cell 1 rfl
    have zzK1_2 := K1.out.cell 2 rfl
    go_wp2_with fail
    refine (szConf_bad0 i1_0 _ _ _ _ _ _ _ (by have := HL0_0.out; have := HL1_0.out; have := HL1_1.out; omega) HL1_0.out hm1_0 hz1_0).mono ?_
    rintro e vz1 ⟨rfl, bz⟩
    replace HT := Lib.hid (HT.out.trans (bz.mono HT.out.size))
    clear bz
    go_wp2
    go_ret
    exact ⟨rfl, HB0.out.trans (HT.out.mono HB0.out.size)⟩
  have hm1_0 : ¬ l1_0 < 0 := by omega
  by_cases hn1_1 : 0 ≤ l1_1
  rotate_left
  · have hm1_1 : l1_1 < 0 := by omega
    obtain ⟨W0, hW0⟩ : ∃ x, x = ((w.alloc (Obj.cells #[.int .i64 i0_0, .int .i64 i0_1, .slice a0_0 len0_0 cap0_0] 31)).alloc (Obj.cells #[.int .i64 i1_0, .slice a1_0 len1_0 cap1_0, .slice a1_1 len1_1 cap1_1] 34)) := ⟨_, rfl⟩
    have HB0 : Hid (Below w.heap.size w W0) := Lib.hid (by rw [hW0]; exact (((Below.refl w.heap.size w).alloc (Nat.le_refl _) _).alloc (by simp) _))
    have K0 : Hid (Cels W0 (w.heap.size) 31 [.int .i64 i0_0, .int .i64 i0_1, .slice a0_0 len0_0 cap0_0]) := Lib.hid (by rw [hW0]; have h := ((Cels.new w 31 [.int .i64 i0_0, .int .i64 i0_1, .slice a0_0 len0_0 cap0_0]).alloc (Obj.cells #[.int .i64 i1_0, .slice a1_0 len1_0 cap1_0, .slice a1_1 len1_1 cap1_1] 34)); first | exact h | (simp only [World.size_alloc] at h; exact h))
    have K1 : Hid (Cels W0 (w.heap.size + 1) 34 [.int .i64 i1_0, .slice a1_0 len1_0 cap1_0, .slice a1_1 len1_1 cap1_1]) := Lib.hid (by rw [hW0]; have h := (Cels.new (w.alloc (Obj.cells #[.int .i64 i0_0, .int .i64 i0_1, .slice a0_0 len0_0 cap0_0] 31)) 34 [.int .i64 i1_0, .slice a1_0 len1_0 cap1_0, .slice a1_1 len1_1 cap1_1]); first | exact h | (simp only [World.size_alloc] at h; exact h))
    have AK0 : Hid (w.heap.size < W0.heap.size) := Lib.hid K0.out.lt
    have AK1 : Hid (w.heap.size + 1 < W0.heap.size) := Lib.hid K1.out.lt
    have HW0 := Lib.hid hW0.symm
    clear hW0
    have HL0_0 := Lib.hid hl0_0
    clear hl0_0
    have HL1_0 := Lib.hid hl1_0
    clear hl1_0
    have HL1_1 := Lib.hid hl1_1
    clear hl1_1
    go_enter Tryd.func4, Tryd.ntmps4
    go_wp2_with fail
    rw [HW0.out]
    have HT : Hid (Below W0.heap.size W0 W0) := Lib.hid (Below.refl _ _)
    refine (szMach i0_0 i0_1 _ _ _ _ (by have := HL0_0.out; have := HL1_0.out; have := HL1_1.out; omega) HL0_0.out hn0_0 hz0_0).mono ?_
    rintro e vz0 ⟨rfl, bz⟩
    replace K0 := Lib.hid (K0.out.below bz K0.out.lt)
    replace K1 := Lib.hid (K1.out.below bz K1.out.lt)
    replace HT := Lib.hid (HT.out.trans (bz.mono HT.out.size))
    clear bz
    have zzK1_0 := K1.out.cell 0 rfl
    have zzK1_1 := K1.out.cell 1 rfl
    have zzK1_2 := K1.out.cell 2 rfl
    go_wp2_with fail
    refine (szConf_bad1 i1_0 _ _ _ _ _ _ _ (by have := HL0_0.out; have := HL1_0.out; have := HL1_1.out; omega) HL1_0.out hn1_0 hz1_0 HL1_1.out hm1_1 hz1_1).mono ?_
    rintro e vz1 ⟨rfl, bz⟩
    replace HT := Lib.hid (HT.out.trans (bz.mono HT.out.size))
    clear bz
    go_wp2
    go_ret
    exact ⟨rfl, HB0.out.trans (HT.out.mono HB0.out.size)⟩
  have hm1_1 : ¬ l1_1 < 0 := by omega
  obtain ⟨y0_0, hy0_0⟩ : ∃ y, y = z0_0.take len0_0 := ⟨_, rfl⟩
  have R0_0 : Hid (RdR w (.slice a0_0 len0_0 cap0_0) y0_0) := Lib.hid (by rw [hy0_0]; exact rdr_of_row w0_0 (by omega))
  clear hy0_0 w0_0
  obtain ⟨y1_0, hy1_0⟩ : ∃ y, y = z1_0.take len1_0 := ⟨_, rfl⟩
  have R1_0 : Hid (Rd w (.slice a1_0 len1_0 cap1_0) y1_0) := Lib.hid (by rw [hy1_0]; exact rd_of_row w1_0 (by omega))
  clear hy1_0 w1_0
  obtain ⟨y1_1, hy1_1⟩ : ∃ y, y = z1_1.take len1_1 := ⟨_, rfl⟩
  have R1_1 : Hid (Rd w (.slice a1_1 len1_1 cap1_1) y1_1) := Lib.hid (by rw [hy1_1]; exact rd_of_row w1_1 (by omega))
  clear hy1_1 w1_1
  obtain ⟨W0, hW0⟩ : ∃ x, x = ((w.alloc (Obj.cells #[.int .i64 i0_0, .int .i64 i0_1, .slice a0_0 len0_0 cap0_0] 31)).alloc (Obj.cells #[.int .i64 i1_0, .slice a1_0 len1_0 cap1_0, .slice a1_1 len1_1 cap1_1] 34)) := ⟨_, rfl⟩
  have HB0 : Hid (Below w.heap.size w W0) := Lib.hid (by rw [hW0]; exact (((Below.refl w.heap.size w).alloc (Nat.le_refl _) _).alloc (by simp) _))
  have K0 : Hid (Cels W0 (w.heap.size) 31 [.int .i64 i0_0, .int .i64 i0_1, .slice a0_0 len0_0 cap0_0]) := Lib.hid (by rw [hW0]; have h := ((Cels.new w 31 [.int .i64 i0_0, .int .i64 i0_1, .slice a0_0 len0_0 cap0_0]).alloc (Obj.cells #[.int .i64 i1_0, .slice a1_0 len1_0 cap1_0, .slice a1_1 len1_1 cap1_1] 34)); first | exact h | (simp only [World.size_alloc] at h; exact h))
  have K1 : Hid (Cels W0 (w.heap.size + 1) 34 [.int .i64 i1_0, .slice a1_0 len1_0 cap1_0, .slice a1_1 len1_1 cap1_1]) := Lib.hid (by rw [hW0]; have h := (Cels.new (w.alloc (Obj.cells #[.int .i64 i0_0, .int .i64 i0_1, .slice a0_0 len0_0 cap0_0] 31)) 34 [.int .i64 i1_0, .slice a1_0 len1_0 cap1_0, .slice a1_1 len1_1 cap1_1]); first | exact h | (simp only [World.size_alloc] at h; exact h))
  have AK0 : Hid (w.heap.size < W0.heap.size) := Lib.hid K0.out.lt
  have AK1 : Hid (w.heap.size + 1 < W0.heap.size) := Lib.hid K1.out.lt
  have HW0 := Lib.hid hW0.symm
  clear hW0
  have HL0_0 := Lib.hid hl0_0
  clear hl0_0
  have HL1_0 := Lib.hid hl1_0
  clear hl1_0
  have HL1_1 := Lib.hid hl1_1
  clear hl1_1
  replace R0_0 := Lib.hid (R0_0.out.below HB0.out (Nat.le_refl _))
  replace R1_0 := Lib.hid (R1_0.out.below HB0.out (Nat.le_refl _))
  replace R1_1 := Lib.hid (R1_1.out.below HB0.out (Nat.le_refl _))
  have HN := Lib.hid (hnr.below HB0.out (Nat.le_refl _))
  clear hnr
  go_enter Tryd.func4, Tryd.ntmps4
  go_wp2_with fail
  rw [HW0.out]
  have HT : Hid (Below W0.heap.size W0 W0) := Lib.hid (Below.refl _ _)
  refine (szMach i0_0 i0_1 _ _ _ _ (by have := HL0_0.out; have := HL1_0.out; have := HL1_1.out; omega) HL0_0.out hn0_0 hz0_0).mono ?_
  rintro e vz0 ⟨rfl, bz⟩
  replace K0 := Lib.hid (K0.out.below bz K0.out.lt)
  replace K1 := Lib.hid (K1.out.below bz K1.out.lt)
  replace HT := Lib.hid (HT.out.trans (bz.mono HT.out.size))
  clear bz
  have zzK1_0 := K1.out.cell 0 rfl
  have zzK1_1 := K1.out.cell 1 rfl
  have zzK1_2 := K1.out.cell 2 rfl
  go_wp2_with fail
  refine (szConf i1_0 _ _ _ _ _ _ _ (by have := HL0_0.out; have := HL1_0.out; have := HL1_1.out; omega) HL1_0.out hn1_0 hz1_0 HL1_1.out hn1_1 hz1_1).mono ?_
  rintro e vz1 ⟨rfl, bz⟩
  replace K0 := Lib.hid (K0.out.below bz K0.out.lt)
  replace K1 := Lib.hid (K1.out.below bz K1.out.lt)
  replace HT := Lib.hid (HT.out.trans (bz.mono HT.out.size))
  clear bz
  clear HL0_0 hn0_0 hz0_0 HL1_0 hn1_0 hz1_0 HL1_1 hn1_1 hz1_1
  clear zzK1_0 zzK1_1 zzK1_2
  go_wp2_with fail
  have HS1 : Hid (∀ W', Below vz1.heap.size vz1 W' → W'.cell? ⟨w.heap.size, 0, none⟩ = some (.int .i64 i0_0) ∧ W'.cell? ⟨w.heap.size, 1, none⟩ = some (.int .i64 i0_1) ∧ W'.cell? ⟨w.heap.size, 2, none⟩ = some (.slice a0_0 len0_0 cap0_0) ∧ W'.cell? ⟨w.heap.size + 1, 0, none⟩ = some (.int .i64 i1_0) ∧ W'.cell? ⟨w.heap.size + 1, 1, none⟩ = some (.slice a1_0 len1_0 cap1_0) ∧ W'.cell? ⟨w.heap.size + 1, 2, none⟩ = some (.slice a1_1 len1_1 cap1_1)) := Lib.hid (fun W' hW' => ⟨(K0.out.below hW' K0.out.lt).cell 0 rfl, (K0.out.below hW' K0.out.lt).cell 1 rfl, (K0.out.below hW' K0.out.lt).cell 2 rfl, (K1.out.below hW' K1.out.lt).cell 0 rfl, (K1.out.below hW' K1.out.lt).cell 1 rfl, (K1.out.below hW' K1.out.lt).cell 2 rfl⟩)
  have bd : Below vz1.heap.size vz1 vz1.drew := (Below.refl _ _).drew
  have HD := Lib.hid bd
  replace K0 := Lib.hid (K0.out.below bd K0.out.lt)
  replace K1 := Lib.hid (K1.out.below bd K1.out.lt)
  replace HT := Lib.hid (HT.out.trans (bd.mono HT.out.size))
  clear bd
  obtain ⟨txt, htxt⟩ : ∃ x, x = bs (cfV i0_0 i0_1 y0_0 i1_0 y1_0 y1_1) := ⟨_, rfl⟩
  have HTxt := Lib.hid htxt
  clear htxt
  go_region_held3 (fun w' => w'.cell? ⟨w.heap.size, 0, none⟩ = some (.int .i64 i0_0) ∧ w'.cell? ⟨w.heap.size, 1, none⟩ = some (.int .i64 i0_1) ∧ w'.cell? ⟨w.heap.size, 2, none⟩ = some (.slice a0_0 len0_0 cap0_0) ∧ w'.cell? ⟨w.heap.size + 1, 0, none⟩ = some (.int .i64 i1_0) ∧ w'.cell? ⟨w.heap.size + 1, 1, none⟩ = some (.slice a1_0 len1_0 cap1_0) ∧ w'.cell? ⟨w.heap.size + 1, 2, none⟩ = some (.slice a1_1 len1_1 cap1_1)) (exact HS1.out _ HD.out) (first | (go_at_call 16; with_reducible refine (toMach i0_0 i0_1 _ y0_0 _ (R0_0.out.below HT.out (Nat.le_refl _))).mono ?_; rintro e w1 ⟨us0_0, rfl, os0_0, bq⟩; replace HD := Lib.hid (HD.out.trans (bq.mono HD.out.size)); have Ls0_0 := Lib.hid HT.out.size; replace K0 := Lib.hid (K0.out.below bq K0.out.lt); replace K1 := Lib.hid (K1.out.below bq K1.out.lt); replace HT := Lib.hid (HT.out.trans (bq.mono HT.out.size)); have Xs0_0 := Lib.hid os0_0; obtain ⟨gas0_0, gcs0_0, hus0_0⟩ := os0_0.shape; subst hus0_0; clear os0_0; clear bq) | (go_at_call 17; with_reducible refine (toConf i1_0 _ y1_0 _ y1_1 _ (R1_0.out.below HT.out (Nat.le_refl _)) (R1_1.out.below HT.out (Nat.le_refl _))).mono ?_; rintro e w1 ⟨us1_0, us1_1, rfl, os1_0, os1_1, ss1_0_s1_1, bq⟩; replace HD := Lib.hid (HD.out.trans (bq.mono HD.out.size)); have Ss0_0_s1_0 := Lib.hid (sep_of Xs0_0.out.top os1_0.row.lt Xs0_0.out.size); have Ls1_0 := Lib.hid HT.out.size; have Ss0_0_s1_1 := Lib.hid (sep_of Xs0_0.out.top os1_1.row.lt Xs0_0.out.size); have Ls1_1 := Lib.hid HT.out.size; replace Xs0_0 := Lib.hid (Xs0_0.out.below bq Xs0_0.out.size); replace K0 := Lib.hid (K0.out.below bq K0.out.lt); replace K1 := Lib.hid (K1.out.below bq K1.out.lt); replace HT := Lib.hid (HT.out.trans (bq.mono HT.out.size)); have Ss1_0_s1_1 := Lib.hid ss1_0_s1_1; clear ss1_0_s1_1; have Xs1_0 := Lib.hid os1_0; obtain ⟨gas1_0, gcs1_0, hus1_0⟩ := os1_0.shape; subst hus1_0; clear os1_0; have Xs1_1 := Lib.hid os1_1; obtain ⟨gas1_1, gcs1_1, hus1_1⟩ := os1_1.shape; subst hus1_1; clear os1_1; clear bq) | (go_at_call 15; with_reducible refine (specCfText i0_0 i0_1 _ y0_0 i1_0 _ y1_0 _ y1_1 _ Xs0_0.out.rd Xs1_0.out.rd Xs1_1.out.rd txt HTxt.out).mono ?_; rintro e w1 ⟨rfl, bq⟩; replace HD := Lib.hid (HD.out.trans (bq.mono HD.out.size)); replace Xs0_0 := Lib.hid (Xs0_0.out.below bq Xs0_0.out.size); replace Xs1_0 := Lib.hid (Xs1_0.out.below bq Xs1_0.out.size); replace Xs1_1 := Lib.hid (Xs1_1.out.below bq Xs1_1.out.size); replace K0 := Lib.hid (K0.out.below bq K0.out.lt); replace K1 := Lib.hid (K1.out.below bq K1.out.lt); replace HT := Lib.hid (HT.out.trans (bq.mono HT.out.size)); clear bq))
  clear Xs0_0
  clear Xs1_0
  clear Xs1_1
  have zzK0_0 := K0.out.cell 0 rfl
  have zzK0_1 := K0.out.cell 1 rfl
  have zzK0_2 := K0.out.cell 2 rfl
  go_wp2_with fail
  refine (toMach i0_0 i0_1 _ y0_0 _ (R0_0.out.below HT.out (Nat.le_refl _))).mono ?_
  rintro e v2 ⟨ux0_0, rfl, ox0_0, b2⟩
  have Lx0_0 := Lib.hid HT.out.size
  replace K0 := Lib.hid (K0.out.below b2 K0.out.lt)
  replace K1 := Lib.hid (K1.out.below b2 K1.out.lt)
  replace HT := Lib.hid (HT.out.trans (b2.mono HT.out.size))
  have Xx0_0 := Lib.hid ox0_0
  obtain ⟨gax0_0, gcx0_0, hux0_0⟩ := ox0_0.shape
  subst hux0_0
  clear ox0_0
  clear b2
  have q1 : Below v2.heap.size v2 (v2.alloc (Obj.cells #[.int .i64 i0_0, .int .i64 i0_1, .slice gax0_0 y0_0.length gcx0_0] 40)) := (Below.refl _ _).alloc (Nat.le_refl _) _
  have Kx0 : Hid (Cels (v2.alloc (Obj.cells #[.int .i64 i0_0, .int .i64 i0_1, .slice gax0_0 y0_0.length gcx0_0] 40)) v2.heap.size 40 [.int .i64 i0_0, .int .i64 i0_1, .slice gax0_0 y0_0.length gcx0_0]) := Lib.hid (Cels.new _ _ _)
  have NKx0_x0_0 := Lib.hid (fun q (hq : _ = some q) => Nat.lt_of_lt_of_le (Xx0_0.out.top q hq) Xx0_0.out.size)
  replace Xx0_0 := Lib.hid (Xx0_0.out.below q1 Xx0_0.out.size)
  replace K0 := Lib.hid (K0.out.below q1 K0.out.lt)
  replace K1 := Lib.hid (K1.out.below q1 K1.out.lt)
  replace HT := Lib.hid (HT.out.trans (q1.mono HT.out.size))
  clear q1
  clear zzK0_0 zzK0_1 zzK0_2
  have zzK1_0 := K1.out.cell 0 rfl
  have zzK1_1 := K1.out.cell 1 rfl
  have zzK1_2 := K1.out.cell 2 rfl
  go_wp2_with fail
  refine (toConf i1_0 _ y1_0 _ y1_1 _ (R1_0.out.below HT.out (Nat.le_refl _)) (R1_1.out.below HT.out (Nat.le_refl _))).mono ?_
  rintro e v3 ⟨ux1_0, ux1_1, rfl, ox1_0, ox1_1, sx1_0_x1_1, b3⟩
  have Sx0_0_x1_0 := Lib.hid (sep_of Xx0_0.out.top ox1_0.row.lt Xx0_0.out.size)
  have Lx1_0 := Lib.hid HT.out.size
  have Sx0_0_x1_1 := Lib.hid (sep_of Xx0_0.out.top ox1_1.row.lt Xx0_0.out.size)
  have Lx1_1 := Lib.hid HT.out.size
  replace Xx0_0 := Lib.hid (Xx0_0.out.below b3 Xx0_0.out.size)
  replace K0 := Lib.hid (K0.out.below b3 K0.out.lt)
  replace K1 := Lib.hid (K1.out.below b3 K1.out.lt)
  replace Kx0 := Lib.hid (Kx0.out.below b3 Kx0.out.lt)
  replace HT := Lib.hid (HT.out.trans (b3.mono HT.out.size))
  have Sx1_0_x1_1 := Lib.hid sx1_0_x1_1
  clear sx1_0_x1_1
  have Xx1_0 := Lib.hid ox1_0
  obtain ⟨gax1_0, gcx1_0, hux1_0⟩ := ox1_0.shape
  subst hux1_0
  clear ox1_0
  have Xx1_1 := Lib.hid ox1_1
  obtain ⟨gax1_1, gcx1_1, hux1_1⟩ := ox1_1.shape
  subst hux1_1
  clear ox1_1
  clear b3
  have q2 : Below v3.heap.size v3 (v3.alloc (Obj.cells #[.int .i64 i1_0, .slice gax1_0 y1_0.length gcx1_0, .slice gax1_1 y1_1.length gcx1_1] 42)) := (Below.refl _ _).alloc (Nat.le_refl _) _
  have Kx1 : Hid (Cels (v3.alloc (Obj.cells #[.int .i64 i1_0, .slice gax1_0 y1_0.length gcx1_0, .slice gax1_1 y1_1.length gcx1_1] 42)) v3.heap.size 42 [.int .i64 i1_0, .slice gax1_0 y1_0.length gcx1_0, .slice gax1_1 y1_1.length gcx1_1]) := Lib.hid (Cels.new _ _ _)
  have NKx1_x0_0 := Lib.hid (fun q (hq : _ = some q) => Nat.lt_of_lt_of_le (Xx0_0.out.top q hq) Xx0_0.out.size)
  have NKx1_x1_0 := Lib.hid (fun q (hq : _ = some q) => Nat.lt_of_lt_of_le (Xx1_0.out.top q hq) Xx1_0.out.size)
  have NKx1_x1_1 := Lib.hid (fun q (hq : _ = some q) => Nat.lt_of_lt_of_le (Xx1_1.out.top q hq) Xx1_1.out.size)
  replace Xx0_0 := Lib.hid (Xx0_0.out.below q2 Xx0_0.out.size)
  replace Xx1_0 := Lib.hid (Xx1_0.out.below q2 Xx1_0.out.size)
  replace Xx1_1 := Lib.hid (Xx1_1.out.below q2 Xx1_1.out.size)
  replace K0 := Lib.hid (K0.out.below q2 K0.out.lt)
  replace K1 := Lib.hid (K1.out.below q2 K1.out.lt)
  replace Kx0 := Lib.hid (Kx0.out.below q2 Kx0.out.lt)
  replace HT := Lib.hid (HT.out.trans (q2.mono HT.out.size))
  clear q2
  clear zzK1_0 zzK1_1 zzK1_2
  have zzKx0_0 := Kx0.out.cell 0 rfl
  have zzKx0_1 := Kx0.out.cell 1 rfl
  have zzKx0_2 := Kx0.out.cell 2 rfl
  have zzKx1_0 := Kx1.out.cell 0 rfl
  have zzKx1_1 := Kx1.out.cell 1 rfl
  have zzKx1_2 := Kx1.out.cell 2 rfl
  go_wp2_with fail
  refine (implCfText i0_0 i0_1 _ y0_0 i1_0 _ y1_0 _ y1_1 _ Xx0_0.out.rd Xx1_0.out.rd Xx1_1.out.rd (HN.out.below HT.out (Nat.le_refl _)) (HTab.out.below (HB0.out.trans (HT.out.mono HB0.out.size)) (Nat.le_refl _))).mono ?_
  rintro e v4 ⟨rfl, b4⟩
  rw [← HTxt.out]
  have etxt : (txt.toList == txt.toList) = true := by simp
  replace Xx0_0 := Lib.hid (Xx0_0.out.below b4 Xx0_0.out.size)
  replace Xx1_0 := Lib.hid (Xx1_0.out.below b4 Xx1_0.out.size)
  replace Xx1_1 := Lib.hid (Xx1_1.out.below b4 Xx1_1.out.size)
  replace K0 := Lib.hid (K0.out.below b4 K0.out.lt)
  replace K1 := Lib.hid (K1.out.below b4 K1.out.lt)
  replace Kx0 := Lib.hid (Kx0.out.below b4 Kx0.out.lt)
  replace Kx1 := Lib.hid (Kx1.out.below b4 Kx1.out.lt)
  replace HT := Lib.hid (HT.out.trans (b4.mono HT.out.size))
  clear b4
  clear zzKx0_0 zzKx0_1 zzKx0_2 zzKx1_0 zzKx1_1 zzKx1_2
  go_wp2_with fail
  have HS5 : Hid (∀ W', Below v4.heap.size v4 W' → W'.cell? ⟨v2.heap.size, 0, none⟩ = some (.int .i64 i0_0) ∧ W'.cell? ⟨v2.heap.size, 1, none⟩ = some (.int .i64 i0_1) ∧ W'.cell? ⟨v2.heap.size, 2, none⟩ = some (.slice gax0_0 y0_0.length gcx0_0) ∧ W'.cell? ⟨w.heap.size, 0, none⟩ = some (.int .i64 i0_0) ∧ W'.cell? ⟨w.heap.size, 1, none⟩ = some (.int .i64 i0_1) ∧ W'.cell? ⟨w.heap.size, 2, none⟩ = some (.slice a0_0 len0_0 cap0_0)) := Lib.hid (fun W' hW' => ⟨(Kx0.out.below hW' Kx0.out.lt).cell 0 rfl, (Kx0.out.below hW' Kx0.out.lt).cell 1 rfl, (Kx0.out.below hW' Kx0.out.lt).cell 2 rfl, (K0.out.below hW' K0.out.lt).cell 0 rfl, (K0.out.below hW' K0.out.lt).cell 1 rfl, (K0.out.below hW' K0.out.lt).cell 2 rfl⟩)
  have bd : Below v4.heap.size v4 v4.drew := (Below.refl _ _).drew
  have HD := Lib.hid bd
  replace Xx0_0 := Lib.hid (Xx0_0.out.below bd Xx0_0.out.size)
  replace Xx1_0 := Lib.hid (Xx1_0.out.below bd Xx1_0.out.size)
  replace Xx1_1 := Lib.hid (Xx1_1.out.below bd Xx1_1.out.size)
  replace K0 := Lib.hid (K0.out.below bd K0.out.lt)
  replace K1 := Lib.hid (K1.out.below bd K1.out.lt)
  replace Kx0 := Lib.hid (Kx0.out.below bd Kx0.out.lt)
  replace Kx1 := Lib.hid (Kx1.out.below bd Kx1.out.lt)
  replace HT := Lib.hid (HT.out.trans (bd.mono HT.out.size))
  clear bd
  go_region_held3 (fun w' => w'.cell? ⟨v2.heap.size, 0, none⟩ = some (.int .i64 i0_0) ∧ w'.cell? ⟨v2.heap.size, 1, none⟩ = some (.int .i64 i0_1) ∧ w'.cell? ⟨v2.heap.size, 2, none⟩ = some (.slice gax0_0 y0_0.length gcx0_0) ∧ w'.cell? ⟨w.heap.size, 0, none⟩ = some (.int .i64 i0_0) ∧ w'.cell? ⟨w.heap.size, 1, none⟩ = some (.int .i64 i0_1) ∧ w'.cell? ⟨w.heap.size, 2, none⟩ = some (.slice a0_0 len0_0 cap0_0)) (exact HS5.out _ HD.out) (first | (go_at_call 16; with_reducible refine (toMach i0_0 i0_1 _ y0_0 _ (R0_0.out.below HT.out (Nat.le_refl _))).mono ?_; rintro e w5 ⟨uc0_0, rfl, oc0_0, bq⟩; replace HD := Lib.hid (HD.out.trans (bq.mono HD.out.size)); have Sx0_0_c0_0 := Lib.hid (sep_of Xx0_0.out.top oc0_0.row.lt Xx0_0.out.size); have Sx1_0_c0_0 := Lib.hid (sep_of Xx1_0.out.top oc0_0.row.lt Xx1_0.out.size); have Sx1_1_c0_0 := Lib.hid (sep_of Xx1_1.out.top oc0_0.row.lt Xx1_1.out.size); have Lc0_0 := Lib.hid HT.out.size; replace Xx0_0 := Lib.hid (Xx0_0.out.below bq Xx0_0.out.size); replace Xx1_0 := Lib.hid (Xx1_0.out.below bq Xx1_0.out.size); replace Xx1_1 := Lib.hid (Xx1_1.out.below bq Xx1_1.out.size); replace K0 := Lib.hid (K0.out.below bq K0.out.lt); replace K1 := Lib.hid (K1.out.below bq K1.out.lt); replace Kx0 := Lib.hid (Kx0.out.below bq Kx0.out.lt); replace Kx1 := Lib.hid (Kx1.out.below bq Kx1.out.lt); replace HT := Lib.hid (HT.out.trans (bq.mono HT.out.size)); have Xc0_0 := Lib.hid oc0_0; obtain ⟨gac0_0, gcc0_0, huc0_0⟩ := oc0_0.shape; subst huc0_0; clear oc0_0; clear bq) | (go_at_call 19; with_reducible refine (eqMach _ _ _ _ _ _ Xx0_0.out.rd Xc0_0.out.rd).mono ?_; rintro e w5 ⟨rfl, bq⟩; replace HD := Lib.hid (HD.out.trans (bq.mono HD.out.size)); replace Xx0_0 := Lib.hid (Xx0_0.out.below bq Xx0_0.out.size); replace Xx1_0 := Lib.hid (Xx1_0.out.below bq Xx1_0.out.size); replace Xx1_1 := Lib.hid (Xx1_1.out.below bq Xx1_1.out.size); replace Xc0_0 := Lib.hid (Xc0_0.out.below bq Xc0_0.out.size); replace K0 := Lib.hid (K0.out.below bq K0.out.lt); replace K1 := Lib.hid (K1.out.below bq K1.out.lt); replace Kx0 := Lib.hid (Kx0.out.below bq Kx0.out.lt); replace Kx1 := Lib.hid (Kx1.out.below bq Kx1.out.lt); replace HT := Lib.hid (HT.out.trans (bq.mono HT.out.size)); clear bq))
  clear Xc0_0
  go_wp2_with fail
  have HS6 : Hid (∀ W', Below w5.heap.size w5 W' → W'.cell? ⟨v3.heap.size, 0, none⟩ = some (.int .i64 i1_0) ∧ W'.cell? ⟨v3.heap.size, 1, none⟩ = some (.slice gax1_0 y1_0.length gcx1_0) ∧ W'.cell? ⟨v3.heap.size, 2, none⟩ = some (.slice gax1_1 y1_1.length gcx1_1) ∧ W'.cell? ⟨w.heap.size + 1, 0, none⟩ = some (.int .i64 i1_0) ∧ W'.cell? ⟨w.heap.size + 1, 1, none⟩ = some (.slice a1_0 len1_0 cap1_0) ∧ W'.cell? ⟨w.heap.size + 1, 2, none⟩ = some (.slice a1_1 len1_1 cap1_1)) := Lib.hid (fun W' hW' => ⟨(Kx1.out.below hW' Kx1.out.lt).cell 0 rfl, (Kx1.out.below hW' Kx1.out.lt).cell 1 rfl, (Kx1.out.below hW' Kx1.out.lt).cell 2 rfl, (K1.out.below hW' K1.out.lt).cell 0 rfl, (K1.out.below hW' K1.out.lt).cell 1 rfl, (K1.out.below hW' K1.out.lt).cell 2 rfl⟩)
  have bd : Below w5.heap.size w5 w5.drew := (Below.refl _ _).drew
  have HD := Lib.hid bd
  replace Xx0_0 := Lib.hid (Xx0_0.out.below bd Xx0_0.out.size)
  replace Xx1_0 := Lib.hid (Xx1_0.out.below bd Xx1_0.out.size)
  replace Xx1_1 := Lib.hid (Xx1_1.out.below bd Xx1_1.out.size)
  replace K0 := Lib.hid (K0.out.below bd K0.out.lt)
  replace K1 := Lib.hid (K1.out.below bd K1.out.lt)
  replace Kx0 := Lib.hid (Kx0.out.below bd Kx0.out.lt)
  replace Kx1 := Lib.hid (Kx1.out.below bd Kx1.out.lt)
  replace HT := Lib.hid (HT.out.trans (bd.mono HT.out.size))
  clear bd
  go_region_held3 (fun w' => w'.cell? ⟨v3.heap.size, 0, none⟩ = some (.int .i64 i1_0) ∧ w'.cell? ⟨v3.heap.size, 1, none⟩ = some (.slice gax1_0 y1_0.length gcx1_0) ∧ w'.cell? ⟨v3.heap.size, 2, none⟩ = some (.slice gax1_1 y1_1.length gcx1_1) ∧ w'.cell? ⟨w.heap.size + 1, 0, none⟩ = some (.int .i64 i1_0) ∧ w'.cell? ⟨w.heap.size + 1, 1, none⟩ = some (.slice a1_0 len1_0 cap1_0) ∧ w'.cell? ⟨w.heap.size + 1, 2, none⟩ = some (.slice a1_1 len1_1 cap1_1)) (exact HS6.out _ HD.out) (first | (go_at_call 17; with_reducible refine (toConf i1_0 _ y1_0 _ y1_1 _ (R1_0.out.below HT.out (Nat.le_refl _)) (R1_1.out.below HT.out (Nat.le_refl _))).mono ?_; rintro e w6 ⟨uc1_0, uc1_1, rfl, oc1_0, oc1_1, sc1_0_c1_1, bq⟩; replace HD := Lib.hid (HD.out.trans (bq.mono HD.out.size)); have Sx0_0_c1_0 := Lib.hid (sep_of Xx0_0.out.top oc1_0.row.lt Xx0_0.out.size); have Sx1_0_c1_0 := Lib.hid (sep_of Xx1_0.out.top oc1_0.row.lt Xx1_0.out.size); have Sx1_1_c1_0 := Lib.hid (sep_of Xx1_1.out.top oc1_0.row.lt Xx1_1.out.size); have Lc1_0 := Lib.hid HT.out.size; have Sx0_0_c1_1 := Lib.hid (sep_of Xx0_0.out.top oc1_1.row.lt Xx0_0.out.size); have Sx1_0_c1_1 := Lib.hid (sep_of Xx1_0.out.top oc1_1.row.lt Xx1_0.out.size); have Sx1_1_c1_1 := Lib.hid (sep_of Xx1_1.out.top oc1_1.row.lt Xx1_1.out.size); have Lc1_1 := Lib.hid HT.out.size; replace Xx0_0 := Lib.hid (Xx0_0.out.below bq Xx0_0.out.size); replace Xx1_0 := Lib.hid (Xx1_0.out.below bq Xx1_0.out.size); replace Xx1_1 := Lib.hid (Xx1_1.out.below bq Xx1_1.out.size); replace K0 := Lib.hid (K0.out.below bq K0.out.lt); replace K1 := Lib.hid (K1.out.below bq K1.out.lt); replace Kx0 := Lib.hid (Kx0.out.below bq Kx0.out.lt); replace Kx1 := Lib.hid (Kx1.out.below bq Kx1.out.lt); replace HT := Lib.hid (HT.out.trans (bq.mono HT.out.size)); have Sc1_0_c1_1 := Lib.hid sc1_0_c1_1; clear sc1_0_c1_1; have Xc1_0 := Lib.hid oc1_0; obtain ⟨gac1_0, gcc1_0, huc1_0⟩ := oc1_0.shape; subst huc1_0; clear oc1_0; have Xc1_1 := Lib.hid oc1_1; obtain ⟨gac1_1, gcc1_1, huc1_1⟩ := oc1_1.shape; subst huc1_1; clear oc1_1; clear bq) | (go_at_call 20; with_reducible refine (eqConf _ _ _ _ _ _ _ _ Xx1_0.out.rd Xc1_0.out.rd Xx1_1.out.rd Xc1_1.out.rd).mono ?_; rintro e w6 ⟨rfl, bq⟩; replace HD := Lib.hid (HD.out.trans (bq.mono HD.out.size)); replace Xx0_0 := Lib.hid (Xx0_0.out.below bq Xx0_0.out.size); replace Xx1_0 := Lib.hid (Xx1_0.out.below bq Xx1_0.out.size); replace Xx1_1 := Lib.hid (Xx1_1.out.below bq Xx1_1.out.size); replace Xc1_0 := Lib.hid (Xc1_0.out.below bq Xc1_0.out.size); replace Xc1_1 := Lib.hid (Xc1_1.out.below bq Xc1_1.out.size); replace K0 := Lib.hid (K0.out.below bq K0.out.lt); replace K1 := Lib.hid (K1.out.below bq K1.out.lt); replace Kx0 := Lib.hid (Kx0.out.below bq Kx0.out.lt); replace Kx1 := Lib.hid (Kx1.out.below bq Kx1.out.lt); replace HT := Lib.hid (HT.out.trans (bq.mono HT.out.size)); clear bq))
  clear Xc1_0
  clear Xc1_1
  go_wp2
  go_ret
  exact ⟨rfl, HB0.out.trans (HT.out.mono HB0.out.size)⟩

set_option maxRecDepth 100000 in
theorem lifted (os : Os) (started : os.Started) (H : Type) (enc : TypeId × Value → H) :
    ReturnsInHanded {} Tryd.checked os 4 .any (fun w args => (Rows.fnExactConfigTextSpec.pre enc Tryd.prog Tryd.f4 [] false w args ∧ laidMetH Tryd.prog Rows.fnExactConfigTextRow.laid w) ∧ sizedMet enc Tryd.prog Tryd.f4 (OpenSpec.ofChange Rows.fnExactConfigTextSpec) false w args) (Rows.fnExactConfigTextSpec.post enc Tryd.prog Tryd.f4 false true false false) := by
  refine returnsInHanded_of_change_and (C := Tryd.checked) (X := fun w _ => laidMetH Tryd.prog Rows.fnExactConfigTextRow.laid w) (fun _ _ _ hh h => h.of_heap hh) own started (by kernel_rfl) Tryd.func4
    (ChangeSpec.witness_shaped (enc := enc) (C := Tryd.checked) (os := os) (X := fun w _ => laidMetH Tryd.prog Rows.fnExactConfigTextRow.laid w) false (World.laidAll Tryd.prog os Rows.fnExactConfigTextRow.laid) #[.agg #[.int .i64 0, .int .i64 0, .slice none 0 0], .agg #[.int .i64 0, .slice none 0 0, .slice none 0 0]] 8 (World.laidAll_os _ _ _) (World.shaped_of_ZipB (by kernel_rfl) (by kernel_rfl)) (by kernel_rfl) (by kernel_rfl) (by kernel_rfl)
      (by rw [MakeChecks.laidMetH_plain _ _ _ (by kernel_rfl)]; exact laidMet_laidAll _ (by kernel_rfl) (by kernel_rfl))) ?_
  intro W base args ds gs before hval0 hW _ _ hL _
  have hval : ∀ (j : Nat) t v, Tryd.f4.params[j]? = some t → args[j]? = some v → Value.okWide Tryd.prog W .any base t v := hval0
  have hW' := hW
  obtain ⟨p, q, hA0, hV, rfl, hfz, hnd⟩ := hW
  have hA : DataW.TrodAll enc Tryd.prog W 0 (fun _ => true) true Tryd.f4.params.toList args.toList ds p := hA0
  rw [Tryd.params4] at hA hval
  obtain ⟨v0, vs0, d0, ds0, p0, q0, hargs, rfl, rfl, h0, r0⟩ := trodAll_cons hA
  obtain ⟨v1, vs1, d1, ds1, p1, q1, rfl, rfl, rfl, h1, r1⟩ := trodAll_cons r0
  obtain ⟨rfl, rfl, rfl⟩ := trodAll_nil r1
  obtain rfl : args = #[v0, v1] := by cases args; simp_all
  have hV1 : DataW.TrodVars enc Tryd.prog W (fun _ => true) Rows.fnExactConfigTextSpec.vars gs q := hV
  have k0 := h0
  have lt0 : ∀ x ∈ p0, x.block < W.heap.size := by obtain ⟨m, hm⟩ := k0; exact DataW.trod_lt m _ _ _ hm
  obtain ⟨c0_0, c0_1, c0_2, y0_0, y0_1, y0_2, n0, rfl, _, _, t0_0, t0_1, t0_2⟩ := Go.Joins.open_agg3 Tryd.underlying31 (by kernel_rfl) (by kernel_rfl) (hval 0 31 v0 rfl rfl) h0
  obtain ⟨i0_0, e0_0, _, j0_0⟩ := DataW.trod_int Tryd.underlying2 t0_0
  simp only [List.cons.injEq, and_true] at e0_0
  subst e0_0
  obtain ⟨i0_1, e0_1, _, j0_1⟩ := DataW.trod_int Tryd.underlying2 t0_1
  simp only [List.cons.injEq, and_true] at e0_1
  subst e0_1
  obtain ⟨a0_0, len0_0, cap0_0, z0_0, e0_0, w0_0⟩ := open_rules t0_2
  simp only [List.cons.injEq, and_true] at e0_0
  subst e0_0
  have k1 := h1
  have lt1 : ∀ x ∈ p1, x.block < W.heap.size := by obtain ⟨m, hm⟩ := k1; exact DataW.trod_lt m _ _ _ hm
  obtain ⟨c1_0, c1_1, c1_2, y1_0, y1_1, y1_2, n1, rfl, _, _, t1_0, t1_1, t1_2⟩ := Go.Joins.open_agg3 Tryd.underlying34 (by kernel_rfl) (by kernel_rfl) (hval 1 34 v1 rfl rfl) h1
  obtain ⟨i1_0, e1_0, _, j1_0⟩ := DataW.trod_int Tryd.underlying2 t1_0
  simp only [List.cons.injEq, and_true] at e1_0
  subst e1_0
  obtain ⟨a1_0, len1_0, cap1_0, z1_0, e1_0, w1_0⟩ := open_list t1_1
  simp only [List.cons.injEq, and_true] at e1_0
  subst e1_0
  obtain ⟨a1_1, len1_1, cap1_1, z1_1, e1_1, w1_1⟩ := open_list t1_2
  simp only [List.cons.injEq, and_true] at e1_1
  subst e1_1
  clear hA0 hval0
  obtain ⟨gv, rfl⟩ : ∃ x, gs = [x] := by
    obtain ⟨_, _, _, _, x, _, rfl, _⟩ := trodVars_one (show DataW.TrodVars enc Tryd.prog W (fun _ => true) ["loop.example/g01079/impl.noRule"] gs q from hV1)
    exact ⟨x, rfl⟩
  refine (walk i0_0 i0_1 a0_0 len0_0 cap0_0 z0_0 i1_0 a1_0 len1_0 cap1_0 z1_0 a1_1 len1_1 cap1_1 z1_1 W j0_0 j0_1 w0_0 j1_0 w1_0 w1_1 (noR_of_laid4 hL) (tabV_of_laid4 hL)).mono fun e W' ⟨he, bel⟩ => ?_
  subst he
  exact ⟨_, rfl, _, _, _, [], _, q, hW', trodAll_mk1 (shut_bool Tryd.underlying4 _), (trodAll_cons_mk (Below.trod laidOut (by kernel_rfl) (of_decide_eq_true (by kernel_rfl)) k0 bel lt0) (trodAll_cons_mk (Below.trod laidOut (by kernel_rfl) (of_decide_eq_true (by kernel_rfl)) k1 bel lt1) trodAll_mk0)), bel.trodVars laidOut (by kernel_rfl) hV1, bel.frame _, fun h => by cases h⟩

theorem over : Rows.fnExactConfigTextRow.holds Tryd.pinned (OpenSpec.ofChange Rows.fnExactConfigTextSpec) :=
  OpenClaim.holds_of_wide 4 Tryd.f4 rfl rfl rfl rfl rfl rfl rfl ⟨rfl, rfl, rfl, rfl, rfl⟩ rfl rfl rfl rfl rfl (by kernel_rfl) Tryd.func4 (by kernel_rfl)
    (of_decide_eq_true (by kernel_rfl)) (by unfold Func.isWrapper; first | (rw [if_pos (by decide +kernel)]; kernel_rfl) | (rw [if_neg (by decide +kernel)]; exact ⟨rfl, rfl⟩))
    (fun os started H enc _ => lifted os started H enc)

/-- The statement: the tied card. -/
theorem proved : Rows.FnExactConfigTextCardSaid :=
  Claim7.holds_tied_plain_at .later [] [.data, .data, .data, .data] true (true, "61ce4189ba1a849d0e9c87f609339cc8187f9f883171a0be5b4ece451b60e2e1") false over (fun _ h => by cases h) (by kernel_rfl) (fun _ h => by cases h) fnExactConfigText_row_tie rfl ⟨rfl, rfl⟩ (by kernel_rfl) rfl
    (fun f fn hf hfn => by
      obtain rfl : f = 4 := Option.some.inj ((show Tryd.prog.funcNamed "loop.example/g01079/laws.FnExactConfigText" = some 4 by kernel_rfl).symm.trans hf) |>.symm
      obtain rfl : fn = Tryd.f4 := (Option.some.inj (Tryd.func4.symm.trans hfn)).symm
      exact ⟨by kernel_rfl, fun j t ht => by
        rw [Tryd.params4] at ht
        have hm : t ∈ [31, 34] := by simpa using Array.mem_of_getElem? ht
        have hall : ([31, 34].all fun u => !Tryd.prog.wantsStandIn u) = true := by kernel_rfl
        exact (show Tryd.prog.wantsStandIn t = false by simpa using List.all_eq_true.1 hall t hm)⟩)
    (by kernel_rfl)
#print axioms proved
end Go.Proofs.YteihfohjmjlanaaDoor.fnExactConfigText
