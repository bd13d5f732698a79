/-   FnExactValidMultiConfig: for every machine with several tapes and every configuration the program's ValidMultiConfig answers as its model, and leaves its arguments alone. No condition. -/
import Derived.Test.YtepdjlhlcjkdkaaRows
import Derived.WalkKit
import Derived.ProofKit
import Derived.OpenShut
import Derived.ShutString
import Derived.ChangeOld
import Derived.Below
import Derived.Lib.SmallJoins
import Derived.Deep.Strs
import Derived.OpenVars
import Derived.Handy
import Derived.Lib.Hide
import Derived.Deep.RegionHeld3
import Derived.Test.YtepdjlhlcjkdkaaVmc
namespace Go.Proofs.Ytepdjlhlcjkdkaa.fnExactValidMultiConfig
open Go.ChangeShapes Go.WideShapes Go.ChangeAt Go.RowKit
set_option linter.unusedVariables false
set_option linter.unusedSimpArgs false

open Ints
set_option maxHeartbeats 8000000 in
set_option maxRecDepth 100000 in
theorem walk (i0_0 : Int) (i0_1 : Int) (i0_2 : Int) (a0_0 : Option Addr) (len0_0 cap0_0 : Nat) (z0_0 : List Jin) (i1_0 : Int) (a1_0 : Option Addr) (len1_0 cap1_0 : Nat) (z1_0 : List Tin) (w : World) (j0_0 : (Lit.int .i64 i0_0).wf = true) (j0_1 : (Lit.int .i64 i0_1).wf = true) (j0_2 : (Lit.int .i64 i0_2).wf = true) (w0_0 : IsMrules w a0_0 len0_0 cap0_0 z0_0) (j1_0 : (Lit.int .i64 i1_0).wf = true) (w1_0 : IsTapes w a1_0 len1_0 cap1_0 z1_0) :
    Calls Try.prog 3 #[.agg #[.int .i64 i0_0, .int .i64 i0_1, .int .i64 i0_2, .slice a0_0 len0_0 cap0_0], .agg #[.int .i64 i1_0, .slice a1_0 len1_0 cap1_0]] w fun e w' => e = .returned (.bool true) ∧ Below w.heap.size w w' := by
  have hz0 := w0_0.le
  have hz1 := w1_0.le
  obtain ⟨l0, hl0⟩ : ∃ l : Int, l = 1048576 - (len0_0 : Int) := ⟨_, rfl⟩
  obtain ⟨m0, hm0⟩ : ∃ m : Int, m = szM l0 (z0_0.take len0_0) := ⟨_, rfl⟩
  obtain ⟨l1, hl1⟩ : ∃ l : Int, l = m0 - (len1_0 : Int) := ⟨_, rfl⟩
  obtain ⟨m1, hm1⟩ : ∃ m : Int, m = szT l1 (z1_0.take len1_0) := ⟨_, rfl⟩
  have hm0le : m0 ≤ l0 ∨ m0 = -1 := by rw [hm0]; exact szM_le _ _
  obtain ⟨W0, hW0⟩ : ∃ x, x = ((w.alloc (Obj.cells #[.int .i64 i0_0, .int .i64 i0_1, .int .i64 i0_2, .slice a0_0 len0_0 cap0_0] 24)).alloc (Obj.cells #[.int .i64 i1_0, .slice a1_0 len1_0 cap1_0] 27)) := ⟨_, rfl⟩
  have HB0 : Hid (Below w.heap.size w W0) := Lib.hid (by rw [hW0]; exact ((Below.refl w.heap.size w).alloc (Nat.le_refl _) _).alloc (by simp) _)
  have K0 : Hid (Cels W0 w.heap.size 24 [.int .i64 i0_0, .int .i64 i0_1, .int .i64 i0_2, .slice a0_0 len0_0 cap0_0]) := Lib.hid (by rw [hW0]; exact (Cels.new _ _ _).alloc _)
  have K1 : Hid (Cels W0 (w.heap.size + 1) 27 [.int .i64 i1_0, .slice a1_0 len1_0 cap1_0]) := Lib.hid (by rw [hW0]; have h := Cels.new (w.alloc (Obj.cells #[.int .i64 i0_0, .int .i64 i0_1, .int .i64 i0_2, .slice a0_0 len0_0 cap0_0] 24)) 27 [.int .i64 i1_0, .slice a1_0 len1_0 cap1_0]; simp only [World.size_alloc] at h; exact h)
  have HI0 : Hid (IsMrules W0 a0_0 len0_0 cap0_0 z0_0) := Lib.hid (by rw [hW0]; exact (w0_0.alloc _).alloc _)
  have HI1 : Hid (IsTapes W0 a1_0 len1_0 cap1_0 z1_0) := Lib.hid (by rw [hW0]; exact (w1_0.alloc _).alloc _)
  have HW0 := Lib.hid hW0.symm
  clear hW0
  have HL0 := Lib.hid hl0
  have HM0 := Lib.hid hm0
  have HZ0 := Lib.hid hz0
  have HL1 := Lib.hid hl1
  have HM1 := Lib.hid hm1
  have HZ1 := Lib.hid hz1
  have HR : Hid (0 ≤ l0 → 0 ≤ m0 → len0_0 ≤ 1048576 ∧ l0 ≤ 1048576 ∧ m0 ≤ 1048576 ∧ (0 ≤ l1 → len1_0 ≤ 1048576 ∧ l1 ≤ 1048576)) := Lib.hid (fun h h' => by omega)
  clear hl0 hm0 hz0 hl1 hm1 hz1 hm0le
  by_cases h0 : 0 ≤ l0
  rotate_left
  · have h1 : l0 < 0 := by omega
    go_enter Try.func3, Try.ntmps3
    go_wp2_with fail
    rw [HW0.out]
    have HT : Hid (Below W0.heap.size W0 W0) := Lib.hid (Below.refl _ _)
    refine (szMul_bad0 i0_0 i0_1 i0_2 _ _ _ _ HZ0.out (by omega) HL0.out h1).mono ?_
    rintro e va ⟨rfl, ba⟩
    replace K0 := Lib.hid (K0.out.below ba K0.out.lt)
    replace K1 := Lib.hid (K1.out.below ba K1.out.lt)
    replace HT := Lib.hid (HT.out.trans (ba.mono HT.out.size))
    clear ba
    go_wp2
    go_ret
    exact ⟨rfl, HB0.out.trans (HT.out.mono HB0.out.size)⟩
  by_cases h2 : 0 ≤ m0
  rotate_left
  · have h3 : m0 < 0 := by omega
    go_enter Try.func3, Try.ntmps3
    go_wp2_with fail
    rw [HW0.out]
    have HT : Hid (Below W0.heap.size W0 W0) := Lib.hid (Below.refl _ _)
    refine (szMul_bad1 i0_0 i0_1 i0_2 _ _ _ z0_0 _ HI0.out (by omega) HL0.out h0 HM0.out h3).mono ?_
    rintro e va ⟨rfl, ba⟩
    replace K0 := Lib.hid (K0.out.below ba K0.out.lt)
    replace K1 := Lib.hid (K1.out.below ba K1.out.lt)
    replace HT := Lib.hid (HT.out.trans (ba.mono HT.out.size))
    clear ba
    go_wp2
    go_ret
    exact ⟨rfl, HB0.out.trans (HT.out.mono HB0.out.size)⟩
  have hn0 : ¬ m0 < 0 := by omega
  by_cases h4 : 0 ≤ l1
  rotate_left
  · have h5 : l1 < 0 := by omega
    go_enter Try.func3, Try.ntmps3
    go_wp2_with fail
    rw [HW0.out]
    have HT : Hid (Below W0.heap.size W0 W0) := Lib.hid (Below.refl _ _)
    refine (szMul i0_0 i0_1 i0_2 _ _ _ z0_0 _ HI0.out (by omega) HL0.out h0 HM0.out h2).mono ?_
    rintro e va ⟨rfl, ba⟩
    replace K0 := Lib.hid (K0.out.below ba K0.out.lt)
    replace K1 := Lib.hid (K1.out.below ba K1.out.lt)
    replace HT := Lib.hid (HT.out.trans (ba.mono HT.out.size))
    clear ba
    have zzK1_0 := K1.out.cell 0 rfl
    have zzK1_1 := K1.out.cell 1 rfl
    go_wp2_with fail
    have hR := HR.out h0 h2
    refine (szMcf_bad0 i1_0 _ _ _ _ HZ1.out (by omega) HL1.out h5).mono ?_
    rintro e vb ⟨rfl, bb⟩
    replace K0 := Lib.hid (K0.out.below bb K0.out.lt)
    replace K1 := Lib.hid (K1.out.below bb K1.out.lt)
    replace HT := Lib.hid (HT.out.trans (bb.mono HT.out.size))
    clear bb
    go_wp2
    go_ret
    exact ⟨rfl, HB0.out.trans (HT.out.mono HB0.out.size)⟩
  by_cases h6 : 0 ≤ m1
  rotate_left
  · have h7 : m1 < 0 := by omega
    go_enter Try.func3, Try.ntmps3
    go_wp2_with fail
    rw [HW0.out]
    have HT : Hid (Below W0.heap.size W0 W0) := Lib.hid (Below.refl _ _)
    refine (szMul i0_0 i0_1 i0_2 _ _ _ z0_0 _ HI0.out (by omega) HL0.out h0 HM0.out h2).mono ?_
    rintro e va ⟨rfl, ba⟩
    replace K0 := Lib.hid (K0.out.below ba K0.out.lt)
    replace K1 := Lib.hid (K1.out.below ba K1.out.lt)
    replace HT := Lib.hid (HT.out.trans (ba.mono HT.out.size))
    clear ba
    have zzK1_0 := K1.out.cell 0 rfl
    have zzK1_1 := K1.out.cell 1 rfl
    go_wp2_with fail
    have hR := HR.out h0 h2
    refine (szMcf_bad1 i1_0 _ _ _ z1_0 _ (HI1.out.belowV HT.out) (by omega) HL1.out h4 HM1.out h7).mono ?_
    rintro e vb ⟨rfl, bb⟩
    replace K0 := Lib.hid (K0.out.below bb K0.out.lt)
    replace K1 := Lib.hid (K1.out.below bb K1.out.lt)
    replace HT := Lib.hid (HT.out.trans (bb.mono HT.out.size))
    clear bb
    go_wp2
    go_ret
    exact ⟨rfl, HB0.out.trans (HT.out.mono HB0.out.size)⟩
  have hn1 : ¬ m1 < 0 := by omega
  have hR := HR.out h0 h2
  obtain ⟨y0, hy0⟩ : ∃ y, y = (z0_0.take len0_0).map Jin.mr := ⟨_, rfl⟩
  have R0 : Hid (RdM W0 (.slice a0_0 len0_0 cap0_0) y0) := Lib.hid (by rw [hy0]; exact rdm_of_row HI0.out hR.1 (szM_good _ l0 (by rw [← HM0.out]; exact h2) hR.2.1))
  clear hy0
  obtain ⟨y1, hy1⟩ : ∃ y, y = (z1_0.take len1_0).map Tin.tp := ⟨_, rfl⟩
  have R1 : Hid (RdT W0 (.slice a1_0 len1_0 cap1_0) y1) := Lib.hid (by rw [hy1]; exact rdt_of_row HI1.out (hR.2.2.2 h4).1 (szT_good _ l1 (by rw [← HM1.out]; exact h6) (hR.2.2.2 h4).2))
  clear hy1
  have HRR := Lib.hid hR
  clear hR
  go_enter Try.func3, Try.ntmps3
  go_wp2_with fail
  rw [HW0.out]
  have HT : Hid (Below W0.heap.size W0 W0) := Lib.hid (Below.refl _ _)
  refine (szMul i0_0 i0_1 i0_2 _ _ _ z0_0 _ HI0.out (by omega) HL0.out h0 HM0.out h2).mono ?_
  rintro e va ⟨rfl, ba⟩
  replace K0 := Lib.hid (K0.out.below ba K0.out.lt)
  replace K1 := Lib.hid (K1.out.below ba K1.out.lt)
  replace HT := Lib.hid (HT.out.trans (ba.mono HT.out.size))
  clear ba
  have zzK1_0 := K1.out.cell 0 rfl
  have zzK1_1 := K1.out.cell 1 rfl
  go_wp2_with fail
  have hR := HRR.out
  refine (szMcf i1_0 _ _ _ z1_0 _ (HI1.out.belowV HT.out) (by omega) HL1.out h4 HM1.out h6).mono ?_
  rintro e vb ⟨rfl, bb⟩
  replace K0 := Lib.hid (K0.out.below bb K0.out.lt)
  replace K1 := Lib.hid (K1.out.below bb K1.out.lt)
  replace HT := Lib.hid (HT.out.trans (bb.mono HT.out.size))
  clear bb
  clear zzK1_0 zzK1_1
  clear hR HL0 HL1 HM0 HM1 HI0 HI1 HZ0 HZ1 HR HRR h0 h2 h4 h6
  go_wp2_with fail
  have HS1 : Hid (∀ W', Below vb.heap.size vb W' → W'.cell? ⟨w.heap.size, 0, none⟩ = some (.int .i64 i0_0) ∧ W'.cell? ⟨w.heap.size, 1, none⟩ = some (.int .i64 i0_1) ∧ W'.cell? ⟨w.heap.size, 2, none⟩ = some (.int .i64 i0_2) ∧ W'.cell? ⟨w.heap.size, 3, none⟩ = some (.slice a0_0 len0_0 cap0_0) ∧ W'.cell? ⟨w.heap.size + 1, 0, none⟩ = some (.int .i64 i1_0) ∧ W'.cell? ⟨w.heap.size + 1, 1, none⟩ = some (.slice a1_0 len1_0 cap1_0)) := Lib.hid (fun W' hW' => ⟨(K0.out.below hW' K0.out.lt).cell 0 rfl, (K0.out.below hW' K0.out.lt).cell 1 rfl, (K0.out.below hW' K0.out.lt).cell 2 rfl, (K0.out.below hW' K0.out.lt).cell 3 rfl, (K1.out.below hW' K1.out.lt).cell 0 rfl, (K1.out.below hW' K1.out.lt).cell 1 rfl⟩)
  have HD : Hid (Below vb.heap.size vb vb.drew) := Lib.hid (Below.refl _ _).drew
  go_region_held3 (fun w' => w'.cell? ⟨w.heap.size, 0, none⟩ = some (.int .i64 i0_0) ∧ w'.cell? ⟨w.heap.size, 1, none⟩ = some (.int .i64 i0_1) ∧ w'.cell? ⟨w.heap.size, 2, none⟩ = some (.int .i64 i0_2) ∧ w'.cell? ⟨w.heap.size, 3, none⟩ = some (.slice a0_0 len0_0 cap0_0) ∧ w'.cell? ⟨w.heap.size + 1, 0, none⟩ = some (.int .i64 i1_0) ∧ w'.cell? ⟨w.heap.size + 1, 1, none⟩ = some (.slice a1_0 len1_0 cap1_0)) (exact HS1.out _ HD.out) (first | (go_at_call 18; with_reducible refine (toMul i0_0 i0_1 i0_2 _ y0 _ (R0.out.below (HT.out.trans (HD.out.mono HT.out.size)) (Nat.le_refl _))).mono ?_; rintro e w1 ⟨us0, rfl, rs0, bq⟩; obtain ⟨gas0, gcs0, hus0, _⟩ := rs0.val; subst hus0; have Xs0 := Lib.hid rs0; clear rs0; replace HD := Lib.hid (HD.out.trans (bq.mono HD.out.size)); clear bq) | (go_at_call 19; with_reducible refine (toMcf i1_0 _ y1 _ (R1.out.below (HT.out.trans (HD.out.mono HT.out.size)) (Nat.le_refl _))).mono ?_; rintro e w1 ⟨us1, rfl, rs1, bq⟩; replace Xs0 := Lib.hid (Xs0.out.below bq (Nat.le_refl _)); obtain ⟨gas1, gcs1, hus1, _⟩ := rs1.val; subst hus1; have Xs1 := Lib.hid rs1; clear rs1; replace HD := Lib.hid (HD.out.trans (bq.mono HD.out.size)); clear bq) | (go_at_call 17; with_reducible refine (specVmc i0_0 i0_1 i0_2 _ y0 i1_0 _ y1 _ Xs0.out Xs1.out).mono ?_; rintro e w1 ⟨rfl, bq⟩; replace Xs0 := Lib.hid (Xs0.out.below bq (Nat.le_refl _)); replace Xs1 := Lib.hid (Xs1.out.below bq (Nat.le_refl _)); replace HD := Lib.hid (HD.out.trans (bq.mono HD.out.size)); clear bq))
  have bD := HD.out
  replace K0 := Lib.hid (K0.out.below bD K0.out.lt)
  replace K1 := Lib.hid (K1.out.below bD K1.out.lt)
  replace HT := Lib.hid (HT.out.trans (bD.mono HT.out.size))
  clear bD HD
  clear Xs0 Xs1
  have zzK0_0 := K0.out.cell 0 rfl
  have zzK0_1 := K0.out.cell 1 rfl
  have zzK0_2 := K0.out.cell 2 rfl
  have zzK0_3 := K0.out.cell 3 rfl
  go_wp2_with fail
  refine (toMul i0_0 i0_1 i0_2 _ y0 _ (R0.out.below HT.out (Nat.le_refl _))).mono ?_
  rintro e v2 ⟨ux0, rfl, rx0, b2⟩
  replace K0 := Lib.hid (K0.out.below b2 K0.out.lt)
  replace K1 := Lib.hid (K1.out.below b2 K1.out.lt)
  replace HT := Lib.hid (HT.out.trans (b2.mono HT.out.size))
  clear b2
  obtain ⟨gax0, gcx0, hux0, _⟩ := rx0.val
  subst hux0
  have Xx0 := Lib.hid rx0
  clear rx0
  have q0 : Below v2.heap.size v2 (v2.alloc (Obj.cells #[.int .i64 i0_0, .int .i64 i0_1, .int .i64 i0_2, .slice gax0 y0.length gcx0] 33)) := (Below.refl _ _).alloc (Nat.le_refl _) _
  have Kx0 : Hid (Cels (v2.alloc (Obj.cells #[.int .i64 i0_0, .int .i64 i0_1, .int .i64 i0_2, .slice gax0 y0.length gcx0] 33)) v2.heap.size 33 [.int .i64 i0_0, .int .i64 i0_1, .int .i64 i0_2, .slice gax0 y0.length gcx0]) := Lib.hid (Cels.new _ _ _)
  replace Xx0 := Lib.hid (Xx0.out.below q0 (Nat.le_refl _))
  replace K0 := Lib.hid (K0.out.below q0 K0.out.lt)
  replace K1 := Lib.hid (K1.out.below q0 K1.out.lt)
  replace HT := Lib.hid (HT.out.trans (q0.mono HT.out.size))
  clear q0
  clear zzK0_0 zzK0_1 zzK0_2 zzK0_3
  have zzK1_0 := K1.out.cell 0 rfl
  have zzK1_1 := K1.out.cell 1 rfl
  go_wp2_with fail
  refine (toMcf i1_0 _ y1 _ (R1.out.below HT.out (Nat.le_refl _))).mono ?_
  rintro e v3 ⟨ux1, rfl, rx1, b3⟩
  replace Xx0 := Lib.hid (Xx0.out.below b3 (Nat.le_refl _))
  replace K0 := Lib.hid (K0.out.below b3 K0.out.lt)
  replace K1 := Lib.hid (K1.out.below b3 K1.out.lt)
  replace Kx0 := Lib.hid (Kx0.out.below b3 Kx0.out.lt)
  replace HT := Lib.hid (HT.out.trans (b3.mono HT.out.size))
  clear b3
  obtain ⟨gax1, gcx1, hux1, _⟩ := rx1.val
  subst hux1
  have Xx1 := Lib.hid rx1
  clear rx1
  have q1 : Below v3.heap.size v3 (v3.alloc (Obj.cells #[.int .i64 i1_0, .slice gax1 y1.length gcx1] 37)) := (Below.refl _ _).alloc (Nat.le_refl _) _
  have Kx1 : Hid (Cels (v3.alloc (Obj.cells #[.int .i64 i1_0, .slice gax1 y1.length gcx1] 37)) v3.heap.size 37 [.int .i64 i1_0, .slice gax1 y1.length gcx1]) := Lib.hid (Cels.new _ _ _)
  replace Xx0 := Lib.hid (Xx0.out.below q1 (Nat.le_refl _))
  replace Xx1 := Lib.hid (Xx1.out.below q1 (Nat.le_refl _))
  replace K0 := Lib.hid (K0.out.below q1 K0.out.lt)
  replace K1 := Lib.hid (K1.out.below q1 K1.out.lt)
  replace Kx0 := Lib.hid (Kx0.out.below q1 Kx0.out.lt)
  replace HT := Lib.hid (HT.out.trans (q1.mono HT.out.size))
  clear q1
  clear zzK1_0 zzK1_1
  have zzKx0_0 := Kx0.out.cell 0 rfl
  have zzKx0_1 := Kx0.out.cell 1 rfl
  have zzKx0_2 := Kx0.out.cell 2 rfl
  have zzKx0_3 := Kx0.out.cell 3 rfl
  have zzKx1_0 := Kx1.out.cell 0 rfl
  have zzKx1_1 := Kx1.out.cell 1 rfl
  go_wp2_with fail
  refine (implVmc i0_0 i0_1 i0_2 _ y0 i1_0 _ y1 _ Xx0.out Xx1.out).mono ?_
  rintro e v4 ⟨rfl, b4⟩
  replace Xx0 := Lib.hid (Xx0.out.below b4 (Nat.le_refl _))
  replace Xx1 := Lib.hid (Xx1.out.below b4 (Nat.le_refl _))
  replace K0 := Lib.hid (K0.out.below b4 K0.out.lt)
  replace K1 := Lib.hid (K1.out.below b4 K1.out.lt)
  replace Kx0 := Lib.hid (Kx0.out.below b4 Kx0.out.lt)
  replace Kx1 := Lib.hid (Kx1.out.below b4 Kx1.out.lt)
  replace HT := Lib.hid (HT.out.trans (b4.mono HT.out.size))
  clear b4
  clear zzKx0_0 zzKx0_1 zzKx0_2 zzKx0_3 zzKx1_0 zzKx1_1
  go_wp2_with fail
  have HS5 : Hid (∀ W', Below v4.heap.size v4 W' → W'.cell? ⟨v2.heap.size, 0, none⟩ = some (.int .i64 i0_0) ∧ W'.cell? ⟨v2.heap.size, 1, none⟩ = some (.int .i64 i0_1) ∧ W'.cell? ⟨v2.heap.size, 2, none⟩ = some (.int .i64 i0_2) ∧ W'.cell? ⟨v2.heap.size, 3, none⟩ = some (.slice gax0 y0.length gcx0) ∧ W'.cell? ⟨w.heap.size, 0, none⟩ = some (.int .i64 i0_0) ∧ W'.cell? ⟨w.heap.size, 1, none⟩ = some (.int .i64 i0_1) ∧ W'.cell? ⟨w.heap.size, 2, none⟩ = some (.int .i64 i0_2) ∧ W'.cell? ⟨w.heap.size, 3, none⟩ = some (.slice a0_0 len0_0 cap0_0)) := Lib.hid (fun W' hW' => ⟨(Kx0.out.below hW' Kx0.out.lt).cell 0 rfl, (Kx0.out.below hW' Kx0.out.lt).cell 1 rfl, (Kx0.out.below hW' Kx0.out.lt).cell 2 rfl, (Kx0.out.below hW' Kx0.out.lt).cell 3 rfl, (K0.out.below hW' K0.out.lt).cell 0 rfl, (K0.out.below hW' K0.out.lt).cell 1 rfl, (K0.out.below hW' K0.out.lt).cell 2 rfl, (K0.out.below hW' K0.out.lt).cell 3 rfl⟩)
  have HD : Hid (Below v4.heap.size v4 v4.drew) := Lib.hid (Below.refl _ _).drew
  go_region_held3 (fun w' => w'.cell? ⟨v2.heap.size, 0, none⟩ = some (.int .i64 i0_0) ∧ w'.cell? ⟨v2.heap.size, 1, none⟩ = some (.int .i64 i0_1) ∧ w'.cell? ⟨v2.heap.size, 2, none⟩ = some (.int .i64 i0_2) ∧ w'.cell? ⟨v2.heap.size, 3, none⟩ = some (.slice gax0 y0.length gcx0) ∧ w'.cell? ⟨w.heap.size, 0, none⟩ = some (.int .i64 i0_0) ∧ w'.cell? ⟨w.heap.size, 1, none⟩ = some (.int .i64 i0_1) ∧ w'.cell? ⟨w.heap.size, 2, none⟩ = some (.int .i64 i0_2) ∧ w'.cell? ⟨w.heap.size, 3, none⟩ = some (.slice a0_0 len0_0 cap0_0)) (exact HS5.out _ HD.out) (first | (go_at_call 18; with_reducible refine (toMul i0_0 i0_1 i0_2 _ y0 _ (R0.out.below (HT.out.trans (HD.out.mono HT.out.size)) (Nat.le_refl _))).mono ?_; rintro e w5 ⟨uc0, rfl, rc0, bq⟩; obtain ⟨gac0, gcc0, huc0, _⟩ := rc0.val; subst huc0; have Xc0 := Lib.hid rc0; clear rc0; replace HD := Lib.hid (HD.out.trans (bq.mono HD.out.size)); clear bq) | (go_at_call 21; with_reducible refine (eqMul i0_0 i0_1 i0_2 _ _ y0 _ (Xx0.out.below HD.out (Nat.le_refl _)) Xc0.out).mono ?_; rintro e w5 ⟨rfl, bq⟩; replace Xc0 := Lib.hid (Xc0.out.below bq (Nat.le_refl _)); replace HD := Lib.hid (HD.out.trans (bq.mono HD.out.size)); clear bq))
  have bD := HD.out
  replace Xx0 := Lib.hid (Xx0.out.below bD (Nat.le_refl _))
  replace Xx1 := Lib.hid (Xx1.out.below bD (Nat.le_refl _))
  replace K0 := Lib.hid (K0.out.below bD K0.out.lt)
  replace K1 := Lib.hid (K1.out.below bD K1.out.lt)
  replace Kx0 := Lib.hid (Kx0.out.below bD Kx0.out.lt)
  replace Kx1 := Lib.hid (Kx1.out.below bD Kx1.out.lt)
  replace HT := Lib.hid (HT.out.trans (bD.mono HT.out.size))
  clear bD HD
  clear Xc0
  go_wp2_with fail
  have HS6 : Hid (∀ W', Below w5.heap.size w5 W' → W'.cell? ⟨v3.heap.size, 0, none⟩ = some (.int .i64 i1_0) ∧ W'.cell? ⟨v3.heap.size, 1, none⟩ = some (.slice gax1 y1.length gcx1) ∧ W'.cell? ⟨w.heap.size + 1, 0, none⟩ = some (.int .i64 i1_0) ∧ W'.cell? ⟨w.heap.size + 1, 1, none⟩ = some (.slice a1_0 len1_0 cap1_0)) := Lib.hid (fun W' hW' => ⟨(Kx1.out.below hW' Kx1.out.lt).cell 0 rfl, (Kx1.out.below hW' Kx1.out.lt).cell 1 rfl, (K1.out.below hW' K1.out.lt).cell 0 rfl, (K1.out.below hW' K1.out.lt).cell 1 rfl⟩)
  have HD : Hid (Below w5.heap.size w5 w5.drew) := Lib.hid (Below.refl _ _).drew
  go_region_held3 (fun w' => w'.cell? ⟨v3.heap.size, 0, none⟩ = some (.int .i64 i1_0) ∧ w'.cell? ⟨v3.heap.size, 1, none⟩ = some (.slice gax1 y1.length gcx1) ∧ w'.cell? ⟨w.heap.size + 1, 0, none⟩ = some (.int .i64 i1_0) ∧ w'.cell? ⟨w.heap.size + 1, 1, none⟩ = some (.slice a1_0 len1_0 cap1_0)) (exact HS6.out _ HD.out) (first | (go_at_call 19; with_reducible refine (toMcf i1_0 _ y1 _ (R1.out.below (HT.out.trans (HD.out.mono HT.out.size)) (Nat.le_refl _))).mono ?_; rintro e w6 ⟨uc1, rfl, rc1, bq⟩; obtain ⟨gac1, gcc1, huc1, _⟩ := rc1.val; subst huc1; have Xc1 := Lib.hid rc1; clear rc1; replace HD := Lib.hid (HD.out.trans (bq.mono HD.out.size)); clear bq) | (go_at_call 22; with_reducible refine (eqMcf i1_0 _ _ y1 _ (Xx1.out.below HD.out (Nat.le_refl _)) Xc1.out).mono ?_; rintro e w6 ⟨rfl, bq⟩; replace Xc1 := Lib.hid (Xc1.out.below bq (Nat.le_refl _)); replace HD := Lib.hid (HD.out.trans (bq.mono HD.out.size)); clear bq))
  have bD := HD.out
  replace Xx0 := Lib.hid (Xx0.out.below bD (Nat.le_refl _))
  replace Xx1 := Lib.hid (Xx1.out.below bD (Nat.le_refl _))
  replace K0 := Lib.hid (K0.out.below bD K0.out.lt)
  replace K1 := Lib.hid (K1.out.below bD K1.out.lt)
  replace Kx0 := Lib.hid (Kx0.out.below bD Kx0.out.lt)
  replace Kx1 := Lib.hid (Kx1.out.below bD Kx1.out.lt)
  replace HT := Lib.hid (HT.out.trans (bD.mono HT.out.size))
  clear bD HD
  clear Xc1
  go_wp2
  go_ret
  exact ⟨rfl, HB0.out.trans (HT.out.mono HB0.out.size)⟩
theorem andT {a b : Bool} (h : a = true) (k : b = true) : (a && b) = true := by rw [h, k]; rfl
set_option maxHeartbeats 16000000 in
theorem closed : joinedFacts Try.prog 3 Try.f3 Rows.fnExactValidMultiConfigSpec Rows.fnExactValidMultiConfigRow = true := by
  unfold joinedFacts
  repeat' (with_reducible refine andT ?_ ?_)
  all_goals (set_option maxRecDepth 100000 in as_aux_lemma => kernel_rfl)
end Go.Proofs.Ytepdjlhlcjkdkaa.fnExactValidMultiConfig
