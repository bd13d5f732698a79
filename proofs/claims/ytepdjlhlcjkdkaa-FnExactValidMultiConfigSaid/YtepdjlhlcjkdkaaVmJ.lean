/- Contracts of ValidMulti: the program's, whole. -/
import Derived.Test.YtepdjlhlcjkdkaaVmI
namespace Go.Proofs.Ytepdjlhlcjkdkaa.Ints
open Go.RowKit
set_option linter.unusedVariables false
set_option linter.unusedSimpArgs false
/-- A rule as a value. -/
def mrV (m : Mr) (a1 : Option Addr) (c1 : Nat) (a2 : Option Addr) (c2 : Nat) (a3 : Option Addr) (c3 : Nat) : List Value := [.int .i64 m.st, .slice a1 m.rd.length c1, .slice a2 m.wr.length c2, .slice a3 m.mv.length c3, .int .i64 m.nx]
set_option maxHeartbeats 4000000 in
set_option maxRecDepth 100000 in
theorem implCompare (s0 s4 p0 p4 : Int) (t1 t2 t3 r1 r2 r3 : List Int) (a1 : Option Addr) (c1 : Nat) (a2 : Option Addr) (c2 : Nat) (a3 : Option Addr) (c3 : Nat) (b1 : Option Addr) (d1 : Nat) (b2 : Option Addr) (d2 : Nat) (b3 : Option Addr) (d3 : Nat) (w : World)
    (hx : Rd w (.slice a1 t1.length c1) t1) (hy : Rd w (.slice b1 r1.length d1) r1) :
    Calls Try.prog 91 #[.agg #[.int .i64 s0, .slice a1 t1.length c1, .slice a2 t2.length c2, .slice a3 t3.length c3, .int .i64 s4], .agg #[.int .i64 p0, .slice b1 r1.length d1, .slice b2 r2.length d2, .slice b3 r3.length d3, .int .i64 p4]] w fun e w' => e = .returned (.int .i64 (crI ⟨s0, t1, t2, t3, s4⟩ ⟨p0, r1, r2, r3, p4⟩)) ∧ Below w.heap.size w w' := by
  have HX := Lib.hid hx
  have HY := Lib.hid hy
  obtain ⟨W0, hW0⟩ : ∃ W, W = (w.alloc (Obj.cells #[.int .i64 s0, .slice a1 t1.length c1, .slice a2 t2.length c2, .slice a3 t3.length c3, .int .i64 s4] 100)).alloc (Obj.cells #[.int .i64 p0, .slice b1 r1.length d1, .slice b2 r2.length d2, .slice b3 r3.length d3, .int .i64 p4] 100) := ⟨_, rfl⟩
  have HB : Hid (Below w.heap.size w W0) := Lib.hid (by rw [hW0]; exact ((Below.refl w.heap.size w).alloc (Nat.le_refl _) _).alloc (by simp) _)
  have K1 : Hid (Cels W0 w.heap.size 100 [.int .i64 s0, .slice a1 t1.length c1, .slice a2 t2.length c2, .slice a3 t3.length c3, .int .i64 s4]) := Lib.hid (by rw [hW0]; exact (Cels.new _ _ _).alloc _)
  have K2 : Hid (Cels W0 (w.heap.size + 1) 100 [.int .i64 p0, .slice b1 r1.length d1, .slice b2 r2.length d2, .slice b3 r3.length d3, .int .i64 p4]) := Lib.hid (by rw [hW0]; have h := Cels.new (w.alloc (Obj.cells #[.int .i64 s0, .slice a1 t1.length c1, .slice a2 t2.length c2, .slice a3 t3.length c3, .int .i64 s4] 100)) 100 [.int .i64 p0, .slice b1 r1.length d1, .slice b2 r2.length d2, .slice b3 r3.length d3, .int .i64 p4]; rw [World.size_alloc] at h; exact h)
  have HW0 := Lib.hid hW0.symm
  clear hW0 hx hy
  obtain ⟨q1, hq1⟩ : ∃ q : Int, q = if s0 < p0 then -1 else if p0 < s0 then 1 else 0 := ⟨_, rfl⟩
  obtain ⟨q2, hq2⟩ : ∃ q : Int, q = cmpL t1 r1 := ⟨_, rfl⟩
  obtain ⟨q3, hq3⟩ : ∃ q : Int, q = if q1 = 0 then q2 else q1 := ⟨_, rfl⟩
  have HQ : Hid (crI ⟨s0, t1, t2, t3, s4⟩ ⟨p0, r1, r2, r3, p4⟩ = q3) := Lib.hid (by
    rw [hq3, hq2, hq1]
    show (if s0 < p0 then (-1 : Int) else if p0 < s0 then 1 else cmpL t1 r1) = _
    by_cases h1 : s0 < p0
    · rw [if_pos h1, if_pos h1]; rfl
    · rw [if_neg h1, if_neg h1]
      by_cases h2 : p0 < s0
      · rw [if_pos h2, if_pos h2]; rfl
      · rw [if_neg h2, if_neg h2, if_pos rfl])
  have HQ1 := Lib.hid hq1
  have HQ2 := Lib.hid hq2
  have HQ3 := Lib.hid hq3
  rw [HQ.out]
  clear hq1 hq2 hq3
  have HS : Hid (∀ W', Below W0.heap.size W0 W' → (W'.cell? ⟨w.heap.size, 0, none⟩ = some (.int .i64 s0) ∧ W'.cell? ⟨w.heap.size, 1, none⟩ = some (.slice a1 t1.length c1)) ∧ W'.cell? ⟨w.heap.size + 1, 0, none⟩ = some (.int .i64 p0) ∧ W'.cell? ⟨w.heap.size + 1, 1, none⟩ = some (.slice b1 r1.length d1)) := Lib.hid (fun W' hW' => ⟨⟨(K1.out.below hW' K1.out.lt).cell 0 rfl, (K1.out.below hW' K1.out.lt).cell 1 rfl⟩, (K2.out.below hW' K2.out.lt).cell 0 rfl, (K2.out.below hW' K2.out.lt).cell 1 rfl⟩)
  have HD : Hid (Below W0.heap.size W0 W0.drew) := Lib.hid (Below.refl _ _).drew
  go_enter Try.func91, Try.ntmps91
  go_wp2_with fail
  rw [HW0.out]
  go_region_held3 (fun W' => (W'.cell? ⟨w.heap.size, 0, none⟩ = some (.int .i64 s0) ∧ W'.cell? ⟨w.heap.size, 1, none⟩ = some (.slice a1 t1.length c1)) ∧ W'.cell? ⟨w.heap.size + 1, 0, none⟩ = some (.int .i64 p0) ∧ W'.cell? ⟨w.heap.size + 1, 1, none⟩ = some (.slice b1 r1.length d1))
    (first | exact HS.out _ HD.out | exact HS.out _ (HD.out.alloc HD.out.size _))
    (first
      | (go_at_call 139; refine (libCmp1 s0 p0 _).mono ?_; rintro e w3 ⟨rfl, hw⟩; rw [← HQ1.out]; subst hw)
      | (go_at_call 140; refine (libCmp _ _ t1 r1 _ (HX.out.below (HB.out.trans (HD.out.mono HB.out.size)) (Nat.le_refl _)) (HY.out.below (HB.out.trans (HD.out.mono HB.out.size)) (Nat.le_refl _))).mono ?_; rintro e w3 ⟨rfl, hw⟩; rw [← HQ2.out]; subst hw)
      | (go_at_call 138; refine (libOr2 _ q1 q2 _ (by simp [World.cell?_alloc_at]) (by simp [World.cell?_alloc_at])).mono ?_; rintro e w3 ⟨rfl, hw⟩; rw [← HQ3.out]; subst hw))
  have HBF := Lib.hid (HB.out.trans ((HD.out.alloc HD.out.size (Obj.cells #[.int .i64 q1, .int .i64 q2] 3)).mono HB.out.size))
  go_wp2
  go_ret
  exact ⟨rfl, HBF.out⟩
end Go.Proofs.Ytepdjlhlcjkdkaa.Ints
