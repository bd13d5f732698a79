/- Counters at work: the program's test of them, the run that is made, its counters. -/
import Derived.Test.YtkjoakdepjpkhaaDoorCnt
import Derived.Test.YtkjoakdepjpkhaaDoorStR
import Derived.Test.YtkjoakdepjpkhaaDoorDig
import Derived.Deep.RegionHeld3
namespace Go.Proofs.YtkjoakdepjpkhaaDoor.Ints
open Go.RowKit
set_option linter.unusedVariables false
set_option linter.unusedSimpArgs false
theorem rd_two {w : World} {g : Nat} {a b : Int} (h : Cels w g 2 [.int .i64 a, .int .i64 b]) (ha : fit64 a) (hb : fit64 b) : Rd w (.slice (some ⟨g, 0, none⟩) 2 2) [a, b] := by
  refine ⟨by simp, fun z hz => by simp at hz; rcases hz with rfl | rfl <;> assumption, _, _, rfl, Nat.le_refl _, fun _ => ⟨g, 0, rfl, h.lt, fun i hi => ?_⟩⟩
  have : i = 0 ∨ i = 1 := by simp at hi; omega
  rcases this with rfl | rfl
  · simpa using h.cell 0 rfl
  · simpa using h.cell 1 rfl
theorem dig_two (a b : Int) : digB 1000000000001 [a, b] = decide ((0 ≤ a ∧ a ≤ 1000000000000) ∧ (0 ≤ b ∧ b ≤ 1000000000000)) := by
  by_cases h : (0 ≤ a ∧ a ≤ 1000000000000) ∧ (0 ≤ b ∧ b ≤ 1000000000000)
  · rw [decide_eq_true h]
    refine digB_true fun i hi => ?_
    have : i = 0 ∨ i = 1 := by simp at hi; omega
    rcases this with rfl | rfl
    · have := h.1; simp; omega
    · have := h.2; simp; omega
  · rw [decide_eq_false h]
    refine digB_false fun H => h ?_
    have h0 := H 0 (by simp)
    have h1 := H 1 (by simp)
    simp at h0 h1
    omega
set_option maxHeartbeats 2000000 in
theorem implCFits (at' a b : Int) (v : Value) (rs : List Ins) (w : World) (hv : RdIns w v rs) (ha : fit64 a) (hb : fit64 b) :
    Calls Tryd.prog 116 #[.agg #[.int .i64 at', .int .i64 a, .int .i64 b], v] w fun e w' => e = .returned (.bool (vcB rs at' a b)) ∧ Below w.heap.size w w' := by
  have HV := Lib.hid hv
  obtain ⟨hl, _, a0, c0, rfl, _, _⟩ := hv
  have HB0 : Hid (Below w.heap.size w (w.alloc (Obj.cells #[.int .i64 at', .int .i64 a, .int .i64 b] 75))) := Lib.hid ((Below.refl w.heap.size w).alloc (Nat.le_refl _) _)
  have K0 : Hid (Cels (w.alloc (Obj.cells #[.int .i64 at', .int .i64 a, .int .i64 b] 75)) w.heap.size 75 [.int .i64 at', .int .i64 a, .int .i64 b]) := Lib.hid (Cels.new _ _ _)
  obtain ⟨ba, hba⟩ : ∃ x, x = twoB rs := ⟨_, rfl⟩
  have HA := Lib.hid hba
  clear hba
  obtain ⟨N, hN⟩ : ∃ N : Int, N = (rs.length : Int) + 1 := ⟨_, rfl⟩
  have en : IntKind.i64.wrap ((rs.length : Int) + 1) = N := by rw [IntKind.wrap_i64]; omega
  have HN := Lib.hid hN
  have HL := Lib.hid hl
  have HFA := Lib.hid ha
  have HFB := Lib.hid hb
  clear hN hl ha hb
  go_enter Tryd.func116, Tryd.ntmps116
  go_wp2_with fail
  refine (implIsTwoCounter _ rs _ (HV.out.below HB0.out (Nat.le_refl _))).mono ?_
  rintro e w1 ⟨rfl, hb1⟩
  rw [← HA.out]
  have HB1 := Lib.hid (HB0.out.trans (hb1.mono HB0.out.size))
  have K1 := Lib.hid (K0.out.below hb1 K0.out.lt)
  clear hb1
  rcases eqOr ba with hb | hb
  · subst hb
    have e := Lib.hid (vcB_bad (at' := at') (a := a) (b := b) HA.out.symm)
    go_wp2
    go_ret
    exact ⟨by rw [e.out] <;> rfl, HB1.out⟩
  subst hb
  have e := Lib.hid (vcB_good (at' := at') (a := a) (b := b) HA.out.symm)
  have z0 := K1.out.cell 0 rfl
  have z1 := K1.out.cell 1 rfl
  have z2 := K1.out.cell 2 rfl
  by_cases h0 : 0 ≤ at'
  rotate_left
  · have e2 := Lib.hid (cntB_false (n := rs.length) (at' := at') (a := a) (b := b) (fun h => h0 h.1.1))
    go_wp2
    go_ret
    exact ⟨by rw [e.out, e2.out] <;> rfl, HB1.out⟩
  by_cases h1 : at' < N
  rotate_left
  · have e2 := Lib.hid (cntB_false (n := rs.length) (at' := at') (a := a) (b := b) (fun h => h1 (by have := h.1.2; have := HN.out; omega)))
    have d1 : decide (at' < N) = false := decide_eq_false h1
    clear h1
    go_wp2
    go_ret
    exact ⟨by rw [e.out, e2.out] <;> rfl, HB1.out⟩
  have d1 : decide (at' < N) = true := decide_eq_true h1
  have H01 : Hid (0 ≤ at' ∧ at' ≤ (rs.length : Int)) := Lib.hid ⟨h0, by have := HN.out; omega⟩
  have HX : Hid (Below w1.heap.size w1 (w1.alloc (Obj.cells #[.int .i64 a, .int .i64 b] 2))) := Lib.hid ((Below.refl _ _).alloc (Nat.le_refl _) _)
  have KX : Hid (Rd (w1.alloc (Obj.cells #[.int .i64 a, .int .i64 b] 2)) (.slice (some ⟨w1.heap.size, 0, none⟩) 2 2) [a, b]) := Lib.hid (rd_two (Cels.new _ _ _) HFA.out HFB.out)
  clear h1
  go_wp2_with (first | (go_at_call 125; refine (areBelow_any _ [a, b] 1000000000001 _ KX.out).mono ?_; rintro e9 w2 ⟨rfl, hb2⟩; have HB2 := Lib.hid ((HB1.out.trans (HX.out.mono HB1.out.size)).trans (hb2.mono (Nat.le_trans HB1.out.size HX.out.size))); clear hb2) | go_in)
  go_ret
  refine ⟨?_, HB2.out⟩
  rw [e.out]
  have : digB 1000000000001 [a, b] = cntB rs.length at' a b := by
    rw [dig_two]
    by_cases h : (0 ≤ a ∧ a ≤ 1000000000000) ∧ (0 ≤ b ∧ b ≤ 1000000000000)
    · rw [decide_eq_true h, cntB_true ⟨H01.out, h.1, h.2⟩]
    · rw [decide_eq_false h, cntB_false (fun q => h ⟨q.2.1, q.2.2⟩)]
  rw [← this] <;> rfl
theorem strOf {w0 W W' : World} {rs : List Ins} {pa : Option Addr} {pc : Nat} {a b at' most : Int} {ok : Bool} {t : TypeId} {gb : Nat} (hv : RdIns w0 (.slice pa rs.length pc) rs) (hb : Below w0.heap.size w0 W) (hr : Cels W gb 2 [.int .i64 a, .int .i64 b]) (hg : w0.heap.size ≤ gb) (ha : fit64 a) (hbb : fit64 b)
    (hk : Below W.heap.size W W') : StR w0 (W'.alloc (.cells #[.int .i64 at', .slice (some ⟨gb, 0, none⟩) 2 2, .slice pa rs.length pc, .bool ok, .int .i64 most] t)) W'.heap.size t gb 2 pa pc rs at' [a, b] ok most := by
  have hlt := hr.lt
  have hs := hk.size
  have ha1 : Below W'.heap.size W' (W'.alloc (.cells #[.int .i64 at', .slice (some ⟨gb, 0, none⟩) 2 2, .slice pa rs.length pc, .bool ok, .int .i64 most] t)) := (Below.refl _ _).alloc (Nat.le_refl _) _
  have hrow := (hr.below hk hlt).below ha1 (by omega)
  refine ⟨Cels.new _ _ _, ?_, by omega, by have := hb.size; omega, hv, ?_⟩
  · refine ⟨by simp, fun z hz => by simp at hz; rcases hz with rfl | rfl <;> assumption, ?_, fun q hq => by cases hq; simp; omega, Nat.le_refl _, by have := ha1.size; have := hb.size; omega⟩
    refine ⟨by simp, .inr ⟨gb, 2, #[.int .i64 a, .int .i64 b], rfl, hg, ?_, by simp, by unfold maxLen; omega, by simp, by simp⟩⟩
    exact hrow
  · exact ⟨Nat.le_trans hb.size (Nat.le_trans hk.size ha1.size), fun i hi q => (ha1.block i (by have := hb.size; omega)).trans ((hk.block i (by have := hb.size; omega)).trans (hb.block i hi))⟩
set_option maxHeartbeats 2000000 in
theorem implNewCRun (at' a b : Int) (pa : Option Addr) (pc : Nat) (rs : List Ins) (w : World) (hv : RdIns w (.slice pa rs.length pc) rs) (ha : fit64 a) (hb : fit64 b) :
    Calls Tryd.prog 90 #[.slice pa rs.length pc, .agg #[.int .i64 at', .int .i64 a, .int .i64 b]] w fun e w' => ∃ g gb, e = .returned (.pointer (some ⟨g, 0, none⟩)) ∧ StR w w' g 189 gb 2 pa pc rs at' [a, b] (vcB rs at' a b) 1000000000000 ∧ Below w.heap.size w w' := by
  have HV := Lib.hid hv
  have HFA := Lib.hid ha
  have HFB := Lib.hid hb
  obtain ⟨W0, hW0⟩ : ∃ W, W = (((w.alloc (Obj.cells #[.int .i64 at', .int .i64 a, .int .i64 b] 75)).alloc (Obj.cells #[.int .i64 a, .int .i64 b] 2)).alloc (Obj.cells #[.int .i64 at', .slice (some ⟨w.heap.size + 1, 0, none⟩) 2 2] 88)) := ⟨_, rfl⟩
  have hB0 : Below w.heap.size w W0 := by rw [hW0]; exact ((((Below.refl _ _).alloc (Nat.le_refl _) _).alloc (by simp) _).alloc (by simp; omega) _)
  have k0 : Cels W0 w.heap.size 75 [.int .i64 at', .int .i64 a, .int .i64 b] := by rw [hW0]; exact ((Cels.new _ _ _).alloc _).alloc _
  have k1 : Cels W0 (w.heap.size + 1) 2 [.int .i64 a, .int .i64 b] := by
    rw [hW0]
    have := (Cels.new (w.alloc (Obj.cells #[.int .i64 at', .int .i64 a, .int .i64 b] 75)) 2 [.int .i64 a, .int .i64 b])
    rw [World.size_alloc] at this
    exact this.alloc _
  have k2 : Cels W0 (w.heap.size + 1 + 1) 88 [.int .i64 at', .slice (some ⟨w.heap.size + 1, 0, none⟩) 2 2] := by
    rw [hW0]
    have := (Cels.new ((w.alloc (Obj.cells #[.int .i64 at', .int .i64 a, .int .i64 b] 75)).alloc (Obj.cells #[.int .i64 a, .int .i64 b] 2)) 88 [.int .i64 at', .slice (some ⟨w.heap.size + 1, 0, none⟩) 2 2])
    rw [World.size_alloc, World.size_alloc] at this
    exact this
  have HB0 := Lib.hid hB0
  have K1 := Lib.hid k1
  have HS : Hid (∀ W', Below W0.heap.size W0 W' → W'.cell? ⟨w.heap.size, 0, none⟩ = some (.int .i64 at') ∧ W'.cell? ⟨w.heap.size, 1, none⟩ = some (.int .i64 a) ∧ W'.cell? ⟨w.heap.size, 2, none⟩ = some (.int .i64 b) ∧ W'.cell? ⟨w.heap.size + 1 + 1, 0, none⟩ = some (.int .i64 at') ∧ W'.cell? ⟨w.heap.size + 1 + 1, 1, none⟩ = some (.slice (some ⟨w.heap.size + 1, 0, none⟩) 2 2)) := Lib.hid (fun W' h =>
    ⟨(k0.below h k0.lt).cell 0 rfl, (k0.below h k0.lt).cell 1 rfl, (k0.below h k0.lt).cell 2 rfl, (k2.below h k2.lt).cell 0 rfl, (k2.below h k2.lt).cell 1 rfl⟩)
  have HW0 := Lib.hid hW0.symm
  obtain ⟨bv, hbv⟩ : ∃ x, x = vcB rs at' a b := ⟨_, rfl⟩
  have HBV := Lib.hid hbv
  clear hW0 k0 k1 k2 hB0 ha hb hbv hv
  go_enter Tryd.func90, Tryd.ntmps90
  go_wp2
  rw [HW0.out]
  have HD : Hid (Below W0.heap.size W0 W0.drew) := Lib.hid (Below.refl _ _).drew
  go_region_held3 (fun W' => W'.cell? ⟨w.heap.size, 0, none⟩ = some (.int .i64 at') ∧ W'.cell? ⟨w.heap.size, 1, none⟩ = some (.int .i64 a) ∧ W'.cell? ⟨w.heap.size, 2, none⟩ = some (.int .i64 b) ∧ W'.cell? ⟨w.heap.size + 1 + 1, 0, none⟩ = some (.int .i64 at') ∧ W'.cell? ⟨w.heap.size + 1 + 1, 1, none⟩ = some (.slice (some ⟨w.heap.size + 1, 0, none⟩) 2 2)) (first | exact HS.out _ HD.out | exact HS.out _ (HD.out.alloc HD.out.size _))
    (first | (go_at_call 116; with_reducible refine (implCFits at' a b _ rs _ (HV.out.below (HB0.out.trans (HD.out.mono HB0.out.size)) (Nat.le_refl _)) HFA.out HFB.out).mono ?_; rintro e3 w3 ⟨rfl, bq⟩; replace HD := Lib.hid (HD.out.trans (bq.mono HD.out.size)); clear bq; rw [← HBV.out]))
  all_goals
    go_wp2
    go_ret
    refine ⟨w3.heap.size, w.heap.size + 1, rfl, ?_, (HB0.out.trans (HD.out.mono HB0.out.size)).alloc (by have := HB0.out.size; have := HD.out.size; omega) _⟩
    rw [← HBV.out]
    exact strOf HV.out HB0.out K1.out (by omega) HFA.out HFB.out HD.out
set_option maxHeartbeats 2000000 in
theorem crnConfig {w0 w : World} {g : Nat} {t : TypeId} {gb c0 : Nat} {pa : Option Addr} {pc : Nat} {rs : List Ins} {at' a b : Int} {ok : Bool} {most : Int} (h : StR w0 w g t gb c0 pa pc rs at' [a, b] ok most) :
    Calls Tryd.prog 197 #[.pointer (some ⟨g, 0, none⟩)] w fun e w' => e = .returned (.agg #[.int .i64 at', .int .i64 a, .int .i64 b]) ∧ Below w.heap.size w w' := by
  have z0 := h.head.cell 0 rfl
  have z1 := h.head.cell 1 rfl
  have hlt := h.head.lt
  have hlg := h.gb.2
  have x0 : w.cell? ⟨gb, 0, none⟩ = some (.int .i64 a) := (h.store 0 (by simp) 0 (by omega)).1
  have x1 : w.cell? ⟨gb, 1, none⟩ = some (.int .i64 b) := (h.store 1 (by simp) 0 (by omega)).1
  have hA : Below w.heap.size w (w.alloc (Obj.cells #[.int .i64 0, .int .i64 0, .int .i64 0] 75)) := (Below.refl _ _).alloc (Nat.le_refl _) _
  have y0 := (hA.cell (p := ⟨g, 0, none⟩) hlt).trans z0
  have y1 := (hA.cell (p := ⟨g, 1, none⟩) hlt).trans z1
  have v0 := (hA.cell (p := ⟨gb, 0, none⟩) hlg).trans x0
  have v1 := (hA.cell (p := ⟨gb, 1, none⟩) hlg).trans x1
  clear h hA
  go_enter Tryd.func197, Tryd.ntmps197
  go_wp2
  go_region
  all_goals
    go_wp2
    refine bodyPost_ret (v := .agg #[.int .i64 at', .int .i64 a, .int .i64 b]) (by simp [results, Tryd.f197, go_sem]) rfl ⟨rfl, ?_⟩
    first | exact ((Below.refl _ _).alloc (Nat.le_refl _) _).drew | exact ((Below.refl _ _).drew.alloc (Nat.le_refl _) _) | exact (Below.refl _ _).alloc (Nat.le_refl _) _
end Go.Proofs.YtkjoakdepjpkhaaDoor.Ints
