/- What a valid machine is; the contracts of the model's and the program's tests of it. -/
import Derived.Test.YtmbojhlcmgknbaaDoorMach
import Derived.Test.YtmbojhlcmgknbaaDoorNoR
import Derived.Deep.RegionHeld3
namespace Go.Proofs.YtmbojhlcmgknbaaDoor.Ints
open Go.RowKit
set_option linter.unusedVariables false
set_option linter.unusedSimpArgs false

/-- An element of the rules that is as it must be. -/
def RuleOk (sy st : Int) (r : Ru) : Prop := (r.wr = 0 ∧ r.mv = 0 ∧ r.nx = -1) ∨ (0 ≤ r.wr ∧ r.wr < sy ∧ (r.mv = 1 ∨ r.mv = -1) ∧ 0 ≤ r.nx ∧ r.nx < st)
/-- A valid machine. -/
structure Mok (sy st : Int) (rs : List Ru) : Prop where
  s0 : 2 ≤ sy
  s1 : sy ≤ 6
  t0 : 1 ≤ st
  t1 : st ≤ 1000
  len : (rs.length : Int) = sy * st
  all : ∀ i, i < rs.length → RuleOk sy st (rs.getD i ru0)
open Classical in
noncomputable def ruleB (sy st : Int) (r : Ru) : Bool := decide (RuleOk sy st r)
open Classical in
noncomputable def machB (sy st : Int) (rs : List Ru) : Bool := decide (Mok sy st rs)
theorem ruleB_true {sy st : Int} {r : Ru} (h : RuleOk sy st r) : ruleB sy st r = true := by simp [ruleB, h]
theorem ruleB_false {sy st : Int} {r : Ru} (h : ¬ RuleOk sy st r) : ruleB sy st r = false := by simp [ruleB, h]
theorem ruleB_ok {sy st : Int} {r : Ru} (h : ruleB sy st r = true) : RuleOk sy st r := by simpa [ruleB] using h
theorem ruleB_no {sy st : Int} {r : Ru} (h : ruleB sy st r = false) : ¬ RuleOk sy st r := by simpa [ruleB] using h
theorem machB_true {sy st : Int} {rs : List Ru} (h : Mok sy st rs) : machB sy st rs = true := by simp [machB, h]
theorem machB_false {sy st : Int} {rs : List Ru} (h : ¬ Mok sy st rs) : machB sy st rs = false := by simp [machB, h]
theorem machB_ok {sy st : Int} {rs : List Ru} (h : machB sy st rs = true) : Mok sy st rs := by simpa [machB] using h
def eqR (x y z x' y' z' : Int) : Bool := x == x' && (y == y' && z == z')
theorem eqlRule (w : World) (x y z x' y' z' : Int) : (binOp .eql 86 (.agg #[.int .i64 x, .int .i64 y, .int .i64 z]) (.agg #[.int .i64 x', .int .i64 y', .int .i64 z'])).run Tryd.prog w = .ok (.bool (eqR x y z x' y' z')) w := by
  by_cases h1 : x = x' <;> by_cases h2 : y = y' <;> by_cases h3 : z = z' <;> simp [go_sem, eqR, h1, h2, h3]
attribute [local go_sem] eqlRule
theorem eqR_no {x y z : Int} (h : ¬ (x = 0 ∧ y = 0 ∧ z = -1)) : eqR x y z 0 0 (-1) = false := by
  simp only [eqR, Bool.and_eq_false_iff, beq_eq_false_iff_ne]; omega
theorem eqR_yes : eqR 0 0 (-1) 0 0 (-1) = true := rfl
theorem specNone (w : World) : Calls Tryd.prog 78 #[] w fun e w' => e = .returned (.agg #[.int .i64 0, .int .i64 0, .int .i64 (-1)]) ∧ Below w.heap.size w w' := by
  go_enter Tryd.func78, Tryd.ntmps78
  go_wp2
  refine bodyPost_ret (v := .agg #[.int .i64 0, .int .i64 0, .int .i64 (-1)]) (by simp [results, Tryd.f78, go_sem]) rfl ⟨rfl, (Below.refl _ _).alloc (Nat.le_refl _) _⟩
set_option maxHeartbeats 4000000 in
theorem specRule (x y z sy st : Int) (w : World) (s0 : 0 ≤ sy) (s1 : sy ≤ 1000000) (t0 : 0 ≤ st) (t1 : st ≤ 1000000) :
    Calls Tryd.prog 77 #[.agg #[.int .i64 x, .int .i64 y, .int .i64 z], .int .i64 sy, .int .i64 st] w fun e w' => e = .returned (.bool (ruleB sy st ⟨x, y, z⟩)) ∧ Below w.heap.size w w' := by
  obtain ⟨W0, hW0⟩ : ∃ W, W = w.alloc (Obj.cells #[.int .i64 x, .int .i64 y, .int .i64 z] 86) := ⟨_, rfl⟩
  have HK : Hid (Cels W0 w.heap.size 86 [.int .i64 x, .int .i64 y, .int .i64 z]) := Lib.hid (by rw [hW0]; exact Cels.new _ _ _)
  have HB0 : Hid (Below w.heap.size w W0) := Lib.hid (by rw [hW0]; exact (Below.refl _ _).alloc (Nat.le_refl _) _)
  have HW0 := Lib.hid hW0.symm
  have HS : Hid (∀ W', Below W0.heap.size W0 W' → W'.cell? ⟨w.heap.size, 0, none⟩ = some (.int .i64 x) ∧ W'.cell? ⟨w.heap.size, 1, none⟩ = some (.int .i64 y) ∧ W'.cell? ⟨w.heap.size, 2, none⟩ = some (.int .i64 z)) := Lib.hid (fun W' h =>
    ⟨(HK.out.below h HK.out.lt).cell 0 rfl, (HK.out.below h HK.out.lt).cell 1 rfl, (HK.out.below h HK.out.lt).cell 2 rfl⟩)
  clear hW0
  by_cases hN : x = 0 ∧ y = 0 ∧ z = -1
  · have e := Lib.hid (ruleB_true (sy := sy) (st := st) (r := ⟨x, y, z⟩) (.inl hN))
    obtain ⟨rfl, rfl, rfl⟩ := hN
    have hq := eqR_yes
    go_enter Tryd.func77, Tryd.ntmps77
    go_wp2_with fail
    rw [HW0.out]
    have HD : Hid (Below W0.heap.size W0 W0.drew) := Lib.hid (Below.refl _ _).drew
    go_region_held3 (fun W' => W'.cell? ⟨w.heap.size, 0, none⟩ = some (.int .i64 0) ∧ W'.cell? ⟨w.heap.size, 1, none⟩ = some (.int .i64 0) ∧ W'.cell? ⟨w.heap.size, 2, none⟩ = some (.int .i64 (-1))) (exact HS.out _ HD.out)
      (first | (go_at_call 78; with_reducible refine (specNone _).mono ?_; rintro e w3 ⟨rfl, bq⟩; replace HD := Lib.hid (HD.out.trans (bq.mono HD.out.size)); clear bq))
    go_wp2
    go_ret
    exact ⟨by rw [e.out] <;> rfl, HB0.out.trans (HD.out.mono HB0.out.size)⟩
  · have HN := Lib.hid hN
    have q2 : ((x == 0) = false ∨ ((x == 0) = true ∧ (y == 0) = false) ∨ ((x == 0) = true ∧ (y == 0) = true ∧ (z == -1) = false)) := by
      simp only [beq_eq_false_iff_ne, beq_iff_eq]; omega
    have e1 : IntKind.i64.wrap (sy - 1) = sy - 1 := by rw [IntKind.wrap_i64]; omega
    have e2 : IntKind.i64.wrap (st - 1) = st - 1 := by rw [IntKind.wrap_i64]; omega
    have HF : Hid (∀ b : Bool, (RuleOk sy st ⟨x, y, z⟩ ↔ b = true) → ruleB sy st ⟨x, y, z⟩ = b) := Lib.hid (fun b h => by
      cases b with
      | true => exact ruleB_true (h.2 rfl)
      | false => exact ruleB_false (fun h' => by cases h.1 h'))
    have HNO : Hid (∀ h : (0 ≤ x ∧ x < sy ∧ (y = 1 ∨ y = -1) ∧ 0 ≤ z ∧ z < st) → False, ruleB sy st ⟨x, y, z⟩ = false) := Lib.hid (fun h => ruleB_false (fun h' => by
      rcases h' with h' | h'
      · exact HN.out h'
      · exact h h'))
    have HYES : Hid (∀ h : (0 ≤ x ∧ x < sy ∧ (y = 1 ∨ y = -1) ∧ 0 ≤ z ∧ z < st), ruleB sy st ⟨x, y, z⟩ = true) := Lib.hid (fun h => ruleB_true (.inr h))
    clear hN s0 t0 s1 t1 HF
    have HSY := Lib.hid (show sy - 1 < sy by omega)
    have HQ := Lib.hid q2
    clear q2
    by_cases a1 : 0 ≤ x
    rotate_left
    · have e := Lib.hid (HNO.out (fun h => a1 h.1))
      rcases HQ.out with q | ⟨q, q'⟩ | ⟨q, q', q''⟩
      all_goals
        go_enter Tryd.func77, Tryd.ntmps77
        go_wp2_with fail
        rw [HW0.out]
        have HD : Hid (Below W0.heap.size W0 W0.drew) := Lib.hid (Below.refl _ _).drew
        go_region_held3 (fun W' => W'.cell? ⟨w.heap.size, 0, none⟩ = some (.int .i64 x) ∧ W'.cell? ⟨w.heap.size, 1, none⟩ = some (.int .i64 y) ∧ W'.cell? ⟨w.heap.size, 2, none⟩ = some (.int .i64 z)) (exact HS.out _ HD.out)
          (first | (go_at_call 78; with_reducible refine (specNone _).mono ?_; rintro e w3 ⟨rfl, bq⟩; replace HD := Lib.hid (HD.out.trans (bq.mono HD.out.size)); clear bq))
        obtain ⟨c0, c1, c2⟩ := HS.out _ HD.out
        go_wp2
        go_ret
        exact ⟨by rw [e.out] <;> rfl, HB0.out.trans (HD.out.mono HB0.out.size)⟩
    by_cases a2 : x ≤ sy - 1
    rotate_left
    · have e := Lib.hid (HNO.out (fun h => a2 (by omega)))
      rcases HQ.out with q | ⟨q, q'⟩ | ⟨q, q', q''⟩
      all_goals
        go_enter Tryd.func77, Tryd.ntmps77
        go_wp2_with fail
        rw [HW0.out]
        have HD : Hid (Below W0.heap.size W0 W0.drew) := Lib.hid (Below.refl _ _).drew
        go_region_held3 (fun W' => W'.cell? ⟨w.heap.size, 0, none⟩ = some (.int .i64 x) ∧ W'.cell? ⟨w.heap.size, 1, none⟩ = some (.int .i64 y) ∧ W'.cell? ⟨w.heap.size, 2, none⟩ = some (.int .i64 z)) (exact HS.out _ HD.out)
          (first | (go_at_call 78; with_reducible refine (specNone _).mono ?_; rintro e w3 ⟨rfl, bq⟩; replace HD := Lib.hid (HD.out.trans (bq.mono HD.out.size)); clear bq))
        obtain ⟨c0, c1, c2⟩ := HS.out _ HD.out
        go_wp2
        go_ret
        exact ⟨by rw [e.out] <;> rfl, HB0.out.trans (HD.out.mono HB0.out.size)⟩
    by_cases a3 : y = 1 ∨ y = -1
    rotate_left
    · have e := Lib.hid (HNO.out (fun h => a3 (by omega)))
      have b1 : (y == 1) = false := by simp only [beq_eq_false_iff_ne]; omega
      have b2 : (y == -1) = false := by simp only [beq_eq_false_iff_ne]; omega
      clear a3
      rcases HQ.out with q | ⟨q, q'⟩ | ⟨q, q', q''⟩
      all_goals
        go_enter Tryd.func77, Tryd.ntmps77
        go_wp2_with fail
        rw [HW0.out]
        have HD : Hid (Below W0.heap.size W0 W0.drew) := Lib.hid (Below.refl _ _).drew
        go_region_held3 (fun W' => W'.cell? ⟨w.heap.size, 0, none⟩ = some (.int .i64 x) ∧ W'.cell? ⟨w.heap.size, 1, none⟩ = some (.int .i64 y) ∧ W'.cell? ⟨w.heap.size, 2, none⟩ = some (.int .i64 z)) (exact HS.out _ HD.out)
          (first | (go_at_call 78; with_reducible refine (specNone _).mono ?_; rintro e w3 ⟨rfl, bq⟩; replace HD := Lib.hid (HD.out.trans (bq.mono HD.out.size)); clear bq))
        obtain ⟨c0, c1, c2⟩ := HS.out _ HD.out
        go_wp2
        go_ret
        exact ⟨by rw [e.out] <;> rfl, HB0.out.trans (HD.out.mono HB0.out.size)⟩
    rcases a3 with a3 | a3
    · have b1 : (y == 1) = true := by simp only [beq_iff_eq]; omega
      have HY := Lib.hid a3
      clear a3
      by_cases a4 : 0 ≤ z
      rotate_left
      · have e := Lib.hid (HNO.out (fun h => a4 h.2.2.2.1))
        rcases HQ.out with q | ⟨q, q'⟩ | ⟨q, q', q''⟩
        all_goals
          go_enter Tryd.func77, Tryd.ntmps77
          go_wp2_with fail
          rw [HW0.out]
          have HD : Hid (Below W0.heap.size W0 W0.drew) := Lib.hid (Below.refl _ _).drew
          go_region_held3 (fun W' => W'.cell? ⟨w.heap.size, 0, none⟩ = some (.int .i64 x) ∧ W'.cell? ⟨w.heap.size, 1, none⟩ = some (.int .i64 y) ∧ W'.cell? ⟨w.heap.size, 2, none⟩ = some (.int .i64 z)) (exact HS.out _ HD.out)
            (first | (go_at_call 78; with_reducible refine (specNone _).mono ?_; rintro e w3 ⟨rfl, bq⟩; replace HD := Lib.hid (HD.out.trans (bq.mono HD.out.size)); clear bq))
          obtain ⟨c0, c1, c2⟩ := HS.out _ HD.out
          go_wp2
          go_ret
          exact ⟨by rw [e.out] <;> rfl, HB0.out.trans (HD.out.mono HB0.out.size)⟩
      by_cases a5 : z ≤ st - 1
      rotate_left
      · have d5 : decide (z ≤ st - 1) = false := decide_eq_false a5
        have e := Lib.hid (HNO.out (fun h => a5 (by omega)))
        rcases HQ.out with q | ⟨q, q'⟩ | ⟨q, q', q''⟩
        all_goals
          go_enter Tryd.func77, Tryd.ntmps77
          go_wp2_with fail
          rw [HW0.out]
          have HD : Hid (Below W0.heap.size W0 W0.drew) := Lib.hid (Below.refl _ _).drew
          go_region_held3 (fun W' => W'.cell? ⟨w.heap.size, 0, none⟩ = some (.int .i64 x) ∧ W'.cell? ⟨w.heap.size, 1, none⟩ = some (.int .i64 y) ∧ W'.cell? ⟨w.heap.size, 2, none⟩ = some (.int .i64 z)) (exact HS.out _ HD.out)
            (first | (go_at_call 78; with_reducible refine (specNone _).mono ?_; rintro e w3 ⟨rfl, bq⟩; replace HD := Lib.hid (HD.out.trans (bq.mono HD.out.size)); clear bq))
          obtain ⟨c0, c1, c2⟩ := HS.out _ HD.out
          go_wp2
          go_ret
          exact ⟨by rw [e.out] <;> rfl, HB0.out.trans (HD.out.mono HB0.out.size)⟩
      have d5 : decide (z ≤ st - 1) = true := decide_eq_true a5
      have e := Lib.hid (HYES.out ⟨a1, by omega, by have := HY.out; omega, a4, by omega⟩)
      rcases HQ.out with q | ⟨q, q'⟩ | ⟨q, q', q''⟩
      all_goals
        go_enter Tryd.func77, Tryd.ntmps77
        go_wp2_with fail
        rw [HW0.out]
        have HD : Hid (Below W0.heap.size W0 W0.drew) := Lib.hid (Below.refl _ _).drew
        go_region_held3 (fun W' => W'.cell? ⟨w.heap.size, 0, none⟩ = some (.int .i64 x) ∧ W'.cell? ⟨w.heap.size, 1, none⟩ = some (.int .i64 y) ∧ W'.cell? ⟨w.heap.size, 2, none⟩ = some (.int .i64 z)) (exact HS.out _ HD.out)
          (first | (go_at_call 78; with_reducible refine (specNone _).mono ?_; rintro e w3 ⟨rfl, bq⟩; replace HD := Lib.hid (HD.out.trans (bq.mono HD.out.size)); clear bq))
        obtain ⟨c0, c1, c2⟩ := HS.out _ HD.out
        go_wp2
        go_ret
        exact ⟨by rw [e.out] <;> rfl, HB0.out.trans (HD.out.mono HB0.out.size)⟩
    · have b1 : (y == 1) = false := by simp only [beq_eq_false_iff_ne]; omega
      have b2 : (y == -1) = true := by simp only [beq_iff_eq]; omega
      have HY := Lib.hid a3
      clear a3
      by_cases a4 : 0 ≤ z
      rotate_left
      · have e := Lib.hid (HNO.out (fun h => a4 h.2.2.2.1))
        rcases HQ.out with q | ⟨q, q'⟩ | ⟨q, q', q''⟩
        all_goals
          go_enter Tryd.func77, Tryd.ntmps77
          go_wp2_with fail
          rw [HW0.out]
          have HD : Hid (Below W0.heap.size W0 W0.drew) := Lib.hid (Below.refl _ _).drew
          go_region_held3 (fun W' => W'.cell? ⟨w.heap.size, 0, none⟩ = some (.int .i64 x) ∧ W'.cell? ⟨w.heap.size, 1, none⟩ = some (.int .i64 y) ∧ W'.cell? ⟨w.heap.size, 2, none⟩ = some (.int .i64 z)) (exact HS.out _ HD.out)
            (first | (go_at_call 78; with_reducible refine (specNone _).mono ?_; rintro e w3 ⟨rfl, bq⟩; replace HD := Lib.hid (HD.out.trans (bq.mono HD.out.size)); clear bq))
          obtain ⟨c0, c1, c2⟩ := HS.out _ HD.out
          go_wp2
          go_ret
          exact ⟨by rw [e.out] <;> rfl, HB0.out.trans (HD.out.mono HB0.out.size)⟩
      by_cases a5 : z ≤ st - 1
      rotate_left
      · have d5 : decide (z ≤ st - 1) = false := decide_eq_false a5
        have e := Lib.hid (HNO.out (fun h => a5 (by omega)))
        rcases HQ.out with q | ⟨q, q'⟩ | ⟨q, q', q''⟩
        all_goals
          go_enter Tryd.func77, Tryd.ntmps77
          go_wp2_with fail
          rw [HW0.out]
          have HD : Hid (Below W0.heap.size W0 W0.drew) := Lib.hid (Below.refl _ _).drew
          go_region_held3 (fun W' => W'.cell? ⟨w.heap.size, 0, none⟩ = some (.int .i64 x) ∧ W'.cell? ⟨w.heap.size, 1, none⟩ = some (.int .i64 y) ∧ W'.cell? ⟨w.heap.size, 2, none⟩ = some (.int .i64 z)) (exact HS.out _ HD.out)
            (first | (go_at_call 78; with_reducible refine (specNone _).mono ?_; rintro e w3 ⟨rfl, bq⟩; replace HD := Lib.hid (HD.out.trans (bq.mono HD.out.size)); clear bq))
          obtain ⟨c0, c1, c2⟩ := HS.out _ HD.out
          go_wp2
          go_ret
          exact ⟨by rw [e.out] <;> rfl, HB0.out.trans (HD.out.mono HB0.out.size)⟩
      have d5 : decide (z ≤ st - 1) = true := decide_eq_true a5
      have e := Lib.hid (HYES.out ⟨a1, by omega, by have := HY.out; omega, a4, by omega⟩)
      rcases HQ.out with q | ⟨q, q'⟩ | ⟨q, q', q''⟩
      all_goals
        go_enter Tryd.func77, Tryd.ntmps77
        go_wp2_with fail
        rw [HW0.out]
        have HD : Hid (Below W0.heap.size W0 W0.drew) := Lib.hid (Below.refl _ _).drew
        go_region_held3 (fun W' => W'.cell? ⟨w.heap.size, 0, none⟩ = some (.int .i64 x) ∧ W'.cell? ⟨w.heap.size, 1, none⟩ = some (.int .i64 y) ∧ W'.cell? ⟨w.heap.size, 2, none⟩ = some (.int .i64 z)) (exact HS.out _ HD.out)
          (first | (go_at_call 78; with_reducible refine (specNone _).mono ?_; rintro e w3 ⟨rfl, bq⟩; replace HD := Lib.hid (HD.out.trans (bq.mono HD.out.size)); clear bq))
        obtain ⟨c0, c1, c2⟩ := HS.out _ HD.out
        go_wp2
        go_ret
        exact ⟨by rw [e.out] <;> rfl, HB0.out.trans (HD.out.mono HB0.out.size)⟩
set_option maxHeartbeats 4000000 in
theorem implAllows (x y z sy st : Int) (a : Option Addr) (n c : Nat) (w : World) (hnr : NoR w) :
    Calls Tryd.prog 83 #[.agg #[.int .i64 sy, .int .i64 st, .slice a n c], .agg #[.int .i64 x, .int .i64 y, .int .i64 z]] w fun e w' => e = .returned (.bool (ruleB sy st ⟨x, y, z⟩)) ∧ Below w.heap.size w w' := by
  have HB0 : Hid (Below w.heap.size w ((w.alloc (Obj.cells #[.int .i64 sy, .int .i64 st, .slice a n c] 29)).alloc (Obj.cells #[.int .i64 x, .int .i64 y, .int .i64 z] 86))) := Lib.hid (((Below.refl _ _).alloc (Nat.le_refl _) _).alloc (by simp) _)
  obtain ⟨n0, n1, n2⟩ := hnr.below HB0.out (Nat.le_refl _)
  clear hnr
  by_cases hN : x = 0 ∧ y = 0 ∧ z = -1
  · have e := Lib.hid (ruleB_true (sy := sy) (st := st) (r := ⟨x, y, z⟩) (.inl hN))
    obtain ⟨rfl, rfl, rfl⟩ := hN
    have hq := eqR_yes
    go_enter Tryd.func83, Tryd.ntmps83
    go_wp2
    go_ret
    exact ⟨by rw [e.out] <;> rfl, HB0.out⟩
  · have HN := Lib.hid hN
    have q2 : ((x == 0) = false ∨ ((x == 0) = true ∧ (y == 0) = false) ∨ ((x == 0) = true ∧ (y == 0) = true ∧ (z == -1) = false)) := by
      simp only [beq_eq_false_iff_ne, beq_iff_eq]; omega
    have HNO : Hid (∀ h : (0 ≤ x ∧ x < sy ∧ (y = 1 ∨ y = -1) ∧ 0 ≤ z ∧ z < st) → False, ruleB sy st ⟨x, y, z⟩ = false) := Lib.hid (fun h => ruleB_false (fun h' => by
      rcases h' with h' | h'
      · exact HN.out h'
      · exact h h'))
    have HYES : Hid (∀ h : (0 ≤ x ∧ x < sy ∧ (y = 1 ∨ y = -1) ∧ 0 ≤ z ∧ z < st), ruleB sy st ⟨x, y, z⟩ = true) := Lib.hid (fun h => ruleB_true (.inr h))
    have HQ := Lib.hid q2
    clear q2 hN
    by_cases a1 : 0 ≤ x
    rotate_left
    · have e := Lib.hid (HNO.out (fun h => a1 h.1))
      rcases HQ.out with q | ⟨q, q'⟩ | ⟨q, q', q''⟩
      all_goals
        go_enter Tryd.func83, Tryd.ntmps83
        go_wp2
        go_ret
        exact ⟨by rw [e.out] <;> rfl, HB0.out⟩
    by_cases a2 : x < sy
    rotate_left
    · have e := Lib.hid (HNO.out (fun h => a2 (by omega)))
      rcases HQ.out with q | ⟨q, q'⟩ | ⟨q, q', q''⟩
      all_goals
        go_enter Tryd.func83, Tryd.ntmps83
        go_wp2
        go_ret
        exact ⟨by rw [e.out] <;> rfl, HB0.out⟩
    by_cases a3 : y = -1 ∨ y = 1
    rotate_left
    · have e := Lib.hid (HNO.out (fun h => a3 (by omega)))
      have b1 : (y == -1) = false := by simp only [beq_eq_false_iff_ne]; omega
      have b2 : (y == 1) = false := by simp only [beq_eq_false_iff_ne]; omega
      clear a3
      rcases HQ.out with q | ⟨q, q'⟩ | ⟨q, q', q''⟩
      all_goals
        go_enter Tryd.func83, Tryd.ntmps83
        go_wp2
        go_ret
        exact ⟨by rw [e.out] <;> rfl, HB0.out⟩
    rcases a3 with a3 | a3
    · have b1 : (y == -1) = true := by simp only [beq_iff_eq]; omega
      have HY := Lib.hid a3
      clear a3
      by_cases a4 : 0 ≤ z
      rotate_left
      · have e := Lib.hid (HNO.out (fun h => a4 h.2.2.2.1))
        rcases HQ.out with q | ⟨q, q'⟩ | ⟨q, q', q''⟩
        all_goals
          go_enter Tryd.func83, Tryd.ntmps83
          go_wp2
          go_ret
          exact ⟨by rw [e.out] <;> rfl, HB0.out⟩
      by_cases a5 : z < st
      rotate_left
      · have d5 : decide (z < st) = false := decide_eq_false a5
        have e := Lib.hid (HNO.out (fun h => a5 (by omega)))
        rcases HQ.out with q | ⟨q, q'⟩ | ⟨q, q', q''⟩
        all_goals
          go_enter Tryd.func83, Tryd.ntmps83
          go_wp2
          go_ret
          exact ⟨by rw [e.out] <;> rfl, HB0.out⟩
      have d5 : decide (z < st) = true := decide_eq_true a5
      have e := Lib.hid (HYES.out ⟨a1, by omega, by have := HY.out; omega, a4, by omega⟩)
      rcases HQ.out with q | ⟨q, q'⟩ | ⟨q, q', q''⟩
      all_goals
        go_enter Tryd.func83, Tryd.ntmps83
        go_wp2
        go_ret
        exact ⟨by rw [e.out] <;> rfl, HB0.out⟩
    · have b1 : (y == -1) = false := by simp only [beq_eq_false_iff_ne]; omega
      have b2 : (y == 1) = true := by simp only [beq_iff_eq]; omega
      have HY := Lib.hid a3
      clear a3
      by_cases a4 : 0 ≤ z
      rotate_left
      · have e := Lib.hid (HNO.out (fun h => a4 h.2.2.2.1))
        rcases HQ.out with q | ⟨q, q'⟩ | ⟨q, q', q''⟩
        all_goals
          go_enter Tryd.func83, Tryd.ntmps83
          go_wp2
          go_ret
          exact ⟨by rw [e.out] <;> rfl, HB0.out⟩
      by_cases a5 : z < st
      rotate_left
      · have d5 : decide (z < st) = false := decide_eq_false a5
        have e := Lib.hid (HNO.out (fun h => a5 (by omega)))
        rcases HQ.out with q | ⟨q, q'⟩ | ⟨q, q', q''⟩
        all_goals
          go_enter Tryd.func83, Tryd.ntmps83
          go_wp2
          go_ret
          exact ⟨by rw [e.out] <;> rfl, HB0.out⟩
      have d5 : decide (z < st) = true := decide_eq_true a5
      have e := Lib.hid (HYES.out ⟨a1, by omega, by have := HY.out; omega, a4, by omega⟩)
      rcases HQ.out with q | ⟨q, q'⟩ | ⟨q, q', q''⟩
      all_goals
        go_enter Tryd.func83, Tryd.ntmps83
        go_wp2
        go_ret
        exact ⟨by rw [e.out] <;> rfl, HB0.out⟩
end Go.Proofs.YtmbojhlcmgknbaaDoor.Ints
