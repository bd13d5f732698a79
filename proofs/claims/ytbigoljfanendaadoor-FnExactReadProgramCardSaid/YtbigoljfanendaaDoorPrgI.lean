/- The program's test of programs of register machines. -/
import Derived.Test.YtbigoljfanendaaDoorPrg
import Derived.Test.YtbigoljfanendaaDoorInsL
import Derived.Deep.RegionHeld3
namespace Go.Proofs.YtbigoljfanendaaDoor.Ints
open Go.RowKit
set_option linter.unusedVariables false
set_option linter.unusedSimpArgs false
def eqI4 (x y z u x' y' z' u' : Int) : Bool := x == x' && (y == y' && (z == z' && u == u'))
theorem eqlIns (w : World) (x y z u x' y' z' u' : Int) : (binOp .eql 74 (.agg #[.int .i64 x, .int .i64 y, .int .i64 z, .int .i64 u]) (.agg #[.int .i64 x', .int .i64 y', .int .i64 z', .int .i64 u'])).run Tryd.prog w = .ok (.bool (eqI4 x y z u x' y' z' u')) w := by
  by_cases h1 : x = x' <;> by_cases h2 : y = y' <;> by_cases h3 : z = z' <;> by_cases h4 : u = u' <;> simp [go_sem, eqI4, h1, h2, h3, h4]
attribute [local go_sem] eqlIns
theorem implInc (r t : Int) (w : World) : Calls Tryd.prog 89 #[.int .i64 r, .int .i64 t] w fun e w' => e = .returned (.agg #[.int .i64 0, .int .i64 r, .int .i64 t, .int .i64 0]) ∧ Below w.heap.size w w' := by
  go_enter Tryd.func89, Tryd.ntmps89
  go_wp2
  refine bodyPost_ret (v := .agg #[.int .i64 0, .int .i64 r, .int .i64 t, .int .i64 0]) (by simp [results, Tryd.f89, go_sem]) rfl ⟨rfl, (Below.refl _ _).alloc (Nat.le_refl _) _⟩
theorem eqI4_of (x y z u : Int) (b : Bool) (h : b = true ↔ (x = 0 ∧ u = 0)) : eqI4 x y z u 0 y z 0 = b := by
  cases b with
  | true => obtain ⟨rfl, rfl⟩ := h.1 rfl; simp [eqI4]
  | false =>
    have : ¬ (x = 0 ∧ u = 0) := fun h' => by cases h.2 h'
    by_cases h1 : x = 0
    · have : u ≠ 0 := fun h2 => this ⟨h1, h2⟩
      simp [eqI4, h1, this]
    · simp [eqI4, h1]
set_option maxHeartbeats 4000000 in
theorem implFits (x y z u : Int) (a : Option Addr) (n c : Nat) (w : World) (hn : n ≤ 16777216) :
    Calls Tryd.prog 94 #[.agg #[.int .i64 x, .int .i64 y, .int .i64 z, .int .i64 u], .slice a n c] w fun e w' => e = .returned (.bool (insB n ⟨x, y, z, u⟩)) ∧ Below w.heap.size w w' := by
  have HB0 : Hid (Below w.heap.size w (w.alloc (Obj.cells #[.int .i64 x, .int .i64 y, .int .i64 z, .int .i64 u] 74))) := Lib.hid ((Below.refl _ _).alloc (Nat.le_refl _) _)
  have HNO : Hid (¬ InsOk n ⟨x, y, z, u⟩ → insB n ⟨x, y, z, u⟩ = false) := Lib.hid insB_false
  have HYES : Hid (InsOk n ⟨x, y, z, u⟩ → insB n ⟨x, y, z, u⟩ = true) := Lib.hid insB_true
  obtain ⟨N, hN⟩ : ∃ N : Int, N = (n : Int) + 1 := ⟨_, rfl⟩
  have en : IntKind.i64.wrap ((n : Int) + 1) = N := by rw [IntKind.wrap_i64]; omega
  have HN := Lib.hid hN
  clear hN hn
  by_cases y0 : 0 ≤ y
  rotate_left
  · have e := Lib.hid (HNO.out (fun h => y0 h.1.1))
    go_enter Tryd.func94, Tryd.ntmps94
    go_wp2
    go_ret
    exact ⟨by rw [e.out] <;> rfl, HB0.out⟩
  by_cases y1 : y < 24
  rotate_left
  · have e := Lib.hid (HNO.out (fun h => y1 (by have := h.1.2; dsimp only at this; omega)))
    have d1 : decide (y < 24) = false := decide_eq_false y1
    clear y1
    go_enter Tryd.func94, Tryd.ntmps94
    go_wp2
    go_ret
    exact ⟨by rw [e.out] <;> rfl, HB0.out⟩
  have d1 : decide (y < 24) = true := decide_eq_true y1
  by_cases z0 : 0 ≤ z
  rotate_left
  · have e := Lib.hid (HNO.out (fun h => z0 h.2.1.1))
    go_enter Tryd.func94, Tryd.ntmps94
    go_wp2
    go_ret
    exact ⟨by rw [e.out] <;> rfl, HB0.out⟩
  by_cases z1 : z < N
  rotate_left
  · have e := Lib.hid (HNO.out (fun h => z1 (by have := h.2.1.2; have := HN.out; dsimp only at *; omega)))
    have d2 : decide (z < N) = false := decide_eq_false z1
    clear z1
    go_enter Tryd.func94, Tryd.ntmps94
    go_wp2
    go_ret
    exact ⟨by rw [e.out] <;> rfl, HB0.out⟩
  have d2 : decide (z < N) = true := decide_eq_true z1
  have HR : Hid ((0 ≤ y ∧ y ≤ 23) ∧ (0 ≤ z ∧ z ≤ (n : Int))) := Lib.hid ⟨⟨y0, by omega⟩, ⟨z0, by have := HN.out; omega⟩⟩
  by_cases x1 : x = 1
  · subst x1
    have k1 : ((1 : Int) == 1) = true := rfl
    by_cases u0 : 0 ≤ u
    rotate_left
    · have e := Lib.hid (HNO.out (fun h => by rcases h.2.2 with ⟨h5, _⟩ | ⟨_, h5, _⟩ <;> dsimp only at h5 <;> omega))
      go_enter Tryd.func94, Tryd.ntmps94
      go_wp2
      go_ret
      exact ⟨by rw [e.out] <;> rfl, HB0.out⟩
    by_cases u1 : u < N
    rotate_left
    · have e := Lib.hid (HNO.out (fun h => by rcases h.2.2 with ⟨h5, _⟩ | ⟨_, _, h5⟩ <;> have := HN.out <;> dsimp only at h5 <;> omega))
      have d3 : decide (u < N) = false := decide_eq_false u1
      clear u1
      go_enter Tryd.func94, Tryd.ntmps94
      go_wp2
      go_ret
      exact ⟨by rw [e.out] <;> rfl, HB0.out⟩
    have d3 : decide (u < N) = true := decide_eq_true u1
    have e := Lib.hid (HYES.out ⟨HR.out.1, HR.out.2, .inr ⟨rfl, u0, by have := HN.out; dsimp only; omega⟩⟩)
    go_enter Tryd.func94, Tryd.ntmps94
    go_wp2
    go_ret
    exact ⟨by rw [e.out] <;> rfl, HB0.out⟩
  · have k1 : (x == 1) = false := by simp only [beq_eq_false_iff_ne]; exact x1
    have q2 : ((x == 0) = false ∨ ((x == 0) = true ∧ (u == 0) = false) ∨ ((x == 0) = true ∧ (u == 0) = true)) := by
      simp only [beq_eq_false_iff_ne, beq_iff_eq]; omega
    have HQ := Lib.hid q2
    have HX1 := Lib.hid x1
    obtain ⟨W0, hW0⟩ : ∃ W, W = w.alloc (Obj.cells #[.int .i64 x, .int .i64 y, .int .i64 z, .int .i64 u] 74) := ⟨_, rfl⟩
    have HK : Hid (Cels W0 w.heap.size 74 [.int .i64 x, .int .i64 y, .int .i64 z, .int .i64 u]) := Lib.hid (by rw [hW0]; exact Cels.new _ _ _)
    have HS : Hid (∀ W', Below W0.heap.size W0 W' → W'.cell? ⟨w.heap.size, 0, none⟩ = some (.int .i64 x) ∧ W'.cell? ⟨w.heap.size, 1, none⟩ = some (.int .i64 y) ∧ W'.cell? ⟨w.heap.size, 2, none⟩ = some (.int .i64 z) ∧ W'.cell? ⟨w.heap.size, 3, none⟩ = some (.int .i64 u)) := Lib.hid (fun W' h =>
      ⟨(HK.out.below h HK.out.lt).cell 0 rfl, (HK.out.below h HK.out.lt).cell 1 rfl, (HK.out.below h HK.out.lt).cell 2 rfl, (HK.out.below h HK.out.lt).cell 3 rfl⟩)
    have HB1 : Hid (Below w.heap.size w W0) := Lib.hid (by rw [hW0]; exact HB0.out)
    have HW0 := Lib.hid hW0.symm
    clear hW0 x1 q2
    rcases HQ.out with q | ⟨q, q'⟩ | ⟨q, q'⟩
    · have e := Lib.hid (HNO.out (fun h => h.2.2.elim (fun h5 => by have := h5.1; dsimp only at this; simp [this] at q) (fun h5 => HX1.out h5.1)))
      go_enter Tryd.func94, Tryd.ntmps94
      go_wp2
      rw [HW0.out]
      have HD : Hid (Below W0.heap.size W0 W0.drew) := Lib.hid (Below.refl _ _).drew
      go_region_held3 (fun W' => W'.cell? ⟨w.heap.size, 0, none⟩ = some (.int .i64 x) ∧ W'.cell? ⟨w.heap.size, 1, none⟩ = some (.int .i64 y) ∧ W'.cell? ⟨w.heap.size, 2, none⟩ = some (.int .i64 z) ∧ W'.cell? ⟨w.heap.size, 3, none⟩ = some (.int .i64 u)) (exact HS.out _ HD.out)
        (first | (go_at_call 89; with_reducible refine (implInc y z _).mono ?_; rintro e3 w3 ⟨rfl, bq⟩; replace HD := Lib.hid (HD.out.trans (bq.mono HD.out.size)); clear bq))
      all_goals (go_wp2; go_ret; exact ⟨by rw [e.out] <;> rfl, HB1.out.trans (HD.out.mono HB1.out.size)⟩)
    · have e := Lib.hid (HNO.out (fun h => h.2.2.elim (fun h5 => by have := h5.2; dsimp only at this; simp [this] at q') (fun h5 => HX1.out h5.1)))
      go_enter Tryd.func94, Tryd.ntmps94
      go_wp2
      rw [HW0.out]
      have HD : Hid (Below W0.heap.size W0 W0.drew) := Lib.hid (Below.refl _ _).drew
      go_region_held3 (fun W' => W'.cell? ⟨w.heap.size, 0, none⟩ = some (.int .i64 x) ∧ W'.cell? ⟨w.heap.size, 1, none⟩ = some (.int .i64 y) ∧ W'.cell? ⟨w.heap.size, 2, none⟩ = some (.int .i64 z) ∧ W'.cell? ⟨w.heap.size, 3, none⟩ = some (.int .i64 u)) (exact HS.out _ HD.out)
        (first | (go_at_call 89; with_reducible refine (implInc y z _).mono ?_; rintro e3 w3 ⟨rfl, bq⟩; replace HD := Lib.hid (HD.out.trans (bq.mono HD.out.size)); clear bq))
      all_goals (go_wp2; go_ret; exact ⟨by rw [e.out] <;> rfl, HB1.out.trans (HD.out.mono HB1.out.size)⟩)
    · have e := Lib.hid (HYES.out ⟨HR.out.1, HR.out.2, .inl ⟨by simpa using q, by simpa using q'⟩⟩)
      go_enter Tryd.func94, Tryd.ntmps94
      go_wp2
      rw [HW0.out]
      have HD : Hid (Below W0.heap.size W0 W0.drew) := Lib.hid (Below.refl _ _).drew
      go_region_held3 (fun W' => W'.cell? ⟨w.heap.size, 0, none⟩ = some (.int .i64 x) ∧ W'.cell? ⟨w.heap.size, 1, none⟩ = some (.int .i64 y) ∧ W'.cell? ⟨w.heap.size, 2, none⟩ = some (.int .i64 z) ∧ W'.cell? ⟨w.heap.size, 3, none⟩ = some (.int .i64 u)) (exact HS.out _ HD.out)
        (first | (go_at_call 89; with_reducible refine (implInc y z _).mono ?_; rintro e3 w3 ⟨rfl, bq⟩; replace HD := Lib.hid (HD.out.trans (bq.mono HD.out.size)); clear bq))
      all_goals (go_wp2; go_ret; exact ⟨by rw [e.out] <;> rfl, HB1.out.trans (HD.out.mono HB1.out.size)⟩)
theorem closPrg (x y z u : Int) (a : Option Addr) (n c g : Nat) (w : World) (hn : n ≤ 16777216) (a0 : w.cell? ⟨g, 0, none⟩ = some (.slice a n c)) :
    Calls Tryd.prog 93 #[.agg #[.int .i64 x, .int .i64 y, .int .i64 z, .int .i64 u], .pointer (some ⟨g, 0, none⟩)] w fun e w' => e = .returned (.bool (!insB n ⟨x, y, z, u⟩)) ∧ Below w.heap.size w w' := by
  have HB : Hid (Below w.heap.size w (w.alloc (Obj.cells #[.int .i64 x, .int .i64 y, .int .i64 z, .int .i64 u] 74))) := Lib.hid ((Below.refl _ _).alloc (Nat.le_refl _) _)
  have l0 := World.block_lt_of_cell? w _ a0
  replace a0 := (HB.out.cell (p := ⟨g, 0, none⟩) l0).trans a0
  clear l0
  go_enter Tryd.func93, Tryd.ntmps93
  go_wp2_with fail
  refine (implFits x y z u _ _ _ _ hn).mono ?_
  rintro e w1 ⟨rfl, hb⟩
  have HB1 := Lib.hid (HB.out.trans (hb.mono HB.out.size))
  clear hb
  go_wp2
  go_ret
  exact ⟨rfl, HB1.out⟩
set_option maxHeartbeats 2000000 in
theorem indexPrg (v : Value) (rs : List Ins) (g : Nat) (w : World) (h : RdIns w v rs) (k0 : w.cell? ⟨g, 0, none⟩ = some v) :
    Calls Tryd.prog 133 #[v, .func (Fn.func 93) #[] #[.pointer (some ⟨g, 0, none⟩)]] w fun e w' =>
      ∃ r : Int, e = .returned (.int .i64 r) ∧ decide (0 ≤ r) = !allP rs ∧ Below w.heap.size w w' := by
  obtain ⟨hl, hf, a, c, rfl, hcap, hr⟩ := h
  have HK : Hid (∀ W, Below w.heap.size w W → W.cell? ⟨g, 0, none⟩ = some (.slice a rs.length c)) := Lib.hid (fun W hW => by
    have l0 := World.block_lt_of_cell? w _ k0
    exact (hW.cell (p := ⟨g, 0, none⟩) l0).trans k0)
  clear k0
  go_enter Tryd.func133, Tryd.ntmps133
  go_wp2
  go_loopw [8] (fun s wr => ∃ k : Nat, k ≤ rs.length ∧ s = .int .i64 k ∧ (∀ i, i < k → InsOk rs.length (rs.getD i zIns)) ∧ Below w.heap.size w wr) (fun s _ => rs.length - (intOf s).toNat)
  case atStart => exact ⟨0, Nat.zero_le _, rfl, fun i hi => by omega, Below.refl _ _⟩
  case round =>
    obtain ⟨k, hk, rfl, hall, hbel⟩ := hrel
    have HA := Lib.hid hall
    have HB := Lib.hid hbel
    clear hall
    by_cases hlt : k < rs.length
    · obtain ⟨b, o, rfl, hb, hcell⟩ := hr (by intro h0; rw [h0] at hlt; simp at hlt)
      obtain ⟨c0', c1, c2, c3⟩ := hcell k hlt
      replace c0' := (hbel.cell (p := ⟨b, o + k * 4, none⟩) hb).trans c0'
      replace c1 := (hbel.cell (p := ⟨b, o + k * 4 + 1, none⟩) hb).trans c1
      replace c2 := (hbel.cell (p := ⟨b, o + k * 4 + 2, none⟩) hb).trans c2
      replace c3 := (hbel.cell (p := ⟨b, o + k * 4 + 3, none⟩) hb).trans c3
      obtain ⟨r, hr0⟩ : ∃ r, r = rs.getD k zIns := ⟨_, rfl⟩
      rw [← hr0] at c0' c1 c2 c3
      have HE := Lib.hid hr0
      obtain ⟨x, y, z, u⟩ := r
      clear hcell hbel hr0 hr
      obtain ⟨br, hbr⟩ : ∃ br, br = insB rs.length ⟨x, y, z, u⟩ := ⟨_, rfl⟩
      have HBR := Lib.hid hbr
      clear hbr
      go_wp2_with fail
      refine (closPrg x y z u _ _ _ g _ hl (HK.out _ HB.out)).mono ?_
      rintro e w1 ⟨rfl, hb1⟩
      rw [← HBR.out]
      have HB2 := Lib.hid (HB.out.trans (hb1.mono HB.out.size))
      clear hb1 c0' c1 c2 c3
      rcases eqOr br with hbr | hbr
      · subst hbr
        have HF : Hid (allP rs = false) := Lib.hid (allP_false (fun h => insB_no HBR.out.symm (by rw [HE.out]; exact h k hlt)))
        go_wp2
        go_ret
        exact ⟨k, rfl, by rw [HF.out]; simp, HB2.out⟩
      · subst hbr
        have HA2 : Hid (∀ i, i < k + 1 → InsOk rs.length (rs.getD i zIns)) := Lib.hid (fun i hi => by
          by_cases e : i = k
          · subst e; rw [← HE.out]; exact insB_ok HBR.out.symm
          · exact HA.out i (by omega))
        go_wp2
        go_roundw
        case rel => exact ⟨k + 1, by omega, by go_num, HA2.out, HB2.out⟩
        case measure => simp [intOf]; omega
    · obtain rfl : k = rs.length := by omega
      have HF : Hid (allP rs = true) := Lib.hid (allP_true HA.out)
      clear hbel hr
      go_wp2
      go_ret
      exact ⟨-1, rfl, by rw [HF.out]; rfl, HB.out⟩
set_option maxHeartbeats 2000000 in
theorem implValidProgram (v : Value) (rs : List Ins) (w : World) (hv : RdIns w v rs) :
    Calls Tryd.prog 46 #[v] w fun e w' => e = .returned (.bool (progB rs)) ∧ Below w.heap.size w w' := by
  have HV := Lib.hid hv
  obtain ⟨_, _, a, c, rfl, _, _⟩ := hv
  have HB : Hid (Below w.heap.size w (w.alloc (Obj.cells #[.slice a rs.length c] 22))) := Lib.hid ((Below.refl _ _).alloc (Nat.le_refl _) _)
  have K1 := Lib.hid (Cels.new w 22 [.slice a rs.length c])
  by_cases h4 : rs.length ≤ 400
  rotate_left
  · have e := Lib.hid (progB_false (rs := rs) (fun h => h4 h.len))
    have hd : decide ((rs.length : Int) ≤ 400) = false := decide_eq_false (by omega)
    clear h4
    go_enter Tryd.func46, Tryd.ntmps46
    go_wp2
    go_ret
    exact ⟨by rw [e.out] <;> rfl, HB.out⟩
  · have e := Lib.hid (allP_prog h4)
    have hd : decide ((rs.length : Int) ≤ 400) = true := decide_eq_true (by omega)
    clear h4
    go_enter Tryd.func46, Tryd.ntmps46
    go_wp2_with (first | (go_at_call 133; refine (indexPrg _ rs w.heap.size _ (HV.out.below HB.out (Nat.le_refl _)) (K1.out.cell 0 rfl)).mono ?_; rintro e1 w1 ⟨r, rfl, hr1, hb1⟩; have HR := Lib.hid hr1; have HB1 := Lib.hid (HB.out.trans (hb1.mono HB.out.size)); clear hr1 hb1) | go_in)
    go_ret
    refine ⟨?_, HB1.out⟩
    have hr1 := HR.out
    show Ending.returned (Value.bool (!decide (0 ≤ r))) = _
    rw [hr1, e.out]; simp
end Go.Proofs.YtbigoljfanendaaDoor.Ints
