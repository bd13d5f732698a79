/- The contract of the program's ValidMachine. -/
import Derived.Test.YtmbojhlcmgknbaaDoorTurV
namespace Go.Proofs.YtmbojhlcmgknbaaDoor.Ints
open Go.RowKit
set_option linter.unusedVariables false
set_option linter.unusedSimpArgs false
theorem closRule (x y z sy st : Int) (a : Option Addr) (n c g : Nat) (w : World) (hnr : NoR w)
    (a0 : w.cell? ⟨g, 0, none⟩ = some (.int .i64 sy)) (a1 : w.cell? ⟨g, 1, none⟩ = some (.int .i64 st)) (a2 : w.cell? ⟨g, 2, none⟩ = some (.slice a n c)) :
    Calls Tryd.prog 82 #[.agg #[.int .i64 x, .int .i64 y, .int .i64 z], .pointer (some ⟨g, 0, none⟩)] w fun e w' => e = .returned (.bool (!ruleB sy st ⟨x, y, z⟩)) ∧ Below w.heap.size w w' := by
  have HB : Hid (Below w.heap.size w (w.alloc (Obj.cells #[.int .i64 x, .int .i64 y, .int .i64 z] 86))) := Lib.hid ((Below.refl _ _).alloc (Nat.le_refl _) _)
  have HN := Lib.hid (hnr.below HB.out (Nat.le_refl _))
  have l0 := World.block_lt_of_cell? w _ a0
  replace a0 := (HB.out.cell (p := ⟨g, 0, none⟩) l0).trans a0
  replace a1 := (HB.out.cell (p := ⟨g, 1, none⟩) l0).trans a1
  replace a2 := (HB.out.cell (p := ⟨g, 2, none⟩) l0).trans a2
  clear hnr l0
  go_enter Tryd.func82, Tryd.ntmps82
  go_wp2_with fail
  refine (implAllows x y z sy st _ _ _ _ HN.out).mono ?_
  rintro e w1 ⟨rfl, hb⟩
  have HB1 := Lib.hid (HB.out.trans (hb.mono HB.out.size))
  clear hb
  go_wp2
  go_ret
  exact ⟨rfl, HB1.out⟩
open Classical in
noncomputable def allB (sy st : Int) (rs : List Ru) : Bool := decide (∀ i, i < rs.length → RuleOk sy st (rs.getD i ru0))
theorem allB_true {sy st : Int} {rs : List Ru} (h : ∀ i, i < rs.length → RuleOk sy st (rs.getD i ru0)) : allB sy st rs = true := by simp only [allB, decide_eq_true_eq]; exact h
theorem allB_false {sy st : Int} {rs : List Ru} (h : ¬ ∀ i, i < rs.length → RuleOk sy st (rs.getD i ru0)) : allB sy st rs = false := by simp only [allB, decide_eq_false_iff_not]; exact h
theorem allB_mach {sy st : Int} {rs : List Ru} (h : Mhd sy st rs.length) : machB sy st rs = allB sy st rs := by
  by_cases ha : ∀ i, i < rs.length → RuleOk sy st (rs.getD i ru0)
  · rw [allB_true ha, machB_true (h.ok ha)]
  · rw [allB_false ha, machB_false (fun k => ha k.all)]
set_option maxHeartbeats 2000000 in
theorem indexRule (v : Value) (rs : List Ru) (sy st : Int) (a0 : Option Addr) (n0 c0 g : Nat) (w : World) (h : RdR w v rs) (hnr : NoR w)
    (k0 : w.cell? ⟨g, 0, none⟩ = some (.int .i64 sy)) (k1 : w.cell? ⟨g, 1, none⟩ = some (.int .i64 st)) (k2 : w.cell? ⟨g, 2, none⟩ = some (.slice a0 n0 c0)) :
    Calls Tryd.prog 112 #[v, .func (Fn.func 82) #[] #[.pointer (some ⟨g, 0, none⟩)]] w fun e w' =>
      ∃ r : Int, e = .returned (.int .i64 r) ∧ decide (0 ≤ r) = !allB sy st rs ∧ Below w.heap.size w w' := by
  obtain ⟨hl, hf, a, c, rfl, hcap, hr⟩ := h
  have HK : Hid (∀ W, Below w.heap.size w W → NoR W ∧ W.cell? ⟨g, 0, none⟩ = some (.int .i64 sy) ∧ W.cell? ⟨g, 1, none⟩ = some (.int .i64 st) ∧ W.cell? ⟨g, 2, none⟩ = some (.slice a0 n0 c0)) := Lib.hid (fun W hW => by
    have l0 := World.block_lt_of_cell? w _ k0
    exact ⟨hnr.below hW (Nat.le_refl _), (hW.cell (p := ⟨g, 0, none⟩) l0).trans k0, (hW.cell (p := ⟨g, 1, none⟩) l0).trans k1, (hW.cell (p := ⟨g, 2, none⟩) l0).trans k2⟩)
  clear hnr k0 k1 k2
  go_enter Tryd.func112, Tryd.ntmps112
  go_wp2
  go_loopw [8] (fun s wr => ∃ k : Nat, k ≤ rs.length ∧ s = .int .i64 k ∧ (∀ i, i < k → RuleOk sy st (rs.getD i ru0)) ∧ Below w.heap.size w wr) (fun s _ => rs.length - (intOf s).toNat)
  case atStart => exact ⟨0, Nat.zero_le _, rfl, fun i hi => by omega, Below.refl _ _⟩
  case round =>
    obtain ⟨k, hk, rfl, hall, hbel⟩ := hrel
    have HA := Lib.hid hall
    have HB := Lib.hid hbel
    clear hall
    by_cases hlt : k < rs.length
    · obtain ⟨b, o, rfl, hb, hcell⟩ := hr (by intro h0; rw [h0] at hlt; simp at hlt)
      obtain ⟨c0', c1, c2⟩ := hcell k hlt
      replace c0' := (hbel.cell (p := ⟨b, o + k * 3, none⟩) hb).trans c0'
      replace c1 := (hbel.cell (p := ⟨b, o + k * 3 + 1, none⟩) hb).trans c1
      replace c2 := (hbel.cell (p := ⟨b, o + k * 3 + 2, none⟩) hb).trans c2
      obtain ⟨r, hr0⟩ : ∃ r, r = rs.getD k ru0 := ⟨_, rfl⟩
      rw [← hr0] at c0' c1 c2
      have HE := Lib.hid hr0
      obtain ⟨x, y, z⟩ := r
      clear hcell hbel hr0 hr
      obtain ⟨br, hbr⟩ : ∃ br, br = ruleB sy st ⟨x, y, z⟩ := ⟨_, rfl⟩
      have HBR := Lib.hid hbr
      clear hbr
      go_wp2_with fail
      obtain ⟨q0, q1, q2, q3⟩ := HK.out _ HB.out
      refine (closRule x y z sy st _ _ _ g _ q0 q1 q2 q3).mono ?_
      rintro e w1 ⟨rfl, hb1⟩
      rw [← HBR.out]
      have HB2 := Lib.hid (HB.out.trans (hb1.mono HB.out.size))
      clear q0 q1 q2 q3 hb1 c0' c1 c2
      rcases eqOr br with hbr | hbr
      · subst hbr
        have HF : Hid (allB sy st rs = false) := Lib.hid (allB_false (fun h => ruleB_no HBR.out.symm (by rw [HE.out]; exact h k hlt)))
        go_wp2
        go_ret
        exact ⟨k, rfl, by rw [HF.out]; simp, HB2.out⟩
      · subst hbr
        have HA2 : Hid (∀ i, i < k + 1 → RuleOk sy st (rs.getD i ru0)) := Lib.hid (fun i hi => by
          by_cases e : i = k
          · subst e; rw [← HE.out]; exact ruleB_ok HBR.out.symm
          · exact HA.out i (by omega))
        go_wp2
        go_roundw
        case rel => exact ⟨k + 1, by omega, by go_num, HA2.out, HB2.out⟩
        case measure => simp [intOf]; omega
    · obtain rfl : k = rs.length := by omega
      have HF : Hid (allB sy st rs = true) := Lib.hid (allB_true HA.out)
      clear hbel hr
      go_wp2
      go_ret
      exact ⟨-1, rfl, by rw [HF.out]; rfl, HB.out⟩
set_option maxHeartbeats 2000000 in
theorem implValidMachine (sy st : Int) (v : Value) (rs : List Ru) (w : World) (hv : RdR w v rs) (hnr : NoR w) :
    Calls Tryd.prog 43 #[.agg #[.int .i64 sy, .int .i64 st, v]] w fun e w' => e = .returned (.bool (machB sy st rs)) ∧ Below w.heap.size w w' := by
  have HV := Lib.hid hv
  obtain ⟨_, _, a, c, rfl, _, _⟩ := hv
  have HB : Hid (Below w.heap.size w (w.alloc (Obj.cells #[.int .i64 sy, .int .i64 st, .slice a rs.length c] 29))) := Lib.hid ((Below.refl _ _).alloc (Nat.le_refl _) _)
  have K1 := Lib.hid (Cels.new w 29 [.int .i64 sy, .int .i64 st, .slice a rs.length c])
  have HN := Lib.hid (hnr.below HB.out (Nat.le_refl _))
  clear hnr
  by_cases h1 : sy < 2
  · have hd : decide (sy < 2) = true := decide_eq_true h1
    have e := Lib.hid (machB_false (sy := sy) (st := st) (rs := rs) (fun h => by have := h.s0; omega))
    clear h1
    go_enter Tryd.func43, Tryd.ntmps43
    go_wp2
    go_ret
    exact ⟨by rw [e.out] <;> rfl, HB.out⟩
  have hd1 : decide (sy < 2) = false := decide_eq_false h1
  by_cases h2 : 6 < sy
  · have hd : decide (6 < sy) = true := decide_eq_true h2
    have e := Lib.hid (machB_false (sy := sy) (st := st) (rs := rs) (fun h => by have := h.s1; omega))
    clear h1 h2
    go_enter Tryd.func43, Tryd.ntmps43
    go_wp2
    go_ret
    exact ⟨by rw [e.out] <;> rfl, HB.out⟩
  have hd2 : decide (6 < sy) = false := decide_eq_false h2
  by_cases h3 : st < 1
  · have hd : decide (st < 1) = true := decide_eq_true h3
    have e := Lib.hid (machB_false (sy := sy) (st := st) (rs := rs) (fun h => by have := h.t0; omega))
    clear h1 h2 h3
    go_enter Tryd.func43, Tryd.ntmps43
    go_wp2
    go_ret
    exact ⟨by rw [e.out] <;> rfl, HB.out⟩
  have hd3 : decide (st < 1) = false := decide_eq_false h3
  by_cases h4 : 1000 < st
  · have hd : decide (1000 < st) = true := decide_eq_true h4
    have e := Lib.hid (machB_false (sy := sy) (st := st) (rs := rs) (fun h => by have := h.t1; omega))
    clear h1 h2 h3 h4
    go_enter Tryd.func43, Tryd.ntmps43
    go_wp2
    go_ret
    exact ⟨by rw [e.out] <;> rfl, HB.out⟩
  have hd4 : decide (1000 < st) = false := decide_eq_false h4
  obtain ⟨m0, m1⟩ := mul_small (sy := sy) (st := st) (by omega) (by omega) (by omega) (by omega)
  obtain ⟨M, hM⟩ : ∃ M, M = sy * st := ⟨_, rfl⟩
  have em2 : IntKind.i64.wrap (st * sy) = M := by rw [IntKind.wrap_i64, Int.mul_comm]; omega
  by_cases h5 : (rs.length : Int) = M
  rotate_left
  · have hb : ((rs.length : Int) != M) = true := by simp [h5]
    have e := Lib.hid (machB_false (sy := sy) (st := st) (rs := rs) (fun h => h5 (by rw [hM]; exact h.len)))
    clear h1 h2 h3 h4 h5 m0 m1 hM
    go_enter Tryd.func43, Tryd.ntmps43
    go_wp2
    go_ret
    exact ⟨by rw [e.out] <;> rfl, HB.out⟩
  · have hb : ((rs.length : Int) != M) = false := by simp [h5]
    have e := Lib.hid (allB_mach (sy := sy) (st := st) (rs := rs) ⟨by omega, by omega, by omega, by omega, by rw [h5, hM]⟩)
    clear h1 h2 h3 h4 h5 m0 m1 hM
    go_enter Tryd.func43, Tryd.ntmps43
    go_wp2_with (first | (go_at_call 112; refine (indexRule _ rs sy st _ _ _ w.heap.size _ (HV.out.below HB.out (Nat.le_refl _)) HN.out (K1.out.cell 0 rfl) (K1.out.cell 1 rfl) (K1.out.cell 2 rfl)).mono ?_; rintro e1 w1 ⟨r, rfl, hr1, hb1⟩; have HR := Lib.hid hr1; have HB1 := Lib.hid (HB.out.trans (hb1.mono HB.out.size)); clear hr1 hb1) | go_in)
    go_ret
    refine ⟨?_, HB1.out⟩
    have hr1 := HR.out
    show Ending.returned (Value.bool (!decide (0 ≤ r))) = _
    rw [hr1, e.out]; simp
end Go.Proofs.YtmbojhlcmgknbaaDoor.Ints
