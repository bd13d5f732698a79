/- Programs with two counters: the model's test and the program's. -/
import Derived.Test.YtkjoakdepjpkhaaDoorPrgS
import Derived.Test.YtkjoakdepjpkhaaDoorPrgI
namespace Go.Proofs.YtkjoakdepjpkhaaDoor.Ints
open Go.RowKit
set_option linter.unusedVariables false
set_option linter.unusedSimpArgs false
open Classical in
noncomputable def lowB (rs : List Ins) : Bool := decide (∀ i, i < rs.length → (rs.getD i zIns).rg ≤ 1)
noncomputable def twoB (rs : List Ins) : Bool := progB rs && lowB rs
theorem lowB_true {rs : List Ins} (h : ∀ i, i < rs.length → (rs.getD i zIns).rg ≤ 1) : lowB rs = true := by simp only [lowB, decide_eq_true_eq]; exact h
theorem lowB_false {rs : List Ins} (h : ¬ ∀ i, i < rs.length → (rs.getD i zIns).rg ≤ 1) : lowB rs = false := by simp only [lowB, decide_eq_false_iff_not]; exact h
theorem lowB_ok {rs : List Ins} (h : lowB rs = true) : ∀ i, i < rs.length → (rs.getD i zIns).rg ≤ 1 := by simpa only [lowB, decide_eq_true_eq] using h
theorem twoB_bad {rs : List Ins} (h : progB rs = false) : twoB rs = false := by simp [twoB, h]
theorem twoB_good {rs : List Ins} (h : progB rs = true) : twoB rs = lowB rs := by simp [twoB, h]
set_option maxHeartbeats 4000000 in
set_option maxRecDepth 100000 in
theorem specTwo (v : Value) (rs : List Ins) (w : World) (hv : RdIns w v rs) :
    Calls Tryd.prog 85 #[v] w fun e w' => e = .returned (.bool (twoB rs)) ∧ Below w.heap.size w w' := by
  have HV := Lib.hid hv
  obtain ⟨hl, hf, a, c, rfl, hcap, hr⟩ := hv
  have HR := Lib.hid hr
  obtain ⟨ba, hba⟩ : ∃ b, b = progB rs := ⟨_, rfl⟩
  have HA := Lib.hid hba
  clear hr hba
  go_enter Tryd.func85, Tryd.ntmps85
  go_wp2_with fail
  refine (specPIs _ rs _ HV.out).mono ?_
  rintro e w1 ⟨rfl, hb1⟩
  rw [← HA.out]
  have HB1 := Lib.hid hb1
  clear hb1
  rcases eqOr ba with hb | hb
  · subst hb
    have e := Lib.hid (twoB_bad HA.out.symm)
    go_wp2
    go_ret
    exact ⟨by rw [e.out] <;> rfl, HB1.out⟩
  subst hb
  have e := Lib.hid (twoB_good HA.out.symm)
  go_wp2
  go_loop [3] (fun s => ∃ k : Nat, k ≤ rs.length ∧ s = .int .i64 k ∧ (∀ i, i < k → (rs.getD i zIns).rg ≤ 1)) (fun s => rs.length - (intOf s).toNat)
  case atStart => exact ⟨0, Nat.zero_le _, rfl, fun i hi => by omega⟩
  case round =>
    obtain ⟨k, hk, rfl, hall⟩ := hrel
    have HL := Lib.hid hall
    clear hall
    by_cases hlt : k < rs.length
    rotate_left
    · obtain rfl : k = rs.length := by omega
      have e2 := Lib.hid (lowB_true HL.out)
      go_wp2
      go_ret
      exact ⟨by rw [e.out, e2.out] <;> rfl, HB1.out⟩
    obtain ⟨b, o, rfl, hb, hcell⟩ := HR.out (by intro h0; rw [h0] at hlt; simp at hlt)
    obtain ⟨_, c1, _, _⟩ := hcell k hlt
    replace c1 := (HB1.out.cell (p := ⟨b, o + k * 4 + 1, none⟩) hb).trans c1
    have i0 : (0 : Int) ≤ (k : Int) := by omega
    have i1 : (k : Int) < (rs.length : Int) := by omega
    obtain ⟨y, hy⟩ : ∃ y, y = (rs.getD k zIns).rg := ⟨_, rfl⟩
    rw [← hy] at c1
    have HY := Lib.hid hy
    clear hcell hy hb
    by_cases hy1 : 1 < y
    · have e2 : Hid (lowB rs = false) := Lib.hid (lowB_false (fun h => by have := h k hlt; rw [← HY.out] at this; omega))
      go_wp2
      go_ret
      exact ⟨by rw [e.out, e2.out] <;> rfl, HB1.out⟩
    · have HL2 : Hid (∀ i, i < k + 1 → (rs.getD i zIns).rg ≤ 1) := Lib.hid (fun i hi => by
        by_cases q : i = k
        · subst q; rw [← HY.out]; omega
        · exact HL.out i (by omega))
      have hd : decide (1 < y) = false := decide_eq_false hy1
      go_wp2
      go_round
      case rel => exact ⟨k + 1, by omega, by go_num, HL2.out⟩
      case measure => simp [intOf]; omega
theorem closTwo (x y z u : Int) (b : Bool) (w : World) (h : decide (2 ≤ y) = b) :
    Calls Tryd.prog 157 #[.agg #[.int .i64 x, .int .i64 y, .int .i64 z, .int .i64 u]] w fun e w' => e = .returned (.bool b) ∧ Below w.heap.size w w' := by
  have HB : Hid (Below w.heap.size w (w.alloc (Obj.cells #[.int .i64 x, .int .i64 y, .int .i64 z, .int .i64 u] 136))) := Lib.hid ((Below.refl w.heap.size w).alloc (Nat.le_refl _) _)
  cases b with
  | true =>
    have h2 : 2 ≤ y := by simpa using h
    clear h
    go_enter Tryd.func157, Tryd.ntmps157
    go_wp2
    go_ret
    exact ⟨rfl, HB.out⟩
  | false =>
    go_enter Tryd.func157, Tryd.ntmps157
    go_wp2
    go_ret
    exact ⟨rfl, HB.out⟩
set_option maxHeartbeats 2000000 in
theorem indexTwo (v : Value) (rs : List Ins) (w : World) (h : RdIns w v rs) :
    Calls Tryd.prog 162 #[v, .func (Fn.func 157) #[] #[]] w fun e w' =>
      ∃ r : Int, e = .returned (.int .i64 r) ∧ decide (0 ≤ r) = !lowB rs ∧ Below w.heap.size w w' := by
  obtain ⟨hl, hf, a, c, rfl, hcap, hr⟩ := h
  go_enter Tryd.func162, Tryd.ntmps162
  go_wp2
  go_loopw [8] (fun s wr => ∃ k : Nat, k ≤ rs.length ∧ s = .int .i64 k ∧ (∀ i, i < k → (rs.getD i zIns).rg ≤ 1) ∧ Below w.heap.size w wr) (fun s _ => rs.length - (intOf s).toNat)
  case atStart => exact ⟨0, Nat.zero_le _, rfl, fun i hi => by omega, Below.refl _ _⟩
  case round =>
    obtain ⟨k, hk, rfl, hall, hbel⟩ := hrel
    have HA := Lib.hid hall
    have HB := Lib.hid hbel
    clear hall
    by_cases hlt : k < rs.length
    · obtain ⟨b, o, rfl, hb, hcell⟩ := hr (by intro h0; rw [h0] at hlt; simp at hlt)
      obtain ⟨c0', c1, c2, c3⟩ := hcell k hlt
      replace c0' := (hbel.cell (p := ⟨b, o + k * 4, none⟩) hb).trans c0'
      replace c1 := (hbel.cell (p := ⟨b, o + k * 4 + 1, none⟩) hb).trans c1
      replace c2 := (hbel.cell (p := ⟨b, o + k * 4 + 2, none⟩) hb).trans c2
      replace c3 := (hbel.cell (p := ⟨b, o + k * 4 + 3, none⟩) hb).trans c3
      obtain ⟨r, hr0⟩ : ∃ r, r = rs.getD k zIns := ⟨_, rfl⟩
      rw [← hr0] at c0' c1 c2 c3
      have HE := Lib.hid hr0
      obtain ⟨x, y, z, u⟩ := r
      clear hcell hbel hr0 hr
      obtain ⟨br, hbr⟩ : ∃ br, decide (2 ≤ y) = br := ⟨_, rfl⟩
      have HBR := Lib.hid hbr
      clear hbr
      go_wp2_with fail
      refine (closTwo x y z u br _ HBR.out).mono ?_
      rintro e w1 ⟨rfl, hb1⟩
      have HB2 := Lib.hid (HB.out.trans (hb1.mono HB.out.size))
      clear hb1 c0' c1 c2 c3
      rcases eqOr br with hbr | hbr
      · subst hbr
        have HA2 : Hid (∀ i, i < k + 1 → (rs.getD i zIns).rg ≤ 1) := Lib.hid (fun i hi => by
          by_cases e : i = k
          · subst e; rw [← HE.out]; have := of_decide_eq_false HBR.out; dsimp only; omega
          · exact HA.out i (by omega))
        go_wp2
        go_roundw
        case rel => exact ⟨k + 1, by omega, by go_num, HA2.out, HB2.out⟩
        case measure => simp [intOf]; omega
      · subst hbr
        have HF : Hid (lowB rs = false) := Lib.hid (lowB_false (fun h => by have := h k hlt; rw [← HE.out] at this; have := of_decide_eq_true HBR.out; dsimp only at *; omega))
        go_wp2
        go_ret
        exact ⟨k, rfl, by rw [HF.out]; simp, HB2.out⟩
    · obtain rfl : k = rs.length := by omega
      have HF : Hid (lowB rs = true) := Lib.hid (lowB_true HA.out)
      clear hbel hr
      go_wp2
      go_ret
      exact ⟨-1, rfl, by rw [HF.out]; rfl, HB.out⟩
set_option maxHeartbeats 2000000 in
theorem implIsTwoCounter (v : Value) (rs : List Ins) (w : World) (hv : RdIns w v rs) :
    Calls Tryd.prog 141 #[v] w fun e w' => e = .returned (.bool (twoB rs)) ∧ Below w.heap.size w w' := by
  have HV := Lib.hid hv
  obtain ⟨_, _, a, c, rfl, _, _⟩ := hv
  obtain ⟨ba, hba⟩ : ∃ b, b = progB rs := ⟨_, rfl⟩
  have HA := Lib.hid hba
  clear hba
  go_enter Tryd.func141, Tryd.ntmps141
  go_wp2_with fail
  refine (implValidProgram _ rs _ HV.out).mono ?_
  rintro e w1 ⟨rfl, hb1⟩
  rw [← HA.out]
  have HB1 := Lib.hid hb1
  clear hb1
  rcases eqOr ba with hb | hb
  · subst hb
    have e := Lib.hid (twoB_bad HA.out.symm)
    go_wp2
    go_ret
    exact ⟨by rw [e.out] <;> rfl, HB1.out⟩
  subst hb
  have e := Lib.hid (twoB_good HA.out.symm)
  go_wp2_with (first | (go_at_call 162; refine (indexTwo _ rs _ (HV.out.below HB1.out (Nat.le_refl _))).mono ?_; rintro e1 w2 ⟨r, rfl, hr1, hb1⟩; have HR := Lib.hid hr1; have HB2 := Lib.hid (HB1.out.trans (hb1.mono HB1.out.size)); clear hr1 hb1) | go_in)
  go_ret
  refine ⟨?_, HB2.out⟩
  have hr1 := HR.out
  show Ending.returned (Value.bool (!decide (0 ≤ r))) = _
  rw [hr1, e.out]; simp
end Go.Proofs.YtkjoakdepjpkhaaDoor.Ints
