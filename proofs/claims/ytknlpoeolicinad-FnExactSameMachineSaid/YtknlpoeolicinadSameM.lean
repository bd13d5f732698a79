/- Contracts of SameMachine, of the model and of the program. -/
import Derived.Test.YtknlpoeolicinadMach
namespace Go.Proofs.Ytknlpoeolicinad.Ints
open Go.RowKit
set_option linter.unusedVariables false
set_option linter.unusedSimpArgs false
open Classical in
noncomputable def sameB (sy st : Int) (rs : List Ru) (sy' st' : Int) (rs' : List Ru) : Bool := decide (sy = sy' ∧ st = st' ∧ rs = rs')
theorem sameB_no {sy st : Int} {rs : List Ru} {sy' st' : Int} {rs' : List Ru} (h : ¬ (sy = sy' ∧ st = st' ∧ rs = rs')) : sameB sy st rs sy' st' rs' = false := by simp only [sameB, decide_eq_false_iff_not]; exact h
theorem sameB_yes (sy st : Int) (rs : List Ru) : sameB sy st rs sy st rs = true := by simp [sameB]
theorem getR_inj {xs ys : List Ru} (hl : xs.length = ys.length) (h : ∀ i, i < xs.length → xs.getD i ru0 = ys.getD i ru0) : xs = ys := by
  apply List.ext_getElem hl
  intro i h1 h2
  have := h i h1
  simpa [List.getD_eq_getElem?_getD, List.getElem?_eq_getElem h1, List.getElem?_eq_getElem h2] using this
set_option maxHeartbeats 2000000 in
theorem specSame (g g' : Nat) (sy st sy' st' : Int) (u v : Value) (rs rs' : List Ru) (w : World) (hu : RdR w u rs) (hv : RdR w v rs')
    (a0 : w.cell? ⟨g, 0, none⟩ = some (.int .i64 sy)) (a1 : w.cell? ⟨g, 1, none⟩ = some (.int .i64 st)) (a2 : w.cell? ⟨g, 2, none⟩ = some u)
    (b0 : w.cell? ⟨g', 0, none⟩ = some (.int .i64 sy')) (b1 : w.cell? ⟨g', 1, none⟩ = some (.int .i64 st')) (b2 : w.cell? ⟨g', 2, none⟩ = some v) :
    Calls Try.prog 10 #[.pointer (some ⟨g, 0, none⟩), .pointer (some ⟨g', 0, none⟩)] w fun e w' => e = .returned (.bool (sameB sy st rs sy' st' rs')) ∧ Below w.heap.size w w' := by
  obtain ⟨hl, hf, a, c, rfl, hcap, hr⟩ := hu
  obtain ⟨_, _, a', c', rfl, _, hr'⟩ := hv
  by_cases h1 : sy = sy'
  rotate_left
  · have hb : (sy != sy') = true := by simp [h1]
    have e := Lib.hid (sameB_no (sy := sy) (st := st) (rs := rs) (sy' := sy') (st' := st') (rs' := rs') (fun h => h1 h.1))
    clear h1 hr hr'
    go_enter Try.func10, Try.ntmps10
    go_wp2
    go_quiet (fail)
    go_wp2
    go_ret
    exact ⟨by rw [e.out] <;> rfl, below_drewN (Below.refl _ _) _⟩
  by_cases h2 : st = st'
  rotate_left
  · have hb1 : (sy != sy') = false := by simp [h1]
    have hb : (st != st') = true := by simp [h2]
    have e := Lib.hid (sameB_no (sy := sy) (st := st) (rs := rs) (sy' := sy') (st' := st') (rs' := rs') (fun h => h2 h.2.1))
    clear h1 h2 hr hr'
    go_enter Try.func10, Try.ntmps10
    go_wp2
    go_quiet (fail)
    go_wp2
    go_ret
    exact ⟨by rw [e.out] <;> rfl, below_drewN (Below.refl _ _) _⟩
  subst h1
  subst h2
  by_cases h3 : rs.length = rs'.length
  rotate_left
  · have hb1 : (sy != sy) = false := by simp
    have hb2 : (st != st) = false := by simp
    have hb : ((rs.length : Int) != (rs'.length : Int)) = true := by simp; omega
    have e := Lib.hid (sameB_no (sy := sy) (st := st) (rs := rs) (sy' := sy) (st' := st) (rs' := rs') (fun h => h3 (by rw [h.2.2])))
    clear h3 hr hr'
    go_enter Try.func10, Try.ntmps10
    go_wp2
    go_quiet (fail)
    go_wp2
    go_ret
    exact ⟨by rw [e.out] <;> rfl, below_drewN (Below.refl _ _) _⟩
  · have hb1 : (sy != sy) = false := by simp
    have hb2 : (st != st) = false := by simp
    have hb : ((rs.length : Int) != (rs'.length : Int)) = false := by simp; omega
    go_enter Try.func10, Try.ntmps10
    go_wp2
    go_quiet (fail)
    go_wp2
    go_loopw [5] (fun s wr => ∃ k : Nat, k ≤ rs.length ∧ s = .int .i64 k ∧ (∀ i, i < k → rs.getD i ru0 = rs'.getD i ru0) ∧ Below w.heap.size w wr) (fun s _ => rs.length - (intOf s).toNat)
    case atStart => exact ⟨0, Nat.zero_le _, rfl, fun i hi => by omega, below_drewN (Below.refl _ _) _⟩
    case round =>
      obtain ⟨k, hk, rfl, hall, hbel⟩ := hrel
      have HA := Lib.hid hall
      have HB := Lib.hid hbel
      have l0 := World.block_lt_of_cell? w _ a2
      have l1 := World.block_lt_of_cell? w _ b2
      replace a2 := (hbel.cell (p := ⟨g, 2, none⟩) l0).trans a2
      replace b2 := (hbel.cell (p := ⟨g', 2, none⟩) l1).trans b2
      clear hall a0 a1 b0 b1 l0 l1
      by_cases hlt : k < rs.length
      · obtain ⟨b, o, rfl, hb, hcell⟩ := hr (by intro h0; rw [h0] at hlt; simp at hlt)
        obtain ⟨b', o', rfl, hb', hcell'⟩ := hr' (by intro h0; rw [h3, h0] at hlt; simp at hlt)
        obtain ⟨c0, c1, c2⟩ := hcell k hlt
        obtain ⟨d0, d1, d2⟩ := hcell' k (by omega)
        replace c0 := (hbel.cell (p := ⟨b, o + k * 3, none⟩) hb).trans c0
        replace c1 := (hbel.cell (p := ⟨b, o + k * 3 + 1, none⟩) hb).trans c1
        replace c2 := (hbel.cell (p := ⟨b, o + k * 3 + 2, none⟩) hb).trans c2
        replace d0 := (hbel.cell (p := ⟨b', o' + k * 3, none⟩) hb').trans d0
        replace d1 := (hbel.cell (p := ⟨b', o' + k * 3 + 1, none⟩) hb').trans d1
        replace d2 := (hbel.cell (p := ⟨b', o' + k * 3 + 2, none⟩) hb').trans d2
        have i0 : (0 : Int) ≤ (k : Int) := by omega
        have i1 : (k : Int) < (rs.length : Int) := by omega
        have i2 : (k : Int) < (rs'.length : Int) := by omega
        obtain ⟨r, hr0⟩ : ∃ r, r = rs.getD k ru0 := ⟨_, rfl⟩
        obtain ⟨r', hr0'⟩ : ∃ r, r = rs'.getD k ru0 := ⟨_, rfl⟩
        rw [← hr0] at c0 c1 c2
        rw [← hr0'] at d0 d1 d2
        have HR := Lib.hid hr0
        have HR' := Lib.hid hr0'
        clear hcell hcell' hr hr' hr0 hr0' hbel
        obtain ⟨x, y, z⟩ := r
        obtain ⟨x', y', z'⟩ := r'
        by_cases q : x = x' ∧ y = y' ∧ z = z'
        · obtain ⟨rfl, rfl, rfl⟩ := q
          have HA2 : Hid (∀ i, i < k + 1 → rs.getD i ru0 = rs'.getD i ru0) := Lib.hid (fun i hi => by
            by_cases e : i = k
            · subst e; rw [← HR.out, ← HR'.out]
            · exact HA.out i (by omega))
          go_wp2
          go_quiet (fail)
          go_wp2
          go_roundw
          case rel => exact ⟨k + 1, by omega, by go_num, HA2.out, below_drewN HB.out _⟩
          case measure => simp [intOf]; omega
        · have e := Lib.hid (sameB_no (sy := sy) (st := st) (rs := rs) (sy' := sy) (st' := st) (rs' := rs') (fun h => q (by
            have e1 := HR.out
            have e2 := HR'.out
            rw [h.2.2, ← e2] at e1
            simpa using e1)))
          have q2 : x ≠ x' ∨ (x = x' ∧ y ≠ y') ∨ (x = x' ∧ y = y' ∧ z ≠ z') := by omega
          clear q
          rcases q2 with q | ⟨rfl, q⟩ | ⟨rfl, rfl, q⟩
          · have hq : (x == x') = false := by simpa using q
            go_wp2
            go_quiet (fail)
            go_wp2
            go_ret
            exact ⟨by rw [e.out] <;> rfl, below_drewN HB.out _⟩
          · have hq : (y == y') = false := by simpa using q
            go_wp2
            go_quiet (fail)
            go_wp2
            go_ret
            exact ⟨by rw [e.out] <;> rfl, below_drewN HB.out _⟩
          · have hq : (z == z') = false := by simpa using q
            go_wp2
            go_quiet (fail)
            go_wp2
            go_ret
            exact ⟨by rw [e.out] <;> rfl, below_drewN HB.out _⟩
      · obtain rfl : k = rs.length := by omega
        have e : Hid (rs = rs') := Lib.hid (getR_inj h3 (fun i hi => HA.out i hi))
        clear hbel hr hr'
        go_wp2
        go_ret
        exact ⟨by rw [e.out, sameB_yes] <;> rfl, HB.out⟩
open Classical in
noncomputable def sameL (rs rs' : List Ru) : Bool := decide (rs = rs')
theorem sameB_split (sy st : Int) (rs rs' : List Ru) : sameB sy st rs sy st rs' = sameL rs rs' := by simp [sameB, sameL]
theorem sameL_no {rs rs' : List Ru} (h : ¬ rs = rs') : sameL rs rs' = false := by simp [sameL, h]
theorem sameL_yes (rs : List Ru) : sameL rs rs = true := by simp [sameL]
set_option maxHeartbeats 2000000 in
theorem libEqual (u v : Value) (rs rs' : List Ru) (w : World) (hu : RdR w u rs) (hv : RdR w v rs') :
    Calls Try.prog 12 #[u, v] w fun e w' => e = .returned (.bool (sameL rs rs')) ∧ Below w.heap.size w w' := by
  obtain ⟨hl, hf, a, c, rfl, hcap, hr⟩ := hu
  obtain ⟨_, _, a', c', rfl, _, hr'⟩ := hv
  by_cases h3 : rs.length = rs'.length
  rotate_left
  · have hb : ((rs.length : Int) != (rs'.length : Int)) = true := by simp; omega
    have e := Lib.hid (sameL_no (rs := rs) (rs' := rs') (fun h => h3 (by rw [h])))
    clear h3 hr hr'
    go_enter Try.func12, Try.ntmps12
    go_wp2
    go_ret
    exact ⟨by rw [e.out] <;> rfl, Below.refl _ _⟩
  · have hb : ((rs.length : Int) != (rs.length : Int)) = false := by simp
    have H3 := Lib.hid h3
    rw [← h3]
    clear h3
    go_enter Try.func12, Try.ntmps12
    go_wp2
    go_loopw [13] (fun s wr => ∃ k : Nat, k ≤ rs.length ∧ s = .int .i64 k ∧ (∀ i, i < k → rs.getD i ru0 = rs'.getD i ru0) ∧ Below w.heap.size w wr) (fun s _ => rs.length - (intOf s).toNat)
    case atStart => exact ⟨0, Nat.zero_le _, rfl, fun i hi => by omega, Below.refl _ _⟩
    case round =>
      obtain ⟨k, hk, rfl, hall, hbel⟩ := hrel
      have HA := Lib.hid hall
      have HB := Lib.hid hbel
      clear hall
      by_cases hlt : k < rs.length
      · obtain ⟨b, o, rfl, hb, hcell⟩ := hr (by intro h0; rw [h0] at hlt; simp at hlt)
        obtain ⟨b', o', rfl, hb', hcell'⟩ := hr' (by intro h0; rw [H3.out, h0] at hlt; simp at hlt)
        obtain ⟨c0, c1, c2⟩ := hcell k hlt
        obtain ⟨d0, d1, d2⟩ := hcell' k (by have := H3.out; omega)
        replace c0 := (hbel.cell (p := ⟨b, o + k * 3, none⟩) hb).trans c0
        replace c1 := (hbel.cell (p := ⟨b, o + k * 3 + 1, none⟩) hb).trans c1
        replace c2 := (hbel.cell (p := ⟨b, o + k * 3 + 2, none⟩) hb).trans c2
        replace d0 := (hbel.cell (p := ⟨b', o' + k * 3, none⟩) hb').trans d0
        replace d1 := (hbel.cell (p := ⟨b', o' + k * 3 + 1, none⟩) hb').trans d1
        replace d2 := (hbel.cell (p := ⟨b', o' + k * 3 + 2, none⟩) hb').trans d2
        have i0 : (0 : Int) ≤ (k : Int) := by omega
        have i1 : (k : Int) < (rs.length : Int) := by omega
        obtain ⟨r, hr0⟩ : ∃ r, r = rs.getD k ru0 := ⟨_, rfl⟩
        obtain ⟨r', hr0'⟩ : ∃ r, r = rs'.getD k ru0 := ⟨_, rfl⟩
        rw [← hr0] at c0 c1 c2
        rw [← hr0'] at d0 d1 d2
        have HR := Lib.hid hr0
        have HR' := Lib.hid hr0'
        clear hcell hcell' hr hr' hr0 hr0' hbel
        obtain ⟨x, y, z⟩ := r
        obtain ⟨x', y', z'⟩ := r'
        by_cases q : x = x' ∧ y = y' ∧ z = z'
        · obtain ⟨rfl, rfl, rfl⟩ := q
          have HA2 : Hid (∀ i, i < k + 1 → rs.getD i ru0 = rs'.getD i ru0) := Lib.hid (fun i hi => by
            by_cases e : i = k
            · subst e; rw [← HR.out, ← HR'.out]
            · exact HA.out i (by omega))
          go_wp2
          go_quiet (fail)
          go_wp2
          go_roundw
          case rel =>
            exact ⟨k + 1, by omega, by go_num, HA2.out, below_drewN HB.out _⟩
          case measure => simp [intOf]; omega
        · have e := Lib.hid (sameL_no (rs := rs) (rs' := rs') (fun h => q (by
            have e1 := HR.out
            have e2 := HR'.out
            rw [h, ← e2] at e1
            simpa using e1)))
          have q2 : x ≠ x' ∨ (x = x' ∧ y ≠ y') ∨ (x = x' ∧ y = y' ∧ z ≠ z') := by omega
          clear q
          rcases q2 with q | ⟨rfl, q⟩ | ⟨rfl, rfl, q⟩
          · have hq : (x == x') = false := by simpa using q
            go_wp2
            go_quiet (fail)
            go_wp2
            go_ret
            exact ⟨by rw [e.out] <;> rfl, below_drewN HB.out _⟩
          · have hq : (y == y') = false := by simpa using q
            go_wp2
            go_quiet (fail)
            go_wp2
            go_ret
            exact ⟨by rw [e.out] <;> rfl, below_drewN HB.out _⟩
          · have hq : (z == z') = false := by simpa using q
            go_wp2
            go_quiet (fail)
            go_wp2
            go_ret
            exact ⟨by rw [e.out] <;> rfl, below_drewN HB.out _⟩
      · obtain rfl : k = rs.length := by omega
        have e : Hid (rs = rs') := Lib.hid (getR_inj H3.out (fun i hi => HA.out i hi))
        clear hbel hr hr'
        go_wp2
        go_ret
        exact ⟨by rw [e.out, sameL_yes] <;> rfl, HB.out⟩
theorem specSameMachine (sy st : Int) (u : Value) (rs : List Ru) (sy' st' : Int) (v : Value) (rs' : List Ru) (w : World) (hu : RdR w u rs) (hv : RdR w v rs') :
    Calls Try.prog 5 #[.agg #[.int .i64 sy, .int .i64 st, u], .agg #[.int .i64 sy', .int .i64 st', v]] w fun e w' => e = .returned (.bool (sameB sy st rs sy' st' rs')) ∧ Below w.heap.size w w' := by
  have HU := Lib.hid hu
  have HV := Lib.hid hv
  obtain ⟨_, _, a, c, rfl, _, _⟩ := hu
  obtain ⟨_, _, a', c', rfl, _, _⟩ := hv
  have HB : ∀ x y : Obj, Hid (Below w.heap.size w ((w.alloc x).alloc y)) := fun x y => Lib.hid (((Below.refl w.heap.size w).alloc (Nat.le_refl _) _).alloc (by simp) _)
  have k1 := (Cels.new w 29 [.int .i64 sy, .int .i64 st, .slice a rs.length c]).alloc (Obj.cells #[.int .i64 sy', .int .i64 st', .slice a' rs'.length c'] 29)
  have k2 := Cels.new (w.alloc (Obj.cells #[.int .i64 sy, .int .i64 st, .slice a rs.length c] 29)) 29 [.int .i64 sy', .int .i64 st', .slice a' rs'.length c']
  rw [World.size_alloc] at k2
  have K1 := Lib.hid k1
  have K2 := Lib.hid k2
  clear k1 k2
  go_enter Try.func5, Try.ntmps5
  go_wp2_with fail
  refine (specSame w.heap.size (w.heap.size + 1) sy st sy' st' _ _ rs rs' _ (HU.out.below (HB _ _).out (Nat.le_refl _)) (HV.out.below (HB _ _).out (Nat.le_refl _)) (K1.out.cell 0 rfl) (K1.out.cell 1 rfl) (K1.out.cell 2 rfl) (K2.out.cell 0 rfl) (K2.out.cell 1 rfl) (K2.out.cell 2 rfl)).mono ?_
  rintro e w1 ⟨rfl, hb1⟩
  have HB1 := Lib.hid ((HB _ _).out.trans (hb1.mono (by simp; omega)))
  clear hb1
  go_wp2
  go_ret
  exact ⟨rfl, HB1.out⟩
theorem implSameMachine (sy st : Int) (u : Value) (rs : List Ru) (sy' st' : Int) (v : Value) (rs' : List Ru) (w : World) (hu : RdR w u rs) (hv : RdR w v rs') :
    Calls Try.prog 7 #[.agg #[.int .i64 sy, .int .i64 st, u], .agg #[.int .i64 sy', .int .i64 st', v]] w fun e w' => e = .returned (.bool (sameB sy st rs sy' st' rs')) ∧ Below w.heap.size w w' := by
  have HU := Lib.hid hu
  have HV := Lib.hid hv
  obtain ⟨_, _, a, c, rfl, _, _⟩ := hu
  obtain ⟨_, _, a', c', rfl, _, _⟩ := hv
  have HB : ∀ x y : Obj, Hid (Below w.heap.size w ((w.alloc x).alloc y)) := fun x y => Lib.hid (((Below.refl w.heap.size w).alloc (Nat.le_refl _) _).alloc (by simp) _)
  by_cases h1 : sy = sy'
  rotate_left
  · have hb : (sy == sy') = false := by simp [h1]
    have e := Lib.hid (sameB_no (sy := sy) (st := st) (rs := rs) (sy' := sy') (st' := st') (rs' := rs') (fun h => h1 h.1))
    clear h1
    go_enter Try.func7, Try.ntmps7
    go_wp2_with fail
    go_ret
    exact ⟨by rw [e.out] <;> rfl, (HB _ _).out⟩
  by_cases h2 : st = st'
  rotate_left
  · have hb1 : (sy == sy') = true := by simp [h1]
    have hb : (st == st') = false := by simp [h2]
    have e := Lib.hid (sameB_no (sy := sy) (st := st) (rs := rs) (sy' := sy') (st' := st') (rs' := rs') (fun h => h2 h.2.1))
    clear h1 h2
    go_enter Try.func7, Try.ntmps7
    go_wp2_with fail
    go_ret
    exact ⟨by rw [e.out] <;> rfl, (HB _ _).out⟩
  subst h1
  subst h2
  have hb1 : (sy == sy) = true := by simp
  have hb2 : (st == st) = true := by simp
  have HE := Lib.hid (sameB_split sy st rs rs')
  go_enter Try.func7, Try.ntmps7
  go_wp2_with fail
  refine (libEqual _ _ rs rs' _ (HU.out.below (HB _ _).out (Nat.le_refl _)) (HV.out.below (HB _ _).out (Nat.le_refl _))).mono ?_
  rintro e w1 ⟨rfl, hb3⟩
  have HB1 := Lib.hid ((HB _ _).out.trans (hb3.mono (by simp; omega)))
  clear hb3
  rw [← HE.out]
  go_wp2
  go_ret
  exact ⟨rfl, HB1.out⟩
end Go.Proofs.Ytknlpoeolicinad.Ints
