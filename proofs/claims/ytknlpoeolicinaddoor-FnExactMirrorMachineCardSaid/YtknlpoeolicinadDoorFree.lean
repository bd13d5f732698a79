/- Contracts of FreeRules, of the model and of the program. -/
import Derived.Test.YtknlpoeolicinadDoorTurI
import Derived.Test.YtknlpoeolicinadDoorMark
namespace Go.Proofs.YtknlpoeolicinadDoor.Ints
open Go.RowKit
set_option linter.unusedVariables false
set_option linter.unusedSimpArgs false
def IsNo (r : Ru) : Prop := r.wr = 0 ∧ r.mv = 0 ∧ r.nx = -1
instance (r : Ru) : Decidable (IsNo r) := inferInstanceAs (Decidable (_ ∧ _ ∧ _))
/-- The indices below k at which there is no rule. -/
def freeTo (rs : List Ru) : Nat → List Int
  | 0 => []
  | k + 1 => if IsNo (rs.getD k ru0) then freeTo rs k ++ [(k : Int)] else freeTo rs k
theorem freeTo_yes {rs : List Ru} {k : Nat} (h : IsNo (rs.getD k ru0)) : freeTo rs (k + 1) = freeTo rs k ++ [(k : Int)] := by rw [freeTo, if_pos h]
theorem freeTo_no {rs : List Ru} {k : Nat} (h : ¬ IsNo (rs.getD k ru0)) : freeTo rs (k + 1) = freeTo rs k := by rw [freeTo, if_neg h]
theorem freeTo_len (rs : List Ru) (k : Nat) : (freeTo rs k).length ≤ k := by
  induction k with
  | zero => simp [freeTo]
  | succ k ih =>
    rw [freeTo]
    split
    · rw [List.length_append]; simp; omega
    · omega
theorem no_cases {x y z : Int} (h : ¬ IsNo ⟨x, y, z⟩) : (x == 0) = false ∨ ((x == 0) = true ∧ (y == 0) = false) ∨ ((x == 0) = true ∧ (y == 0) = true ∧ (z == -1) = false) := by
  simp only [IsNo] at h
  simp only [beq_eq_false_iff_ne, beq_iff_eq]; omega
noncomputable def frL (sy st : Int) (rs : List Ru) : List Int := if machB sy st rs = true then freeTo rs rs.length else []
noncomputable def frC (sy st : Int) (rs : List Ru) : Int := if machB sy st rs = true then 0 else 1
theorem appendIdx_fits (k : Nat) (h : k ≤ 16777216) : -9223372036854775808 ≤ (k : Int) ∧ (k : Int) ≤ 9223372036854775807 := by omega
set_option maxHeartbeats 4000000 in
theorem specFree (g : Nat) (sy st : Int) (v : Value) (rs : List Ru) (w : World) (hv : RdR w v rs)
    (a0 : w.cell? ⟨g, 0, none⟩ = some (.int .i64 sy)) (a1 : w.cell? ⟨g, 1, none⟩ = some (.int .i64 st)) (a2 : w.cell? ⟨g, 2, none⟩ = some v) :
    Calls Tryd.prog 58 #[.pointer (some ⟨g, 0, none⟩)] w fun e w' => ∃ u, e = .returned u ∧ Ow w' w.heap.size w'.heap.size u (freeTo rs rs.length) ∧ Below w.heap.size w w' := by
  obtain ⟨hl, hf, a, c, rfl, hcap, hr⟩ := hv
  obtain ⟨i0, hi, hz0, hz1, hz2⟩ := info_parts infoE
  have HR := Lib.hid hr
  have HA2 := Lib.hid a2
  clear hr a0 a1 a2
  go_enter Tryd.func58, Tryd.ntmps58
  go_wp2
  go_loopw [3, 4] (fun o s wr => ∃ (k : Nat) (ov : Value), o = ov ∧ k ≤ rs.length ∧ s = .int .i64 k ∧ Ow wr w.heap.size wr.heap.size ov (freeTo rs k) ∧ Below w.heap.size w wr) (fun _ s _ => rs.length - (intOf s).toNat)
  case atStart => exact ⟨0, _, rfl, Nat.zero_le _, rfl, Ow.made w, (Below.refl _ _).alloc (Nat.le_refl _) _⟩
  case round =>
    obtain ⟨k, ov, hov, hk, rfl, hown, hbel⟩ := hrel
    obtain rfl := hov.symm
    have HO := Lib.hid hown
    have HB := Lib.hid hbel
    have a2 := (hbel.cell (p := ⟨g, 2, none⟩) (World.block_lt_of_cell? w _ HA2.out)).trans HA2.out
    by_cases hlt : k < rs.length
    · obtain ⟨b, o, rfl, hb, hcell⟩ := HR.out (by intro h0; rw [h0] at hlt; simp at hlt)
      obtain ⟨c0, c1, c2⟩ := hcell k hlt
      replace c0 := (hbel.cell (p := ⟨b, o + k * 3, none⟩) hb).trans c0
      replace c1 := (hbel.cell (p := ⟨b, o + k * 3 + 1, none⟩) hb).trans c1
      replace c2 := (hbel.cell (p := ⟨b, o + k * 3 + 2, none⟩) hb).trans c2
      have j0 : (0 : Int) ≤ (k : Int) := by omega
      have j1 : (k : Int) < (rs.length : Int) := by omega
      obtain ⟨r, hr0⟩ : ∃ r, r = rs.getD k ru0 := ⟨_, rfl⟩
      rw [← hr0] at c0 c1 c2
      have HE := Lib.hid hr0
      obtain ⟨x, y, z⟩ := r
      have HC : Hid (∀ W, Below wr.heap.size wr W → W.cell? ⟨g, 2, none⟩ = some (.slice (some ⟨b, o, none⟩) rs.length c) ∧ W.cell? ⟨b, o + k * 3, none⟩ = some (.int .i64 x) ∧ W.cell? ⟨b, o + k * 3 + 1, none⟩ = some (.int .i64 y) ∧ W.cell? ⟨b, o + k * 3 + 2, none⟩ = some (.int .i64 z)) := Lib.hid (fun W hW => by
        have hb1 : g < wr.heap.size := World.block_lt_of_cell? wr _ a2
        have hb2 : b < wr.heap.size := World.block_lt_of_cell? wr _ c0
        exact ⟨(hW.cell (p := ⟨g, 2, none⟩) hb1).trans a2, (hW.cell (p := ⟨b, o + k * 3, none⟩) hb2).trans c0, (hW.cell (p := ⟨b, o + k * 3 + 1, none⟩) hb2).trans c1, (hW.cell (p := ⟨b, o + k * 3 + 2, none⟩) hb2).trans c2⟩)
      have HX : Hid (Below wr.heap.size wr wr.drew) := Lib.hid (Below.refl _ _).drew
      clear hcell hbel hr0 hown
      by_cases hno : IsNo ⟨x, y, z⟩
      · have HY : Hid (freeTo rs (k + 1) = freeTo rs k ++ [(k : Int)]) := Lib.hid (freeTo_yes (by rw [← HE.out]; exact hno))
        obtain ⟨rfl, rfl, rfl⟩ := hno
        go_wp2_with fail
        go_region_held3 (fun W => W.cell? ⟨g, 2, none⟩ = some (.slice (some ⟨b, o, none⟩) rs.length c) ∧ W.cell? ⟨b, o + k * 3, none⟩ = some (.int .i64 0) ∧ W.cell? ⟨b, o + k * 3 + 1, none⟩ = some (.int .i64 0) ∧ W.cell? ⟨b, o + k * 3 + 2, none⟩ = some (.int .i64 (-1)))
          (exact HC.out _ HX.out)
          (first | (go_at_call 95; with_reducible refine (specNone _).mono ?_; rintro e w3 ⟨rfl, bq⟩; replace HX := Lib.hid (HX.out.trans (bq.mono HX.out.size)); clear bq))
        have HB2 := Lib.hid (HB.out.trans (HX.out.mono HB.out.size))
        have HO2 := Lib.hid ((HO.out.below HX.out HO.out.size).up)
        have hsz2 := HB2.out.size
        obtain ⟨L, hL⟩ : ∃ L, L = freeTo rs k := ⟨_, rfl⟩
        have hLl : L.length ≤ k := by rw [hL]; exact freeTo_len rs k
        rw [← hL] at HO2 HY
        clear hL
        have hown2 := HO2.out.row
        go_wp2_with (at_builtin; refine wpList_append_own _ rfl _ _ 33 rfl w.heap.size 2 i0 (.int .i64 0) 1 8 Tryd.underlying33 hi hz0 hz1 hz2 rfl (by decide) _ _ _ rfl (hown2.alloc _) ⟨_, 0, none⟩ 1 1 [.int .i64 (k : Int)] rfl rfl ?c1 ?c2 ?c3 ?c4 ?c5 ?_)
        case c1 => exact cellNew _ _ _
        case c2 => first | exact oneCell _ | rfl
        case c3 => unfold maxLen; omega
        case c4 => omega
        case c5 => first | omega | (simp; omega)
        intro v' w4 hown4 hgrow _
        obtain ⟨hs1, hs2⟩ := HO2.out.snoc (x := (k : Int)) (appendIdx_fits k (by omega)) (by omega) (by simpa using hown4) hgrow
        have HO4 := Lib.hid hs1
        have HB4 := Lib.hid (HB2.out.trans hs2)
        clear hown4 hgrow hown2 hs1 hs2
        go_wp2
        go_roundw
        case rel => exact ⟨k + 1, v', rfl, by omega, by go_num, by rw [HY.out]; exact HO4.out, HB4.out⟩
        case measure => simp [intOf]; omega
      · have HY : Hid (freeTo rs (k + 1) = freeTo rs k) := Lib.hid (freeTo_no (by rw [← HE.out]; exact hno))
        rcases no_cases hno with q | ⟨q, q'⟩ | ⟨q, q', q''⟩
        all_goals
          clear hno
          go_wp2_with fail
          go_region_held3 (fun W => W.cell? ⟨g, 2, none⟩ = some (.slice (some ⟨b, o, none⟩) rs.length c) ∧ W.cell? ⟨b, o + k * 3, none⟩ = some (.int .i64 x) ∧ W.cell? ⟨b, o + k * 3 + 1, none⟩ = some (.int .i64 y) ∧ W.cell? ⟨b, o + k * 3 + 2, none⟩ = some (.int .i64 z))
            (exact HC.out _ HX.out)
            (first | (go_at_call 95; with_reducible refine (specNone _).mono ?_; rintro e w3 ⟨rfl, bq⟩; replace HX := Lib.hid (HX.out.trans (bq.mono HX.out.size)); clear bq))
          have HB2 := Lib.hid (HB.out.trans (HX.out.mono HB.out.size))
          have HO2 := Lib.hid ((HO.out.below HX.out HO.out.size).up)
          go_wp2
          go_roundw
          case rel => exact ⟨k + 1, _, rfl, by omega, by go_num, by rw [HY.out]; exact HO2.out, HB2.out⟩
          case measure => simp [intOf]; omega
    · obtain rfl : k = rs.length := by omega
      clear hbel hown
      go_wp2
      go_ret
      exact ⟨_, rfl, HO.out, HB.out⟩
theorem specFreeRules (sy st : Int) (v : Value) (rs : List Ru) (w : World) (hv : RdR w v rs) :
    Calls Tryd.prog 19 #[.agg #[.int .i64 sy, .int .i64 st, v]] w fun e w' => ∃ u, e = .returned (.tuple #[u, .int .i64 (frC sy st rs)]) ∧ Ow w' w.heap.size w'.heap.size u (frL sy st rs) ∧ Below w.heap.size w w' := by
  have HV := Lib.hid hv
  obtain ⟨_, _, a, c, rfl, _, _⟩ := hv
  have HB : Hid (Below w.heap.size w (w.alloc (Obj.cells #[.int .i64 sy, .int .i64 st, .slice a rs.length c] 29))) := Lib.hid ((Below.refl _ _).alloc (Nat.le_refl _) _)
  have K1 := Lib.hid (Cels.new w 29 [.int .i64 sy, .int .i64 st, .slice a rs.length c])
  obtain ⟨bm, hbm⟩ : ∃ b, b = machB sy st rs := ⟨_, rfl⟩
  have HM := Lib.hid hbm
  clear hbm
  go_enter Tryd.func19, Tryd.ntmps19
  go_wp2_with fail
  refine (specIs w.heap.size sy st _ rs _ (HV.out.below HB.out (Nat.le_refl _)) (K1.out.cell 0 rfl) (K1.out.cell 1 rfl) (K1.out.cell 2 rfl)).mono ?_
  rintro e w1 ⟨rfl, hb1⟩
  rw [← HM.out]
  have HK := Lib.hid (K1.out.below hb1 (by simp))
  have HB1 := Lib.hid (HB.out.trans (hb1.mono HB.out.size))
  clear hb1
  rcases eqOr bm with hb | hb
  · subst hb
    have e := Lib.hid (show frL sy st rs = [] ∧ frC sy st rs = 1 by rw [frL, frC, ← HM.out]; simp)
    go_wp2
    go_ret2
    exact ⟨_, by rw [e.out.2] <;> rfl, by rw [e.out.1]; exact Ow.emptyUp HB1.out.size, HB1.out⟩
  · subst hb
    have e := Lib.hid (show frL sy st rs = freeTo rs rs.length ∧ frC sy st rs = 0 by rw [frL, frC, ← HM.out]; simp)
    go_wp2_with fail
    refine (specFree w.heap.size sy st _ rs _ (HV.out.below HB1.out (Nat.le_refl _)) (HK.out.cell 0 rfl) (HK.out.cell 1 rfl) (HK.out.cell 2 rfl)).mono ?_
    rintro e2 w2 ⟨u, rfl, ho, hb2⟩
    have HO := Lib.hid (ho.mono HB1.out.size (Nat.le_refl _) (Nat.le_refl _))
    have HB2 := Lib.hid (HB1.out.trans (hb2.mono HB1.out.size))
    clear ho hb2
    go_wp2
    go_ret2
    exact ⟨_, by rw [e.out.2] <;> rfl, by rw [e.out.1]; exact HO.out, HB2.out⟩
set_option maxHeartbeats 4000000 in
theorem implFreeRules (sy st : Int) (v : Value) (rs : List Ru) (w : World) (hv : RdR w v rs) (hnr : NoR w) :
    Calls Tryd.prog 20 #[.agg #[.int .i64 sy, .int .i64 st, v]] w fun e w' => ∃ u, e = .returned (.tuple #[u, .int .i64 (frC sy st rs)]) ∧ Ow w' w.heap.size w'.heap.size u (frL sy st rs) ∧ Below w.heap.size w w' := by
  have HV := Lib.hid hv
  obtain ⟨hl, hf, a, c, rfl, hcap, hr⟩ := hv
  obtain ⟨i0, hi, hz0, hz1, hz2⟩ := info_parts infoE
  have HR := Lib.hid hr
  have HN := Lib.hid hnr
  have HB : Hid (Below w.heap.size w (w.alloc (Obj.cells #[.int .i64 sy, .int .i64 st, .slice a rs.length c] 29))) := Lib.hid ((Below.refl _ _).alloc (Nat.le_refl _) _)
  have K1 := Lib.hid (Cels.new w 29 [.int .i64 sy, .int .i64 st, .slice a rs.length c])
  obtain ⟨bm, hbm⟩ : ∃ b, b = machB sy st rs := ⟨_, rfl⟩
  have HM := Lib.hid hbm
  have z0 := K1.out.cell 0 rfl
  have z1 := K1.out.cell 1 rfl
  have z2 := K1.out.cell 2 rfl
  clear hbm hr hnr
  go_enter Tryd.func20, Tryd.ntmps20
  go_wp2_with fail
  refine (implValidMachine sy st _ rs _ (HV.out.below HB.out (Nat.le_refl _)) (HN.out.below HB.out (Nat.le_refl _))).mono ?_
  rintro e w1 ⟨rfl, hb1⟩
  rw [← HM.out]
  have HK := Lib.hid (K1.out.below hb1 (by simp))
  have HB1 := Lib.hid (HB.out.trans (hb1.mono HB.out.size))
  clear hb1 z0 z1 z2
  have z0 := HK.out.cell 0 rfl
  have z1 := HK.out.cell 1 rfl
  have z2 := HK.out.cell 2 rfl
  rcases eqOr bm with hb | hb
  · subst hb
    have e := Lib.hid (show frL sy st rs = [] ∧ frC sy st rs = 1 by rw [frL, frC, ← HM.out]; simp)
    go_wp2
    go_ret2
    exact ⟨_, by rw [e.out.2] <;> rfl, by rw [e.out.1]; exact Ow.emptyUp HB1.out.size, HB1.out⟩
  · subst hb
    have e := Lib.hid (show frL sy st rs = freeTo rs rs.length ∧ frC sy st rs = 0 by rw [frL, frC, ← HM.out]; simp)
    go_wp2
    go_loopw [4, 13] (fun o s wr => ∃ (k : Nat) (ov : Value), o = ov ∧ k ≤ rs.length ∧ s = .int .i64 k ∧ Ow wr w.heap.size wr.heap.size ov (freeTo rs k) ∧ Below w.heap.size w wr) (fun _ s _ => rs.length - (intOf s).toNat)
    case atStart => exact ⟨0, _, rfl, Nat.zero_le _, rfl, Ow.emptyUp HB1.out.size, HB1.out⟩
    case round =>
      obtain ⟨k, ov, hov, hk, rfl, hown, hbel⟩ := hrel
      obtain rfl := hov.symm
      have HO := Lib.hid hown
      have HW := Lib.hid hbel
      clear z0 z1 z2
      by_cases hlt : k < rs.length
      · obtain ⟨b, o, rfl, hb, hcell⟩ := HR.out (by intro h0; rw [h0] at hlt; simp at hlt)
        obtain ⟨c0, c1, c2⟩ := hcell k hlt
        replace c0 := (hbel.cell (p := ⟨b, o + k * 3, none⟩) hb).trans c0
        replace c1 := (hbel.cell (p := ⟨b, o + k * 3 + 1, none⟩) hb).trans c1
        replace c2 := (hbel.cell (p := ⟨b, o + k * 3 + 2, none⟩) hb).trans c2
        have j0 : (0 : Int) ≤ (k : Int) := by omega
        have j1 : (k : Int) < (rs.length : Int) := by omega
        obtain ⟨r, hr0⟩ : ∃ r, r = rs.getD k ru0 := ⟨_, rfl⟩
        rw [← hr0] at c0 c1 c2
        have HE := Lib.hid hr0
        obtain ⟨x, y, z⟩ := r
        have hba : Below wr.heap.size wr (wr.alloc (Obj.cells #[.int .i64 x, .int .i64 y, .int .i64 z] 43)) := (Below.refl _ _).alloc (Nat.le_refl _) _
        obtain ⟨n0, n1, n2⟩ := (HN.out.below hbel (Nat.le_refl _)).below hba (Nat.le_refl _)
        have HO1 := Lib.hid ((hown.below hba (Nat.le_refl _)).up)
        have HW1 := Lib.hid (hbel.trans (hba.mono hbel.size))
        clear hcell hbel hr0 hown hba
        by_cases hno : IsNo ⟨x, y, z⟩
        · have HY : Hid (freeTo rs (k + 1) = freeTo rs k ++ [(k : Int)]) := Lib.hid (freeTo_yes (by rw [← HE.out]; exact hno))
          obtain ⟨rfl, rfl, rfl⟩ := hno
          obtain ⟨L, hL⟩ : ∃ L, L = freeTo rs k := ⟨_, rfl⟩
          have hLl : L.length ≤ k := by rw [hL]; exact freeTo_len rs k
          rw [← hL] at HO1 HY
          clear hL
          have hown2 := HO1.out.row
          have hsz2 := HW1.out.size
          go_wp2_with (at_builtin; refine wpList_append_own _ rfl _ _ 33 rfl w.heap.size 2 i0 (.int .i64 0) 1 8 Tryd.underlying33 hi hz0 hz1 hz2 rfl (by decide) _ _ _ rfl (hown2.alloc _) ⟨_, 0, none⟩ 1 1 [.int .i64 (k : Int)] rfl rfl ?c1 ?c2 ?c3 ?c4 ?c5 ?_)
          case c2 => first | exact oneCell _ | rfl
          case c3 => unfold maxLen; omega
          case c4 => omega
          case c5 => first | omega | (simp at hsz2 ⊢; omega)
          intro v' w4 hown4 hgrow _
          obtain ⟨hs1, hs2⟩ := HO1.out.snoc (x := (k : Int)) (appendIdx_fits k (by omega)) (by omega) (by simpa using hown4) hgrow
          have HO4 := Lib.hid hs1
          have HB4 := Lib.hid (HW1.out.trans hs2)
          clear hown4 hgrow hown2 hs1 hs2
          go_wp2
          go_roundw
          case rel => exact ⟨k + 1, v', rfl, by omega, by go_num, by rw [HY.out]; exact HO4.out, HB4.out⟩
          case measure => simp [intOf]; omega
        · have HY : Hid (freeTo rs (k + 1) = freeTo rs k) := Lib.hid (freeTo_no (by rw [← HE.out]; exact hno))
          rcases no_cases hno with q | ⟨q, q'⟩ | ⟨q, q', q''⟩
          all_goals
            clear hno
            go_wp2
            go_roundw
            case rel => exact ⟨k + 1, _, rfl, by omega, by go_num, by rw [HY.out]; exact HO1.out, HW1.out⟩
            case measure => simp [intOf]; omega
      · obtain rfl : k = rs.length := by omega
        clear hbel hown
        go_wp2
        go_ret2
        exact ⟨_, by rw [e.out.2] <;> rfl, by rw [e.out.1]; exact HO.out, HW.out⟩
end Go.Proofs.YtknlpoeolicinadDoor.Ints
