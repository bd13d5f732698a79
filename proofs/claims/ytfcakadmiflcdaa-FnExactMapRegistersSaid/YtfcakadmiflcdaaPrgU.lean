/- The model's JoinPrograms, LoopProgram, BranchProgram. -/
import Derived.Test.YtfcakadmiflcdaaPrgT
namespace Go.Proofs.Ytfcakadmiflcdaa.Ints
open Go.RowKit
set_option linter.unusedVariables false
set_option linter.unusedSimpArgs false
theorem OwIns.block {w : World} {B g : Nat} {rs : List Ins} (h : Cels w g 65 (csIns rs)) (hB : B ≤ g) (hl : rs.length ≤ 1000) (hf : FitIns rs) : OwIns w B w.heap.size (.slice (some ⟨g, 0, none⟩) rs.length rs.length) rs :=
  ⟨by omega, hf, ⟨by simp, .inr ⟨g, rs.length, (csIns rs).toArray, rfl, hB, h, Nat.le_refl _, by unfold maxLen; omega, by simp, by rw [List.take_of_length_le (by simp)]⟩⟩, fun k hk => by cases hk; exact h.lt, Nat.le_refl _, Nat.le_trans hB (Nat.le_of_lt h.lt)⟩
theorem specFits (v : Value) (xs : List Ins) (B : Nat) (w : World) (ho : OwIns w B w.heap.size v xs) :
    Calls Try.prog 84 #[v] w fun e w' => ∃ r, e = .returned (.tuple #[r, .int .i64 (fitC xs)]) ∧ OwIns w' B w'.heap.size r (fitL xs) ∧ Below w.heap.size w w' := by
  obtain ⟨a, c, hv⟩ := ho.shape
  subst hv
  have HO := Lib.hid ho
  have hl := ho.len
  clear ho
  by_cases h : xs.length ≤ 400
  · have e := Lib.hid (fit_yes h)
    have hd : decide (400 < (xs.length : Int)) = false := decide_eq_false (by omega)
    clear h
    go_enter Try.func84, Try.ntmps84
    go_wp2
    go_ret2
    exact ⟨_, by rw [e.out.2] <;> rfl, by rw [e.out.1]; exact HO.out, Below.refl _ _⟩
  · have e := Lib.hid (fit_no h)
    have hd : decide (400 < (xs.length : Int)) = true := decide_eq_true (by omega)
    clear h
    go_enter Try.func84, Try.ntmps84
    go_wp2
    go_ret2
    exact ⟨_, by rw [e.out.2] <;> rfl, by rw [e.out.1]; exact OwIns.emptyUp HO.out.base, Below.refl _ _⟩
theorem ow_joined {w w' : World} {B : Nat} {v v' : Value} {xs ys : List Ins} (ho : OwIns w B w.heap.size v xs) (hf : FitIns ys) (hl : xs.length + ys.length ≤ 16777216) (hown : w'.ownsRow B 65 4 v' (xs.length + ys.length) (csIns (xs ++ ys))) (hg : w.grownBy w' v.ownBlock) :
    OwIns w' B w'.heap.size v' (xs ++ ys) ∧ Below B w w' := by
  have hb : Below B w w' := (Below.refl B w).grown hg ho.base (fun q hq => (ho.row.lt q hq).1)
  exact ⟨⟨by simpa using hl, ho.fit.app hf, by rw [List.length_append]; exact hown, fun k hk => (hown.lt k hk).2, Nat.le_refl _, Nat.le_trans ho.base hb.size⟩, hb⟩
set_option maxHeartbeats 2000000 in
theorem specJoinL (p1 : Value) (xa : List Ins) (p2 : Value) (xb : List Ins) (w : World) (h1 : RdIns w p1 xa) (h2 : RdIns w p2 xb) (ha : Pok xa) (hb : Pok xb) :
    Calls Try.prog 85 #[p1, p2] w fun e w' => ∃ u, e = .returned u ∧ OwIns w' w.heap.size w'.heap.size u (joinL xa xb) ∧ Below w.heap.size w w' := by
  have H1 := Lib.hid h1
  have H2 := Lib.hid h2
  have HA := Lib.hid ha
  have HBB := Lib.hid hb
  have l1 := ha.len
  have l2 := hb.len
  obtain ⟨_, hf, a1, c1, rfl, _, _⟩ := h1
  obtain ⟨_, _, a2, c2, rfl, _, _⟩ := h2
  have HF := Lib.hid hf
  have ew : IntKind.i64.wrap ((xa.length : Int) + (xb.length : Int)) = (xa.length : Int) + (xb.length : Int) := by rw [IntKind.wrap_i64]; omega
  have hrow : (w.alloc (.cells #[] 65)).ownsRow w.heap.size 65 4 (.slice (some ⟨w.heap.size, 0, none⟩) 0 0) ([] : List Ins).length (csIns []) := World.ownsRow_made w #[] 0 (Nat.le_refl _) (by unfold maxLen; omega) (by simp)
  have HW := Lib.hid ((Below.refl w.heap.size w).alloc (Nat.le_refl _) (.cells #[] 65))
  clear ha hb hf
  go_enter Try.func85, Try.ntmps85
  go_wp2_with (at_builtin; refine wpList_append_Ins rfl _ _ rfl w.heap.size _ _ [] xa rfl hrow rfl (H1.out.below HW.out (Nat.le_refl _)) ?c1 ?c2 ?_)
  case c1 => simp; omega
  case c2 => simp
  intro v' w1 hown1 hgrow1
  have HB1 := Lib.hid (HW.out.grown hgrow1 (by simp) (fun k hk => by cases hk; exact Nat.le_refl _))
  have HO1 : Hid (OwIns w1 w.heap.size w1.heap.size v' xa) := Lib.hid ⟨by omega, HF.out, by simpa using hown1, fun k hk => (hown1.lt k hk).2, Nat.le_refl _, HB1.out.size⟩
  obtain ⟨ga, gc, hv'⟩ := HO1.out.shape
  subst hv'
  clear hown1 hgrow1 hrow
  go_wp2_with fail
  refine (specShift _ xb (xa.length : Int) ((xa.length : Int) + (xb.length : Int)) _ (H2.out.below HB1.out (Nat.le_refl _)) HBB.out (by omega) (by omega) (by omega) (by omega)).mono ?_
  rintro e w2 ⟨u, rfl, ho, hb⟩
  have HO2 := Lib.hid (HO1.out.below hb HO1.out.size).up
  have HR2 := Lib.hid ho.rd
  have HB2 := Lib.hid (HB1.out.trans (hb.mono HB1.out.size))
  have hsz := HB2.out.size
  have hown := HO2.out.row
  obtain ⟨L, hL⟩ : ∃ L, L = shL (xa.length : Int) ((xa.length : Int) + (xb.length : Int)) xb := ⟨_, rfl⟩
  have hLl : L.length ≤ 400 := by rw [hL]; simpa using l2
  have HL := Lib.hid hL
  rw [← hL] at HR2
  clear ho hb hL
  go_wp2_with (at_builtin; refine wpList_append_Ins rfl _ _ rfl w.heap.size _ _ xa L rfl hown rfl HR2.out (by omega) hsz ?_)
  intro v3 w3 hown3 hgrow3
  have HX := Lib.hid (ow_joined HO2.out HR2.out.fit (by omega) hown3 hgrow3)
  clear hown3 hgrow3 hown
  go_wp2
  go_ret
  exact ⟨_, rfl, by have := HX.out.1; rw [HL.out] at this; exact this, HB2.out.trans HX.out.2⟩
set_option maxHeartbeats 2000000 in
theorem specJoin (p1 : Value) (xa : List Ins) (p2 : Value) (xb : List Ins) (w : World) (h1 : RdIns w p1 xa) (h2 : RdIns w p2 xb) :
    Calls Try.prog 41 #[p1, p2] w fun e w' => ∃ r, e = .returned (.tuple #[r, .int .i64 (joinC xa xb)]) ∧ OwIns w' w.heap.size w'.heap.size r (joinR xa xb) ∧ Below w.heap.size w w' := by
  have H1 := Lib.hid h1
  have H2 := Lib.hid h2
  obtain ⟨_, _, a1, c1, rfl, _, _⟩ := h1
  obtain ⟨_, _, a2, c2, rfl, _, _⟩ := h2
  obtain ⟨ba, hba⟩ : ∃ b, b = progB xa := ⟨_, rfl⟩
  obtain ⟨bb, hbb⟩ : ∃ b, b = progB xb := ⟨_, rfl⟩
  have HA := Lib.hid hba
  have HBB := Lib.hid hbb
  clear hba hbb
  go_enter Try.func41, Try.ntmps41
  go_wp2_with fail
  refine (specPIs _ xa _ H1.out).mono ?_
  rintro e w1 ⟨rfl, hb1⟩
  rw [← HA.out]
  have HB1 := Lib.hid hb1
  clear hb1
  rcases eqOr ba with hb | hb
  · subst hb
    have e := Lib.hid (join_bad1 (b := xb) HA.out.symm)
    go_wp2_with fail
    go_ret2
    exact ⟨_, by rw [e.out.2] <;> rfl, by rw [e.out.1]; exact OwIns.emptyUp HB1.out.size, HB1.out⟩
  subst hb
  go_wp2_with fail
  refine (specPIs _ xb _ (H2.out.below HB1.out (Nat.le_refl _))).mono ?_
  rintro e w2 ⟨rfl, hb2⟩
  rw [← HBB.out]
  have HB2 := Lib.hid (HB1.out.trans (hb2.mono HB1.out.size))
  clear hb2
  rcases eqOr bb with hb | hb
  · subst hb
    have e := Lib.hid (join_bad2 (a := xa) HBB.out.symm)
    go_wp2_with fail
    go_ret2
    exact ⟨_, by rw [e.out.2] <;> rfl, by rw [e.out.1]; exact OwIns.emptyUp HB2.out.size, HB2.out⟩
  subst hb
  have e := Lib.hid (join_good HA.out.symm HBB.out.symm)
  go_wp2_with fail
  refine (specJoinL _ xa _ xb _ (H1.out.below HB2.out (Nat.le_refl _)) (H2.out.below HB2.out (Nat.le_refl _)) (progB_ok HA.out.symm) (progB_ok HBB.out.symm)).mono ?_
  rintro e1 w3 ⟨u, rfl, ho, hb⟩
  have HO := Lib.hid (ho.mono HB2.out.size (Nat.le_refl _) (Nat.le_refl _))
  have HB3 := Lib.hid (HB2.out.trans (hb.mono HB2.out.size))
  clear ho hb
  go_wp2_with fail
  refine (specFits _ _ w.heap.size _ HO.out).mono ?_
  rintro e2 w4 ⟨u2, rfl, ho, hb⟩
  have HO4 := Lib.hid ho
  have HB4 := Lib.hid (HB3.out.trans (hb.mono HB3.out.size))
  clear ho hb
  go_wp2_with fail
  go_ret2
  exact ⟨_, by rw [e.out.2] <;> rfl, by rw [e.out.1]; exact HO4.out, HB4.out⟩
end Go.Proofs.Ytfcakadmiflcdaa.Ints
