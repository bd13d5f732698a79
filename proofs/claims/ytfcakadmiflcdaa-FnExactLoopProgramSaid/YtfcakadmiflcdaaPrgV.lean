/- The model's LoopProgram and BranchProgram. -/
import Derived.Test.YtfcakadmiflcdaaPrgU
namespace Go.Proofs.Ytfcakadmiflcdaa.Ints
open Go.RowKit
set_option linter.unusedVariables false
set_option linter.unusedSimpArgs false
/-- What an append of a shifted program leaves. -/
theorem csIns_two (a0 a1 a2 a3 b0 b1 b2 b3 : Int) : csIns [⟨a0, a1, a2, a3⟩, ⟨b0, b1, b2, b3⟩] = [.int .i64 a0, .int .i64 a1, .int .i64 a2, .int .i64 a3, .int .i64 b0, .int .i64 b1, .int .i64 b2, .int .i64 b3] := rfl
set_option maxHeartbeats 2000000 in
theorem specLoopL (r : Int) (p1 : Value) (xb : List Ins) (w : World) (h1 : RdIns w p1 xb) (hb : Pok xb) (hr : 0 ≤ r ∧ r ≤ 23) :
    Calls Try.prog 89 #[.int .i64 r, p1] w fun e w' => ∃ u, e = .returned u ∧ OwIns w' w.heap.size w'.heap.size u (loopL r xb) ∧ Below w.heap.size w w' := by
  have H1 := Lib.hid h1
  have HBB := Lib.hid hb
  have l2 := hb.len
  obtain ⟨_, _, a1, c1, rfl, _, _⟩ := h1
  have ew : IntKind.i64.wrap ((xb.length : Int) + 2) = (xb.length : Int) + 2 := by rw [IntKind.wrap_i64]; omega
  obtain ⟨L, hL⟩ : ∃ L, L = shL 2 0 xb := ⟨_, rfl⟩
  have hLl : L.length ≤ 400 := by rw [hL]; simpa using l2
  have HL := Lib.hid hL
  have hfit : ∀ t : Int, t = 0 ∨ t = 2 → FitIns [⟨1, r, 1, (xb.length : Int) + 2⟩, ⟨0, r, t, 0⟩] := fun t ht x hx => by
    simp only [List.mem_cons, List.not_mem_nil, or_false] at hx
    rcases hx with rfl | rfl <;> refine ⟨?_, ?_, ?_, ?_⟩ <;> unfold fit64 <;> dsimp only <;> omega
  have HFT := Lib.hid hfit
  clear hb hfit hL
  by_cases h0 : xb = []
  · have hz : ((xb.length : Int) == 0) = true := by rw [h0]; rfl
    have HE : Hid ([⟨1, r, 1, (xb.length : Int) + 2⟩, ⟨0, r, 0, 0⟩] ++ L = loopL r xb) := Lib.hid (by rw [HL.out]; simp [loopL, h0])
    have HO : Hid (OwIns (w.alloc (.cells #[.int .i64 1, .int .i64 r, .int .i64 1, .int .i64 ((xb.length : Int) + 2), .int .i64 0, .int .i64 r, .int .i64 0, .int .i64 0] 65)) w.heap.size (w.alloc (.cells #[.int .i64 1, .int .i64 r, .int .i64 1, .int .i64 ((xb.length : Int) + 2), .int .i64 0, .int .i64 r, .int .i64 0, .int .i64 0] 65)).heap.size (.slice (some ⟨w.heap.size, 0, none⟩) 2 2) [⟨1, r, 1, (xb.length : Int) + 2⟩, ⟨0, r, 0, 0⟩]) :=
      Lib.hid (OwIns.block (Cels.new w 65 (csIns [⟨1, r, 1, (xb.length : Int) + 2⟩, ⟨0, r, 0, 0⟩])) (Nat.le_refl _) (by simp) (HFT.out 0 (.inl rfl)))
    have HW : ∀ ob : Obj, Hid (Below w.heap.size w (w.alloc ob)) := fun ob => Lib.hid ((Below.refl w.heap.size w).alloc (Nat.le_refl _) ob)
    clear h0
    go_enter Try.func89, Try.ntmps89
    go_wp2_with fail
    refine (specShift _ xb 2 0 _ (H1.out.below (HW _).out (Nat.le_refl _)) HBB.out (by omega) (by omega) (by omega) (by omega)).mono ?_
    rintro e w2 ⟨u, rfl, ho, hb⟩
    have HO2 := Lib.hid (HO.out.below hb HO.out.size).up
    have HR2 := Lib.hid ho.rd
    have HB2 := Lib.hid ((HW _).out.trans (hb.mono (HW _).out.size))
    have hsz := HB2.out.size
    have hown := HO2.out.row
    rw [← HL.out] at HR2
    clear ho hb
    go_wp2_with (at_builtin; refine wpList_append_Ins rfl _ _ rfl w.heap.size _ _ [⟨1, r, 1, (xb.length : Int) + 2⟩, ⟨0, r, 0, 0⟩] L rfl hown rfl HR2.out (by simp; omega) hsz ?_)
    intro v3 w3 hown3 hgrow3
    have HX := Lib.hid (ow_joined HO2.out HR2.out.fit (by simp; omega) hown3 hgrow3)
    clear hown3 hgrow3 hown
    go_wp2
    go_ret
    exact ⟨_, rfl, by have := HX.out.1; rw [HE.out] at this; exact this, HB2.out.trans HX.out.2⟩
  · have hz : ((xb.length : Int) == 0) = false := by
      simp only [beq_eq_false_iff_ne]
      intro h
      exact h0 (List.eq_nil_of_length_eq_zero (by omega))
    have HE : Hid ([⟨1, r, 1, (xb.length : Int) + 2⟩, ⟨0, r, 2, 0⟩] ++ L = loopL r xb) := Lib.hid (by rw [HL.out]; simp [loopL, h0])
    have HO : Hid (OwIns (w.alloc (.cells #[.int .i64 1, .int .i64 r, .int .i64 1, .int .i64 ((xb.length : Int) + 2), .int .i64 0, .int .i64 r, .int .i64 2, .int .i64 0] 65)) w.heap.size (w.alloc (.cells #[.int .i64 1, .int .i64 r, .int .i64 1, .int .i64 ((xb.length : Int) + 2), .int .i64 0, .int .i64 r, .int .i64 2, .int .i64 0] 65)).heap.size (.slice (some ⟨w.heap.size, 0, none⟩) 2 2) [⟨1, r, 1, (xb.length : Int) + 2⟩, ⟨0, r, 2, 0⟩]) :=
      Lib.hid (OwIns.block (Cels.new w 65 (csIns [⟨1, r, 1, (xb.length : Int) + 2⟩, ⟨0, r, 2, 0⟩])) (Nat.le_refl _) (by simp) (HFT.out 2 (.inr rfl)))
    have HW : ∀ ob : Obj, Hid (Below w.heap.size w (w.alloc ob)) := fun ob => Lib.hid ((Below.refl w.heap.size w).alloc (Nat.le_refl _) ob)
    clear h0
    go_enter Try.func89, Try.ntmps89
    go_wp2_with fail
    refine (specShift _ xb 2 0 _ (H1.out.below (HW _).out (Nat.le_refl _)) HBB.out (by omega) (by omega) (by omega) (by omega)).mono ?_
    rintro e w2 ⟨u, rfl, ho, hb⟩
    have HO2 := Lib.hid (HO.out.below hb HO.out.size).up
    have HR2 := Lib.hid ho.rd
    have HB2 := Lib.hid ((HW _).out.trans (hb.mono (HW _).out.size))
    have hsz := HB2.out.size
    have hown := HO2.out.row
    rw [← HL.out] at HR2
    clear ho hb
    go_wp2_with (at_builtin; refine wpList_append_Ins rfl _ _ rfl w.heap.size _ _ [⟨1, r, 1, (xb.length : Int) + 2⟩, ⟨0, r, 2, 0⟩] L rfl hown rfl HR2.out (by simp; omega) hsz ?_)
    intro v3 w3 hown3 hgrow3
    have HX := Lib.hid (ow_joined HO2.out HR2.out.fit (by simp; omega) hown3 hgrow3)
    clear hown3 hgrow3 hown
    go_wp2
    go_ret
    exact ⟨_, rfl, by have := HX.out.1; rw [HE.out] at this; exact this, HB2.out.trans HX.out.2⟩
set_option maxHeartbeats 2000000 in
theorem specLoop (r : Int) (p1 : Value) (xb : List Ins) (w : World) (h1 : RdIns w p1 xb) :
    Calls Try.prog 43 #[.int .i64 r, p1] w fun e w' => ∃ u, e = .returned (.tuple #[u, .int .i64 (loopC r xb)]) ∧ OwIns w' w.heap.size w'.heap.size u (loopR r xb) ∧ Below w.heap.size w w' := by
  have H1 := Lib.hid h1
  obtain ⟨_, _, a1, c1, rfl, _, _⟩ := h1
  obtain ⟨ba, hba⟩ : ∃ b, b = progB xb := ⟨_, rfl⟩
  have HA := Lib.hid hba
  clear hba
  by_cases hr : 0 ≤ r ∧ r ≤ 23
  rotate_left
  · have HN := Lib.hid hr
    clear hr
    go_enter Try.func43, Try.ntmps43
    go_wp2_with fail
    refine (specPIs _ xb _ H1.out).mono ?_
    rintro e w1 ⟨rfl, hb1⟩
    rw [← HA.out]
    have HB1 := Lib.hid hb1
    clear hb1
    rcases eqOr ba with hb | hb
    · subst hb
      have e := Lib.hid (loop_bad1 (r := r) HA.out.symm)
      go_wp2_with fail
      go_ret2
      exact ⟨_, by rw [e.out.2] <;> rfl, by rw [e.out.1]; exact OwIns.emptyUp HB1.out.size, HB1.out⟩
    subst hb
    have e := Lib.hid (loop_bad2 HA.out.symm HN.out)
    go_wp2_with fail
    refine (specRegN r _ HN.out).mono ?_
    rintro e1 w2 ⟨rfl, rfl⟩
    go_wp2_with fail
    go_ret2
    exact ⟨_, by rw [e.out.2] <;> rfl, by rw [e.out.1]; exact OwIns.emptyUp HB1.out.size, HB1.out⟩
  have HN := Lib.hid hr
  clear hr
  go_enter Try.func43, Try.ntmps43
  go_wp2_with fail
  refine (specPIs _ xb _ H1.out).mono ?_
  rintro e w1 ⟨rfl, hb1⟩
  rw [← HA.out]
  have HB1 := Lib.hid hb1
  clear hb1
  rcases eqOr ba with hb | hb
  · subst hb
    have e := Lib.hid (loop_bad1 (r := r) HA.out.symm)
    go_wp2_with fail
    go_ret2
    exact ⟨_, by rw [e.out.2] <;> rfl, by rw [e.out.1]; exact OwIns.emptyUp HB1.out.size, HB1.out⟩
  subst hb
  have e := Lib.hid (loop_good HA.out.symm HN.out)
  go_wp2_with fail
  refine (specRegY r _ HN.out).mono ?_
  rintro e1 w2 ⟨rfl, rfl⟩
  go_wp2_with fail
  refine (specLoopL r _ xb _ (H1.out.below HB1.out (Nat.le_refl _)) (progB_ok HA.out.symm) HN.out).mono ?_
  rintro e1 w3 ⟨u, rfl, ho, hb⟩
  have HO := Lib.hid (ho.mono HB1.out.size (Nat.le_refl _) (Nat.le_refl _))
  have HB3 := Lib.hid (HB1.out.trans (hb.mono HB1.out.size))
  clear ho hb
  go_wp2_with fail
  refine (specFits _ _ w.heap.size _ HO.out).mono ?_
  rintro e2 w4 ⟨u2, rfl, ho, hb⟩
  have HO4 := Lib.hid ho
  have HB4 := Lib.hid (HB3.out.trans (hb.mono HB3.out.size))
  clear ho hb
  go_wp2_with fail
  go_ret2
  exact ⟨_, by rw [e.out.2] <;> rfl, by rw [e.out.1]; exact HO4.out, HB4.out⟩
end Go.Proofs.Ytfcakadmiflcdaa.Ints
