/- The model's BranchProgram. -/
import Derived.Test.YtfcakadmiflcdaaPrgU
namespace Go.Proofs.Ytfcakadmiflcdaa.Ints
open Go.RowKit
set_option linter.unusedVariables false
set_option linter.unusedSimpArgs false
set_option maxHeartbeats 4000000 in
theorem specBranL (r : Int) (p1 : Value) (xa : List Ins) (p2 : Value) (xb : List Ins) (w : World) (h1 : RdIns w p1 xa) (h2 : RdIns w p2 xb) (ha : Pok xa) (hb : Pok xb) (hr : 0 ≤ r ∧ r ≤ 23) :
    Calls Try.prog 92 #[.int .i64 r, p1, p2] w fun e w' => ∃ u, e = .returned u ∧ OwIns w' w.heap.size w'.heap.size u (branL r xa xb) ∧ Below w.heap.size w w' := by
  have H1 := Lib.hid h1
  have H2 := Lib.hid h2
  have HA := Lib.hid ha
  have HBB := Lib.hid hb
  have l1 := ha.len
  have l2 := hb.len
  obtain ⟨_, _, a1, c1, rfl, _, _⟩ := h1
  obtain ⟨_, _, a2, c2, rfl, _, _⟩ := h2
  obtain ⟨L, hL⟩ : ∃ L, L = shL 2 ((xb.length : Int) + 2 + xa.length) xb := ⟨_, rfl⟩
  have hLl : L.length ≤ 400 := by rw [hL]; simpa using l2
  have HL := Lib.hid hL
  obtain ⟨M, hM⟩ : ∃ M, M = shL ((xb.length : Int) + 2) ((xb.length : Int) + 2 + xa.length) xa := ⟨_, rfl⟩
  have hMl : M.length ≤ 400 := by rw [hM]; simpa using l1
  have HM := Lib.hid hM
  have hfit : ∀ t : Int, 0 ≤ t ∧ t ≤ 2000 → FitIns [⟨1, r, 1, (xb.length : Int) + 2⟩, ⟨0, r, t, 0⟩] := fun t ht x hx => by
    simp only [List.mem_cons, List.not_mem_nil, or_false] at hx
    rcases hx with rfl | rfl <;> refine ⟨?_, ?_, ?_, ?_⟩ <;> unfold fit64 <;> dsimp only <;> omega
  have HFT := Lib.hid hfit
  clear ha hb hfit hL hM
  by_cases h0 : xb = []
  · have hz : ((xb.length : Int) == 0) = true := by rw [h0]; rfl
    have HE : Hid (([⟨1, r, 1, (xb.length : Int) + 2⟩, ⟨0, r, ((xb.length : Int) + 2 + xa.length), 0⟩] ++ L) ++ M = branL r xa xb) := Lib.hid (by rw [HL.out, HM.out]; simp [branL, h0])
    have HO : Hid (OwIns (w.alloc (.cells #[.int .i64 1, .int .i64 r, .int .i64 1, .int .i64 ((xb.length : Int) + 2), .int .i64 0, .int .i64 r, .int .i64 ((xb.length : Int) + 2 + xa.length), .int .i64 0] 65)) w.heap.size (w.alloc (.cells #[.int .i64 1, .int .i64 r, .int .i64 1, .int .i64 ((xb.length : Int) + 2), .int .i64 0, .int .i64 r, .int .i64 ((xb.length : Int) + 2 + xa.length), .int .i64 0] 65)).heap.size (.slice (some ⟨w.heap.size, 0, none⟩) 2 2) [⟨1, r, 1, (xb.length : Int) + 2⟩, ⟨0, r, ((xb.length : Int) + 2 + xa.length), 0⟩]) :=
      Lib.hid (OwIns.block (Cels.new w 65 (csIns [⟨1, r, 1, (xb.length : Int) + 2⟩, ⟨0, r, ((xb.length : Int) + 2 + xa.length), 0⟩])) (Nat.le_refl _) (by simp) (HFT.out _ (by omega)))
    have HW : ∀ ob : Obj, Hid (Below w.heap.size w (w.alloc ob)) := fun ob => Lib.hid ((Below.refl w.heap.size w).alloc (Nat.le_refl _) ob)
    clear h0
    go_enter Try.func92, Try.ntmps92
    go_wp2_with fail
    refine (specShift _ xb 2 _ _ (H2.out.below (HW _).out (Nat.le_refl _)) HBB.out (by omega) (by omega) (by omega) (by omega)).mono ?_
    rintro e w2 ⟨u, rfl, ho, hb⟩
    have HO2 := Lib.hid (HO.out.below hb HO.out.size).up
    have HR2 := Lib.hid ho.rd
    have HB2 := Lib.hid ((HW _).out.trans (hb.mono (HW _).out.size))
    have hsz := HB2.out.size
    have hown := HO2.out.row
    rw [← HL.out] at HR2
    clear ho hb
    go_wp2_with (at_builtin; refine wpList_append_Ins rfl _ _ rfl w.heap.size _ _ [⟨1, r, 1, (xb.length : Int) + 2⟩, ⟨0, r, ((xb.length : Int) + 2 + xa.length), 0⟩] L rfl hown rfl HR2.out (by simp; omega) hsz ?_)
    intro v3 w3 hown3 hgrow3
    have HX := Lib.hid (ow_joined HO2.out HR2.out.fit (by simp; omega) hown3 hgrow3)
    have HO3 := Lib.hid HX.out.1
    have HB3 := Lib.hid (HB2.out.trans HX.out.2)
    obtain ⟨g3, c3, hv3⟩ := HO3.out.shape
    subst hv3
    obtain ⟨Z, hZ⟩ : ∃ Z, Z = [⟨1, r, 1, (xb.length : Int) + 2⟩, ⟨0, r, ((xb.length : Int) + 2 + xa.length), 0⟩] ++ L := ⟨_, rfl⟩
    have hZl : Z.length ≤ 500 := by rw [hZ]; simp; omega
    rw [← hZ] at HO3 HE ⊢
    clear hown3 hgrow3 hown HX hZ
    go_wp2_with fail
    refine (specShift _ xa _ _ _ (H1.out.below HB3.out (Nat.le_refl _)) HA.out (by omega) (by omega) (by omega) (by omega)).mono ?_
    rintro e w4 ⟨u4, rfl, ho, hb⟩
    have HO4 := Lib.hid (HO3.out.below hb HO3.out.size).up
    have HR4 := Lib.hid ho.rd
    have HB4 := Lib.hid (HB3.out.trans (hb.mono HB3.out.size))
    have hsz4 := HB4.out.size
    have hown4 := HO4.out.row
    rw [← HM.out] at HR4
    clear ho hb
    go_wp2_with (at_builtin; refine wpList_append_Ins rfl _ _ rfl w.heap.size _ _ Z M rfl hown4 rfl HR4.out (by omega) hsz4 ?_)
    intro v5 w5 hown5 hgrow5
    have HX := Lib.hid (ow_joined HO4.out HR4.out.fit (by omega) hown5 hgrow5)
    clear hown5 hgrow5 hown4
    go_wp2
    go_ret
    exact ⟨_, rfl, by have := HX.out.1; rw [HE.out] at this; exact this, HB4.out.trans HX.out.2⟩
  · have hz : ((xb.length : Int) == 0) = false := by
      simp only [beq_eq_false_iff_ne]
      intro h
      exact h0 (List.eq_nil_of_length_eq_zero (by omega))
    have HE : Hid (([⟨1, r, 1, (xb.length : Int) + 2⟩, ⟨0, r, 2, 0⟩] ++ L) ++ M = branL r xa xb) := Lib.hid (by rw [HL.out, HM.out]; simp [branL, h0])
    have HO : Hid (OwIns (w.alloc (.cells #[.int .i64 1, .int .i64 r, .int .i64 1, .int .i64 ((xb.length : Int) + 2), .int .i64 0, .int .i64 r, .int .i64 2, .int .i64 0] 65)) w.heap.size (w.alloc (.cells #[.int .i64 1, .int .i64 r, .int .i64 1, .int .i64 ((xb.length : Int) + 2), .int .i64 0, .int .i64 r, .int .i64 2, .int .i64 0] 65)).heap.size (.slice (some ⟨w.heap.size, 0, none⟩) 2 2) [⟨1, r, 1, (xb.length : Int) + 2⟩, ⟨0, r, 2, 0⟩]) :=
      Lib.hid (OwIns.block (Cels.new w 65 (csIns [⟨1, r, 1, (xb.length : Int) + 2⟩, ⟨0, r, 2, 0⟩])) (Nat.le_refl _) (by simp) (HFT.out _ (by omega)))
    have HW : ∀ ob : Obj, Hid (Below w.heap.size w (w.alloc ob)) := fun ob => Lib.hid ((Below.refl w.heap.size w).alloc (Nat.le_refl _) ob)
    clear h0
    go_enter Try.func92, Try.ntmps92
    go_wp2_with fail
    refine (specShift _ xb 2 _ _ (H2.out.below (HW _).out (Nat.le_refl _)) HBB.out (by omega) (by omega) (by omega) (by omega)).mono ?_
    rintro e w2 ⟨u, rfl, ho, hb⟩
    have HO2 := Lib.hid (HO.out.below hb HO.out.size).up
    have HR2 := Lib.hid ho.rd
    have HB2 := Lib.hid ((HW _).out.trans (hb.mono (HW _).out.size))
    have hsz := HB2.out.size
    have hown := HO2.out.row
    rw [← HL.out] at HR2
    clear ho hb
    go_wp2_with (at_builtin; refine wpList_append_Ins rfl _ _ rfl w.heap.size _ _ [⟨1, r, 1, (xb.length : Int) + 2⟩, ⟨0, r, 2, 0⟩] L rfl hown rfl HR2.out (by simp; omega) hsz ?_)
    intro v3 w3 hown3 hgrow3
    have HX := Lib.hid (ow_joined HO2.out HR2.out.fit (by simp; omega) hown3 hgrow3)
    have HO3 := Lib.hid HX.out.1
    have HB3 := Lib.hid (HB2.out.trans HX.out.2)
    obtain ⟨g3, c3, hv3⟩ := HO3.out.shape
    subst hv3
    obtain ⟨Z, hZ⟩ : ∃ Z, Z = [⟨1, r, 1, (xb.length : Int) + 2⟩, ⟨0, r, 2, 0⟩] ++ L := ⟨_, rfl⟩
    have hZl : Z.length ≤ 500 := by rw [hZ]; simp; omega
    rw [← hZ] at HO3 HE ⊢
    clear hown3 hgrow3 hown HX hZ
    go_wp2_with fail
    refine (specShift _ xa _ _ _ (H1.out.below HB3.out (Nat.le_refl _)) HA.out (by omega) (by omega) (by omega) (by omega)).mono ?_
    rintro e w4 ⟨u4, rfl, ho, hb⟩
    have HO4 := Lib.hid (HO3.out.below hb HO3.out.size).up
    have HR4 := Lib.hid ho.rd
    have HB4 := Lib.hid (HB3.out.trans (hb.mono HB3.out.size))
    have hsz4 := HB4.out.size
    have hown4 := HO4.out.row
    rw [← HM.out] at HR4
    clear ho hb
    go_wp2_with (at_builtin; refine wpList_append_Ins rfl _ _ rfl w.heap.size _ _ Z M rfl hown4 rfl HR4.out (by omega) hsz4 ?_)
    intro v5 w5 hown5 hgrow5
    have HX := Lib.hid (ow_joined HO4.out HR4.out.fit (by omega) hown5 hgrow5)
    clear hown5 hgrow5 hown4
    go_wp2
    go_ret
    exact ⟨_, rfl, by have := HX.out.1; rw [HE.out] at this; exact this, HB4.out.trans HX.out.2⟩
set_option maxHeartbeats 2000000 in
theorem specBranch (r : Int) (p1 : Value) (xa : List Ins) (p2 : Value) (xb : List Ins) (w : World) (h1 : RdIns w p1 xa) (h2 : RdIns w p2 xb) :
    Calls Try.prog 45 #[.int .i64 r, p1, p2] w fun e w' => ∃ u, e = .returned (.tuple #[u, .int .i64 (branC r xa xb)]) ∧ OwIns w' w.heap.size w'.heap.size u (branR r xa xb) ∧ Below w.heap.size w w' := by
  have H1 := Lib.hid h1
  have H2 := Lib.hid h2
  obtain ⟨_, _, a1, c1, rfl, _, _⟩ := h1
  obtain ⟨_, _, a2, c2, rfl, _, _⟩ := h2
  obtain ⟨ba, hba⟩ : ∃ b, b = progB xa := ⟨_, rfl⟩
  have HA := Lib.hid hba
  obtain ⟨bb, hbb⟩ : ∃ b, b = progB xb := ⟨_, rfl⟩
  have HBB := Lib.hid hbb
  clear hba hbb
  obtain ⟨br, hbr⟩ : ∃ b : Bool, (b = true ↔ (0 ≤ r ∧ r ≤ 23)) := ⟨decide (0 ≤ r ∧ r ≤ 23), by simp⟩
  have HBR := Lib.hid hbr
  clear hbr
  go_enter Try.func45, Try.ntmps45
  go_wp2_with fail
  refine (specPIs _ xa _ H1.out).mono ?_
  rintro e w0 ⟨rfl, hb1⟩
  rw [← HA.out]
  have HB0 := Lib.hid hb1
  clear hb1
  rcases eqOr ba with hb | hb
  · subst hb
    have e := Lib.hid (bran_bad1 (r := r) (o := xb) HA.out.symm)
    go_wp2_with fail
    go_ret2
    exact ⟨_, by rw [e.out.2] <;> rfl, by rw [e.out.1]; exact OwIns.emptyUp HB0.out.size, HB0.out⟩
  subst hb
  go_wp2_with fail
  refine (specPIs _ xb _ (H2.out.below HB0.out (Nat.le_refl _))).mono ?_
  rintro e w1 ⟨rfl, hb1⟩
  rw [← HBB.out]
  have HB1 := Lib.hid (HB0.out.trans (hb1.mono HB0.out.size))
  clear hb1
  rcases eqOr bb with hb | hb
  · subst hb
    have e := Lib.hid (bran_bad2 (r := r) (z := xa) HBB.out.symm)
    go_wp2_with fail
    go_ret2
    exact ⟨_, by rw [e.out.2] <;> rfl, by rw [e.out.1]; exact OwIns.emptyUp HB1.out.size, HB1.out⟩
  subst hb
  go_wp2_with fail
  refine (specRegB r br _ HBR.out).mono ?_
  rintro e1 w2 ⟨rfl, rfl⟩
  rcases eqOr br with hb | hb
  · subst hb
    have e := Lib.hid (bran_bad3 (r := r) HA.out.symm HBB.out.symm (fun h => by have := HBR.out.2 h; cases this))
    go_wp2_with fail
    go_ret2
    exact ⟨_, by rw [e.out.2] <;> rfl, by rw [e.out.1]; exact OwIns.emptyUp HB1.out.size, HB1.out⟩
  subst hb
  have HN := Lib.hid (HBR.out.1 rfl)
  have e := Lib.hid (bran_good HA.out.symm HBB.out.symm HN.out)
  go_wp2_with fail
  refine (specBranL r _ xa _ xb _ (H1.out.below HB1.out (Nat.le_refl _)) (H2.out.below HB1.out (Nat.le_refl _)) (progB_ok HA.out.symm) (progB_ok HBB.out.symm) HN.out).mono ?_
  rintro e1 w3 ⟨u, rfl, ho, hb⟩
  have HO := Lib.hid (ho.mono HB1.out.size (Nat.le_refl _) (Nat.le_refl _))
  have HB3 := Lib.hid (HB1.out.trans (hb.mono HB1.out.size))
  clear ho hb
  go_wp2_with fail
  refine (specFits _ _ w.heap.size _ HO.out).mono ?_
  rintro e2 w4 ⟨u2, rfl, ho, hb⟩
  have HO4 := Lib.hid ho
  have HB4 := Lib.hid (HB3.out.trans (hb.mono HB3.out.size))
  clear ho hb
  go_wp2_with fail
  go_ret2
  exact ⟨_, by rw [e.out.2] <;> rfl, by rw [e.out.1]; exact HO4.out, HB4.out⟩
end Go.Proofs.Ytfcakadmiflcdaa.Ints
