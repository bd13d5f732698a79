/- LoopProgram, BranchProgram: the program's. -/
import Derived.Test.YtfcakadmiflcdaaBldJ
namespace Go.Proofs.Ytfcakadmiflcdaa.Ints
open Go.RowKit
set_option linter.unusedVariables false
set_option linter.unusedSimpArgs false
theorem implRegB (r : Int) (b : Bool) (w : World) (h : b = true ↔ (0 ≤ r ∧ r ≤ 23)) : Calls Try.prog 90 #[.int .i64 r] w fun e w' => e = .returned (.bool b) ∧ w = w' := by
  cases b with
  | true =>
    obtain ⟨h0, h1⟩ := h.1 rfl
    have h2 : decide (r < 24) = true := decide_eq_true (by omega)
    clear h h1
    go_enter Try.func90, Try.ntmps90
    go_wp2
    go_ret
    exact ⟨rfl, rfl⟩
  | false =>
    have hn : ¬ (0 ≤ r ∧ r ≤ 23) := fun h' => by cases h.2 h'
    clear h
    by_cases h0 : 0 ≤ r
    · have h2 : decide (r < 24) = false := decide_eq_false (by omega)
      clear hn
      go_enter Try.func90, Try.ntmps90
      go_wp2
      go_ret
      exact ⟨rfl, rfl⟩
    · clear hn
      go_enter Try.func90, Try.ntmps90
      go_wp2
      go_ret
      exact ⟨rfl, rfl⟩
theorem implRegY (r : Int) (w : World) (h : 0 ≤ r ∧ r ≤ 23) : Calls Try.prog 90 #[.int .i64 r] w fun e w' => e = .returned (.bool true) ∧ w = w' := implRegB r true w ⟨fun _ => h, fun _ => rfl⟩
theorem implRegN (r : Int) (w : World) (h : ¬ (0 ≤ r ∧ r ≤ 23)) : Calls Try.prog 90 #[.int .i64 r] w fun e w' => e = .returned (.bool false) ∧ w = w' := implRegB r false w ⟨fun h' => (by cases h'), fun h' => absurd h' h⟩
set_option maxHeartbeats 4000000 in
theorem implLoop (r : Int) (p1 : Value) (xb : List Ins) (w : World) (h1 : RdIns w p1 xb) :
    Calls Try.prog 44 #[.int .i64 r, p1] w fun e w' => ∃ u, e = .returned (.tuple #[u, .int .i64 (loopC r xb)]) ∧ OwIns w' w.heap.size w'.heap.size u (loopR r xb) ∧ Below w.heap.size w w' := by
  have H1 := Lib.hid h1
  obtain ⟨_, _, a1, c1, rfl, _, _⟩ := h1
  obtain ⟨ba, hba⟩ : ∃ b, b = progB xb := ⟨_, rfl⟩
  have HA := Lib.hid hba
  clear hba
  obtain ⟨br, hbr⟩ : ∃ b : Bool, (b = true ↔ (0 ≤ r ∧ r ≤ 23)) := ⟨decide (0 ≤ r ∧ r ≤ 23), by simp⟩
  have HBR := Lib.hid hbr
  clear hbr
  go_enter Try.func44, Try.ntmps44
  go_wp2_with fail
  refine (implValidProgram _ xb _ H1.out).mono ?_
  rintro e w1 ⟨rfl, hb1⟩
  rw [← HA.out]
  have HB1 := Lib.hid hb1
  clear hb1
  rcases eqOr ba with hb | hb
  · subst hb
    have e := Lib.hid (loop_bad1 (r := r) HA.out.symm)
    go_wp2_with fail
    go_ret2
    exact ⟨_, by rw [e.out.2] <;> rfl, by rw [e.out.1]; exact OwIns.emptyUp HB1.out.size, HB1.out⟩
  subst hb
  go_wp2_with fail
  refine (implRegB r br _ HBR.out).mono ?_
  rintro e1 w2 ⟨rfl, rfl⟩
  rcases eqOr br with hb | hb
  · subst hb
    have e := Lib.hid (loop_bad2 (r := r) HA.out.symm (fun h => by have := HBR.out.2 h; cases this))
    go_wp2_with fail
    go_ret2
    exact ⟨_, by rw [e.out.2] <;> rfl, by rw [e.out.1]; exact OwIns.emptyUp HB1.out.size, HB1.out⟩
  subst hb
  have HN := Lib.hid (HBR.out.1 rfl)
  have e := Lib.hid (loop_good HA.out.symm HN.out)
  have PB := Lib.hid (progB_ok HA.out.symm)
  have l2 := PB.out.len
  have ew : IntKind.i64.wrap (2 + (xb.length : Int)) = (xb.length : Int) + 2 := by rw [IntKind.wrap_i64]; omega
  obtain ⟨N, hN⟩ : ∃ N : Int, N = 2 + (xb.length : Int) := ⟨_, rfl⟩
  obtain ⟨bg, hbg⟩ : ∃ m : Int, m = if xb = [] then 0 else 2 := ⟨_, rfl⟩
  have HBG := Lib.hid hbg
  obtain ⟨W0, hW0⟩ : ∃ W, W = w1.alloc (Obj.cells #[.slice none 0 0] 95) := ⟨_, rfl⟩
  have KG : Hid (Cels W0 w1.heap.size 95 [.slice none 0 0]) := Lib.hid (by rw [hW0]; exact Cels.new _ _ _)
  have HB3 : Hid (Below w.heap.size w W0) := Lib.hid (by rw [hW0]; exact HB1.out.alloc HB1.out.size _)
  have HW0 := Lib.hid hW0.symm
  have HNE := Lib.hid hN
  clear hW0 hbg hN ew
  go_wp2_with fail
  rw [HW0.out]
  refine (bUnless w w1.heap.size _ xb r _ 0 bg HBG.out _ KG.out H1.out PB.out HB3.out HB1.out.size (by omega) HN.out (by omega)).mono ?_
  rintro e1 v2 ⟨u2, rfl, k2, o2, b2⟩
  have K2 := Lib.hid k2
  have O2 := Lib.hid o2
  have B2 := Lib.hid b2
  clear k2 o2 b2
  go_wp2_with fail
  refine (bResult w1.heap.size w.heap.size _ _ _ K2.out O2.out).mono ?_
  rintro e3 v3 ⟨u3, rfl, o3, b3⟩
  have HE : Hid (_ = loopL r xb) := Lib.hid (show ([⟨1, r, 1, 2 + (xb.length : Int)⟩, ⟨0, r, bg, 0⟩] ++ shL 2 0 xb : List Ins) = loopL r xb by rw [HBG.out, Int.add_comm]; rfl)
  rw [HE.out] at o3 ⊢
  have O3 := Lib.hid o3
  have B3 := Lib.hid (B2.out.trans (b3.mono B2.out.size))
  clear o3 b3
  go_wp2_with fail
  go_ret2
  exact ⟨_, by rw [e.out.2] <;> rfl, by rw [e.out.1]; exact O3.out, B3.out⟩
set_option maxHeartbeats 4000000 in
theorem implBranch (r : Int) (p1 : Value) (xa : List Ins) (p2 : Value) (xb : List Ins) (w : World) (h1 : RdIns w p1 xa) (h2 : RdIns w p2 xb) :
    Calls Try.prog 46 #[.int .i64 r, p1, p2] w fun e w' => ∃ u, e = .returned (.tuple #[u, .int .i64 (branC r xa xb)]) ∧ OwIns w' w.heap.size w'.heap.size u (branR r xa xb) ∧ Below w.heap.size w w' := by
  have H1 := Lib.hid h1
  have H2 := Lib.hid h2
  obtain ⟨_, _, a1, c1, rfl, _, _⟩ := h1
  obtain ⟨_, _, a2, c2, rfl, _, _⟩ := h2
  obtain ⟨ba, hba⟩ : ∃ b, b = progB xa := ⟨_, rfl⟩
  have HA := Lib.hid hba
  obtain ⟨bb, hbb⟩ : ∃ b, b = progB xb := ⟨_, rfl⟩
  have HBB := Lib.hid hbb
  clear hba hbb
  obtain ⟨br, hbr⟩ : ∃ b : Bool, (b = true ↔ (0 ≤ r ∧ r ≤ 23)) := ⟨decide (0 ≤ r ∧ r ≤ 23), by simp⟩
  have HBR := Lib.hid hbr
  clear hbr
  go_enter Try.func46, Try.ntmps46
  go_wp2_with fail
  refine (implValidProgram _ xa _ H1.out).mono ?_
  rintro e w0 ⟨rfl, hb1⟩
  rw [← HA.out]
  have HB0 := Lib.hid hb1
  clear hb1
  rcases eqOr ba with hb | hb
  · subst hb
    have e := Lib.hid (bran_bad1 (r := r) (o := xb) HA.out.symm)
    go_wp2_with fail
    go_ret2
    exact ⟨_, by rw [e.out.2] <;> rfl, by rw [e.out.1]; exact OwIns.emptyUp HB0.out.size, HB0.out⟩
  subst hb
  go_wp2_with fail
  refine (implValidProgram _ xb _ (H2.out.below HB0.out (Nat.le_refl _))).mono ?_
  rintro e w1 ⟨rfl, hb1⟩
  rw [← HBB.out]
  have HB1 := Lib.hid (HB0.out.trans (hb1.mono HB0.out.size))
  clear hb1
  rcases eqOr bb with hb | hb
  · subst hb
    have e := Lib.hid (bran_bad2 (r := r) (z := xa) HBB.out.symm)
    go_wp2_with fail
    go_ret2
    exact ⟨_, by rw [e.out.2] <;> rfl, by rw [e.out.1]; exact OwIns.emptyUp HB1.out.size, HB1.out⟩
  subst hb
  go_wp2_with fail
  refine (implRegB r br _ HBR.out).mono ?_
  rintro e1 w2 ⟨rfl, rfl⟩
  rcases eqOr br with hb | hb
  · subst hb
    have e := Lib.hid (bran_bad3 (r := r) HA.out.symm HBB.out.symm (fun h => by have := HBR.out.2 h; cases this))
    go_wp2_with fail
    go_ret2
    exact ⟨_, by rw [e.out.2] <;> rfl, by rw [e.out.1]; exact OwIns.emptyUp HB1.out.size, HB1.out⟩
  subst hb
  have HN := Lib.hid (HBR.out.1 rfl)
  have e := Lib.hid (bran_good HA.out.symm HBB.out.symm HN.out)
  have PA := Lib.hid (progB_ok HA.out.symm)
  have PB := Lib.hid (progB_ok HBB.out.symm)
  have l1 := PA.out.len
  have l2 := PB.out.len
  obtain ⟨bg, hbg⟩ : ∃ m : Int, m = if xb = [] then 2 + (xb.length : Int) + xa.length else 2 := ⟨_, rfl⟩
  have HBG := Lib.hid hbg
  obtain ⟨W0, hW0⟩ : ∃ W, W = w1.alloc (Obj.cells #[.slice none 0 0] 95) := ⟨_, rfl⟩
  have KG : Hid (Cels W0 w1.heap.size 95 [.slice none 0 0]) := Lib.hid (by rw [hW0]; exact Cels.new _ _ _)
  have HB3 : Hid (Below w.heap.size w W0) := Lib.hid (by rw [hW0]; exact HB1.out.alloc HB1.out.size _)
  have HW0 := Lib.hid hW0.symm
  clear hW0 hbg
  go_wp2_with fail
  rw [HW0.out]
  refine (bUnless w w1.heap.size _ xb r _ _ bg HBG.out _ KG.out H2.out PB.out HB3.out HB1.out.size (by omega) HN.out (by omega)).mono ?_
  rintro e1 v2 ⟨u2, rfl, k2, o2, b2⟩
  have K2 := Lib.hid k2
  have O2 := Lib.hid o2
  have B2 := Lib.hid b2
  clear k2 o2 b2
  go_wp2_with fail
  refine (bPart w w1.heap.size _ _ _ xa _ _ K2.out O2.out H1.out PA.out B2.out HB1.out.size (by simp; omega) (by omega)).mono ?_
  rintro e v4 ⟨u4, rfl, k4, o4, b4⟩
  have K4 := Lib.hid k4
  have O4 := Lib.hid o4
  have B4 := Lib.hid b4
  clear k4 o4 b4
  go_wp2_with fail
  refine (bResult w1.heap.size w.heap.size _ _ _ K4.out O4.out).mono ?_
  rintro e3 v3 ⟨u3, rfl, o3, b3⟩
  have HE : Hid (_ = branL r xa xb) := Lib.hid (show (([⟨1, r, 1, 2 + (xb.length : Int)⟩, ⟨0, r, bg, 0⟩] ++ shL 2 (2 + (xb.length : Int) + xa.length) xb) ++ shL (([⟨1, r, 1, 2 + (xb.length : Int)⟩, ⟨0, r, bg, 0⟩] ++ shL 2 (2 + (xb.length : Int) + xa.length) xb : List Ins).length : Int) (2 + (xb.length : Int) + xa.length) xa : List Ins) = branL r xa xb by
    have hc : (2 + (xb.length : Int)) = (xb.length : Int) + 2 := by omega
    have hl : (([⟨1, r, 1, (xb.length : Int) + 2⟩, ⟨0, r, bg, 0⟩] ++ shL 2 ((xb.length : Int) + 2 + xa.length) xb : List Ins).length : Int) = (xb.length : Int) + 2 := by simp; omega
    rw [hc, hl, HBG.out, hc]; rfl)
  rw [HE.out] at o3 ⊢
  have O3 := Lib.hid o3
  have B3 := Lib.hid (B4.out.trans (b3.mono B4.out.size))
  clear o3 b3
  go_wp2_with fail
  go_ret2
  exact ⟨_, by rw [e.out.2] <;> rfl, by rw [e.out.1]; exact O3.out, B3.out⟩
end Go.Proofs.Ytfcakadmiflcdaa.Ints
