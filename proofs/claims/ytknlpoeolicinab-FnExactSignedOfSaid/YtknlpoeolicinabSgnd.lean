/- Contracts of SignedNumber and SignedOf, of the model and of the program. -/
import Derived.Test.YtknlpoeolicinabVsub
namespace Go.Proofs.Ytknlpoeolicinab.Ints
open Go.RowKit
set_option linter.unusedVariables false

noncomputable def snV (neg : Bool) (ps : List Int) : Int := if neg then 2 * val ps - 1 else 2 * val ps
noncomputable def snL (neg : Bool) (ps : List Int) : List Int := if natB ps = false ∨ (neg = true ∧ ps.length = 0) then [] else fitL (canOf (snV neg ps))
noncomputable def snC (neg : Bool) (ps : List Int) : Int := if natB ps = false then 1 else if neg = true ∧ ps.length = 0 then 2 else fitC (canOf (snV neg ps))
theorem sn_bad {neg : Bool} {ps : List Int} (h : natB ps = false) : snL neg ps = [] ∧ snC neg ps = 1 := by simp [snL, snC, h]
theorem sn_zero {ps : List Int} (h : natB ps = true) (hz : ps.length = 0) : snL true ps = [] ∧ snC true ps = 2 := by simp [snL, snC, h, hz]
theorem sn_good {neg : Bool} {ps : List Int} (h : natB ps = true) (hz : ¬ (neg = true ∧ ps.length = 0)) : snL neg ps = fitL (canOf (snV neg ps)) ∧ snC neg ps = fitC (canOf (snV neg ps)) := by
  constructor
  · rw [snL, if_neg]; rintro (g | g)
    · rw [h] at g; cases g
    · exact hz g
  · rw [snC, if_neg (by rw [h]; simp), if_neg hz]
set_option maxHeartbeats 1000000 in
theorem specSignedNumber (neg : Bool) (u : Value) (ps : List Int) (w : World) (hu : Rd w u ps) :
    Calls Try.prog 21 #[.bool neg, u] w fun e w' => ∃ r, e = .returned (.tuple #[r, .int .i64 (snC neg ps)]) ∧ Ow w' w.heap.size w'.heap.size r (snL neg ps) ∧ Below w.heap.size w w' := by
  have HU := Lib.hid hu
  rcases eqOr (natB ps) with hx | hx
  · have HX := Lib.hid hx
    have HR := Lib.hid (sn_bad (neg := neg) hx)
    clear hx hu
    go_enter Try.func21, Try.ntmps21
    go_wp2_with (go_at_call 43; refine (specNat _ ps _ HU.out).mono ?_; rintro e w' ⟨rfl, rfl⟩; rw [HX.out])
    go_ret2
    exact ⟨_, by rw [HR.out.2] <;> rfl, by rw [HR.out.1]; exact Ow.empty w, Below.refl _ _⟩
  have HX := Lib.hid hx
  have HP := Lib.hid (natB_can hx)
  have HC : Hid (Rd w u (canOf (val ps))) := Lib.hid (by rw [canOf_val HP.out.1]; exact hu)
  have HN := Lib.hid (nn_of HP.out.1 HP.out.2)
  obtain ⟨_, _, a, c, rfl, _, _⟩ := hu
  cases neg with
  | true =>
    by_cases hz : ps.length = 0
    · have HR := Lib.hid (sn_zero hx hz)
      have hb0 : ((ps.length : Int) == 0) = true := by simp [hz]
      clear hx hz
      go_enter Try.func21, Try.ntmps21
      go_wp2_with (go_at_call 43; refine (specNat _ ps _ HU.out).mono ?_; rintro e w' ⟨rfl, rfl⟩; rw [HX.out])
      go_ret2
      exact ⟨_, by rw [HR.out.2] <;> rfl, by rw [HR.out.1]; exact Ow.empty w, Below.refl _ _⟩
    · have HR := Lib.hid (sn_good (neg := true) hx (by simpa using hz))
      have hpos := val_pos HP.out.1 (by omega)
      have hb0 : ((ps.length : Int) == 0) = false := beq_eq_false_iff_ne.2 (by omega)
      have HV : Hid (snV true ps = val ps + val ps - 1) := Lib.hid (by simp [snV]; omega)
      have HPOS := Lib.hid hpos
      clear hx hz hpos
      go_enter Try.func21, Try.ntmps21
      go_wp2_with fail
      refine (specNat _ ps _ HU.out).mono ?_
      rintro e w' ⟨rfl, rfl⟩
      rw [HX.out]
      go_wp2_with fail
      refine (sAdd _ _ (val ps) (val ps) 40 _ HC.out HC.out HN.out HN.out (by omega)).mono ?_
      rintro e w1 ⟨r1, rfl, ho, hb⟩
      have hone := Rd.one w1 1 (by omega)
      rw [← one_can] at hone
      have hbo : Below w1.heap.size w1 (w1.alloc (.cells #[.int .i64 1] 2)) := (Below.refl _ _).alloc (Nat.le_refl _) _
      have HONE := Lib.hid hone
      have X1 := Lib.hid ((ho.below hbo (Nat.le_refl _)).up)
      have B1 := Lib.hid (hb.trans (hbo.mono hb.size))
      clear ho hb hone hbo
      go_wp2_with fail
      refine (sSub _ _ (val ps + val ps) 1 41 _ X1.out.rd HONE.out (HN.out.add HN.out) ((nn_small (a := 1) (by omega) (by omega)).up (by omega)) (by omega) (by have := HPOS.out; omega)).mono ?_
      rintro e w2 ⟨r2, rfl, ho, hb⟩
      rw [← HV.out] at ho
      have X2 := Lib.hid (ho.mono B1.out.size (Nat.le_refl _) (Nat.le_refl _))
      have B2 := Lib.hid (B1.out.trans (hb.mono B1.out.size))
      clear ho hb
      go_wp2_with fail
      refine (specFit _ _ _ _ _ X2.out).mono ?_
      rintro e w3 ⟨r3, rfl, ho, rfl⟩
      have X3 := Lib.hid ho
      clear ho
      go_wp2
      go_ret2
      exact ⟨_, by rw [HR.out.2] <;> rfl, by rw [HR.out.1]; exact X3.out, B2.out⟩
  | false =>
    have HR := Lib.hid (sn_good (neg := false) hx (by simp))
    have HV : Hid (snV false ps = val ps + val ps) := Lib.hid (by simp [snV]; omega)
    clear hx
    go_enter Try.func21, Try.ntmps21
    go_wp2_with fail
    refine (specNat _ ps _ HU.out).mono ?_
    rintro e w' ⟨rfl, rfl⟩
    rw [HX.out]
    go_wp2_with fail
    refine (sAdd _ _ (val ps) (val ps) 40 _ HC.out HC.out HN.out HN.out (by omega)).mono ?_
    rintro e w1 ⟨r1, rfl, ho, hb⟩
    rw [← HV.out] at ho
    have X1 := Lib.hid ho
    have B1 := Lib.hid hb
    clear ho hb
    go_wp2_with fail
    refine (specFit _ _ _ _ _ X1.out).mono ?_
    rintro e w3 ⟨r3, rfl, ho, rfl⟩
    have X3 := Lib.hid ho
    clear ho
    go_wp2
    go_ret2
    exact ⟨_, by rw [HR.out.2] <;> rfl, by rw [HR.out.1]; exact X3.out, B1.out⟩
set_option maxHeartbeats 1000000 in
theorem implSignedNumber (neg : Bool) (u : Value) (ps : List Int) (w : World) (hu : Rd w u ps) :
    Calls Try.prog 22 #[.bool neg, u] w fun e w' => ∃ r, e = .returned (.tuple #[r, .int .i64 (snC neg ps)]) ∧ Ow w' w.heap.size w'.heap.size r (snL neg ps) ∧ Below w.heap.size w w' := by
  have HU := Lib.hid hu
  rcases eqOr (natB ps) with hx | hx
  · have HX := Lib.hid hx
    have HR := Lib.hid (sn_bad (neg := neg) hx)
    clear hx hu
    go_enter Try.func22, Try.ntmps22
    go_wp2_with (go_at_call 51; refine (implNat _ ps _ HU.out).mono ?_; rintro e w' ⟨rfl, hb⟩; rw [HX.out]; have HB := Lib.hid hb; clear hb)
    go_ret2
    exact ⟨_, by rw [HR.out.2] <;> rfl, by rw [HR.out.1]; exact Ow.emptyUp HB.out.size, HB.out⟩
  have HX := Lib.hid hx
  have HP := Lib.hid (natB_can hx)
  have HC : Hid (Rd w u (canOf (val ps))) := Lib.hid (by rw [canOf_val HP.out.1]; exact hu)
  have HN := Lib.hid (nn_of HP.out.1 HP.out.2)
  obtain ⟨_, _, a, c, rfl, _, _⟩ := hu
  cases neg with
  | true =>
    by_cases hz : ps.length = 0
    · have HR := Lib.hid (sn_zero hx hz)
      have hb0 : ((ps.length : Int) == 0) = true := by simp [hz]
      clear hx hz
      go_enter Try.func22, Try.ntmps22
      go_wp2_with (go_at_call 51; refine (implNat _ ps _ HU.out).mono ?_; rintro e w' ⟨rfl, hb⟩; rw [HX.out]; have HB := Lib.hid hb; clear hb)
      go_ret2
      exact ⟨_, by rw [HR.out.2] <;> rfl, by rw [HR.out.1]; exact Ow.emptyUp HB.out.size, HB.out⟩
    · have HR := Lib.hid (sn_good (neg := true) hx (by simpa using hz))
      have hpos := val_pos HP.out.1 (by omega)
      have hb0 : ((ps.length : Int) == 0) = false := beq_eq_false_iff_ne.2 (by omega)
      have HV : Hid (snV true ps = val ps * 2 + 0 - 1) := Lib.hid (by simp [snV]; omega)
      have HPOS := Lib.hid hpos
      have HN2 : Hid (Nn 41 (val ps * 2 + 0)) := Lib.hid (by have := HN.out.add HN.out; rwa [show val ps + val ps = val ps * 2 + 0 by omega] at this)
      clear hx hz hpos
      go_enter Try.func22, Try.ntmps22
      go_wp2_with fail
      refine (implNat _ ps _ HU.out).mono ?_
      rintro e w' ⟨rfl, hb⟩
      rw [HX.out]
      have B0 := Lib.hid hb
      clear hb
      go_wp2_with fail
      refine (iMbs _ (val ps) 2 0 40 _ (HC.out.below B0.out (Nat.le_refl _)) HN.out (by omega) (by omega) (by omega) (by omega) (by omega)).mono ?_
      rintro e w1 ⟨r1, rfl, ho, hb⟩
      have X1 := Lib.hid ho
      have B1 := Lib.hid (B0.out.trans (hb.mono B0.out.size))
      clear ho hb
      go_wp2_with fail
      refine (iLess _ (val ps * 2 + 0) 41 _ X1.out.rd HN2.out (by omega) (by omega) (by have := HPOS.out; omega)).mono ?_
      rintro e w2 ⟨r2, rfl, ho, hb⟩
      rw [← HV.out] at ho
      have X2 := Lib.hid (ho.mono B1.out.size (Nat.le_refl _) (Nat.le_refl _))
      have B2 := Lib.hid (B1.out.trans (hb.mono B1.out.size))
      clear ho hb
      go_wp2_with fail
      refine (implFit _ _ _ _ _ X2.out).mono ?_
      rintro e w3 ⟨r3, rfl, ho, rfl⟩
      have X3 := Lib.hid ho
      clear ho
      go_wp2
      go_ret2
      exact ⟨_, by rw [HR.out.2] <;> rfl, by rw [HR.out.1]; exact X3.out, B2.out⟩
  | false =>
    have HR := Lib.hid (sn_good (neg := false) hx (by simp))
    have HV : Hid (snV false ps = val ps * 2 + 0) := Lib.hid (by simp [snV]; omega)
    clear hx
    go_enter Try.func22, Try.ntmps22
    go_wp2_with fail
    refine (implNat _ ps _ HU.out).mono ?_
    rintro e w' ⟨rfl, hb⟩
    rw [HX.out]
    have B0 := Lib.hid hb
    clear hb
    go_wp2_with fail
    refine (iMbs _ (val ps) 2 0 40 _ (HC.out.below B0.out (Nat.le_refl _)) HN.out (by omega) (by omega) (by omega) (by omega) (by omega)).mono ?_
    rintro e w1 ⟨r1, rfl, ho, hb⟩
    rw [← HV.out] at ho
    have X1 := Lib.hid (ho.mono B0.out.size (Nat.le_refl _) (Nat.le_refl _))
    have B1 := Lib.hid (B0.out.trans (hb.mono B0.out.size))
    clear ho hb
    go_wp2_with fail
    refine (implFit _ _ _ _ _ X1.out).mono ?_
    rintro e w3 ⟨r3, rfl, ho, rfl⟩
    have X3 := Lib.hid ho
    clear ho
    go_wp2
    go_ret2
    exact ⟨_, by rw [HR.out.2] <;> rfl, by rw [HR.out.1]; exact X3.out, B1.out⟩

noncomputable def soB (ps : List Int) : Bool := natB ps && decide (val ps % 2 = 1)
noncomputable def soL (ps : List Int) : List Int := if natB ps = true then canOf ((val ps + 1) / 2) else []
noncomputable def soC (ps : List Int) : Int := if natB ps = true then 0 else 1
set_option maxHeartbeats 1000000 in
theorem specSignedOf (u : Value) (ps : List Int) (w : World) (hu : Rd w u ps) :
    Calls Try.prog 23 #[u] w fun e w' => ∃ r, e = .returned (.tuple #[.bool (soB ps), r, .int .i64 (soC ps)]) ∧ Ow w' w.heap.size w'.heap.size r (soL ps) ∧ Below w.heap.size w w' := by
  have HU := Lib.hid hu
  rcases eqOr (natB ps) with hx | hx
  · have HX := Lib.hid hx
    have HR : Hid (soB ps = false ∧ soL ps = [] ∧ soC ps = 1) := Lib.hid (by simp [soB, soL, soC, hx])
    clear hx hu
    go_enter Try.func23, Try.ntmps23
    go_wp2_with (go_at_call 43; refine (specNat _ ps _ HU.out).mono ?_; rintro e w' ⟨rfl, rfl⟩; rw [HX.out])
    go_ret3
    exact ⟨_, by rw [HR.out.1, HR.out.2.2] <;> rfl, by rw [HR.out.2.1]; exact Ow.empty w, Below.refl _ _⟩
  have HX := Lib.hid hx
  have HP := Lib.hid (natB_can hx)
  have HC : Hid (Rd w u (canOf (val ps))) := Lib.hid (by rw [canOf_val HP.out.1]; exact hu)
  have HN := Lib.hid (nn_of HP.out.1 HP.out.2)
  clear hu
  obtain ⟨q, hq⟩ : ∃ q, q = val ps % 2 := ⟨_, rfl⟩
  have HQ := Lib.hid hq
  by_cases h1 : q = 1
  · have HR : Hid (soB ps = true ∧ soL ps = canOf (val ps / 2 + 1) ∧ soC ps = 0) := Lib.hid (by
      refine ⟨by simp [soB, hx, ← hq, h1], by rw [soL, if_pos hx, show (val ps + 1) / 2 = val ps / 2 + 1 by omega], by simp [soC, hx]⟩)
    have hb1 : (q == 1) = true := by simp [h1]
    clear hx hq h1
    go_enter Try.func23, Try.ntmps23
    go_wp2_with fail
    refine (specNat _ ps _ HU.out).mono ?_
    rintro e w' ⟨rfl, rfl⟩
    rw [HX.out]
    go_wp2_with fail
    refine (sBy _ (val ps) 2 40 _ HC.out HN.out (by omega) (by omega) (by omega)).mono ?_
    rintro e w1 ⟨r1, rfl, ho, hb⟩
    rw [← HQ.out]
    have hone := Rd.one w1 1 (by omega)
    rw [← one_can] at hone
    have hbo : Below w1.heap.size w1 (w1.alloc (.cells #[.int .i64 1] 2)) := (Below.refl _ _).alloc (Nat.le_refl _) _
    have HONE := Lib.hid hone
    have X1 := Lib.hid ((ho.below hbo (Nat.le_refl _)).up)
    have B1 := Lib.hid (hb.trans (hbo.mono hb.size))
    clear ho hb hone hbo
    go_wp2_with fail
    refine (sAdd _ _ (val ps / 2) 1 40 _ X1.out.rd HONE.out (HN.out.div (by omega)) ((nn_small (a := 1) (by omega) (by omega)).up (by omega)) (by omega)).mono ?_
    rintro e w2 ⟨r2, rfl, ho, hb⟩
    have X2 := Lib.hid (ho.mono B1.out.size (Nat.le_refl _) (Nat.le_refl _))
    have B2 := Lib.hid (B1.out.trans (hb.mono B1.out.size))
    clear ho hb
    go_wp2
    go_ret3
    exact ⟨_, by rw [HR.out.1, HR.out.2.2] <;> rfl, by rw [HR.out.2.1]; exact X2.out, B2.out⟩
  · have HR : Hid (soB ps = false ∧ soL ps = canOf (val ps / 2) ∧ soC ps = 0) := Lib.hid (by
      refine ⟨by simp [soB, hx, ← hq, h1], by rw [soL, if_pos hx, show (val ps + 1) / 2 = val ps / 2 by omega], by simp [soC, hx]⟩)
    have hb1 : (q == 1) = false := by simp [h1]
    clear hx hq h1
    go_enter Try.func23, Try.ntmps23
    go_wp2_with fail
    refine (specNat _ ps _ HU.out).mono ?_
    rintro e w' ⟨rfl, rfl⟩
    rw [HX.out]
    go_wp2_with fail
    refine (sBy _ (val ps) 2 40 _ HC.out HN.out (by omega) (by omega) (by omega)).mono ?_
    rintro e w1 ⟨r1, rfl, ho, hb⟩
    rw [← HQ.out]
    have X1 := Lib.hid ho
    have B1 := Lib.hid hb
    clear ho hb
    go_wp2
    go_ret3
    exact ⟨_, by rw [HR.out.1, HR.out.2.2] <;> rfl, by rw [HR.out.2.1]; exact X1.out, B1.out⟩
set_option maxHeartbeats 1000000 in
theorem implSignedOf (u : Value) (ps : List Int) (w : World) (hu : Rd w u ps) :
    Calls Try.prog 24 #[u] w fun e w' => ∃ r, e = .returned (.tuple #[.bool (soB ps), r, .int .i64 (soC ps)]) ∧ Ow w' w.heap.size w'.heap.size r (soL ps) ∧ Below w.heap.size w w' := by
  have HU := Lib.hid hu
  rcases eqOr (natB ps) with hx | hx
  · have HX := Lib.hid hx
    have HR : Hid (soB ps = false ∧ soL ps = [] ∧ soC ps = 1) := Lib.hid (by simp [soB, soL, soC, hx])
    clear hx hu
    go_enter Try.func24, Try.ntmps24
    go_wp2_with (go_at_call 51; refine (implNat _ ps _ HU.out).mono ?_; rintro e w' ⟨rfl, hb⟩; rw [HX.out]; have HB := Lib.hid hb; clear hb)
    go_ret3
    exact ⟨_, by rw [HR.out.1, HR.out.2.2] <;> rfl, by rw [HR.out.2.1]; exact Ow.emptyUp HB.out.size, HB.out⟩
  have HX := Lib.hid hx
  have HP := Lib.hid (natB_can hx)
  have HC : Hid (Rd w u (canOf (val ps))) := Lib.hid (by rw [canOf_val HP.out.1]; exact hu)
  have HN := Lib.hid (nn_of HP.out.1 HP.out.2)
  clear hu
  obtain ⟨q, hq⟩ : ∃ q, q = (val ps + 1) % 2 := ⟨_, rfl⟩
  have HQ := Lib.hid hq
  have HR : Hid (soB ps = (q == 0) ∧ soL ps = canOf ((val ps + 1) / 2) ∧ soC ps = 0) := Lib.hid (by
    refine ⟨?_, by rw [soL, if_pos hx], by simp [soC, hx]⟩
    rw [soB, hx, Bool.true_and]
    by_cases h : q = 0
    · rw [h]; simp; omega
    · have : ¬ val ps % 2 = 1 := by omega
      simp [h, this])
  clear hx hq
  go_enter Try.func24, Try.ntmps24
  go_wp2_with fail
  refine (implNat _ ps _ HU.out).mono ?_
  rintro e w' ⟨rfl, hb⟩
  rw [HX.out]
  have B0 := Lib.hid hb
  clear hb
  go_wp2_with fail
  refine (iMore _ (val ps) 40 _ (HC.out.below B0.out (Nat.le_refl _)) HN.out (by omega) (by omega)).mono ?_
  rintro e w1 ⟨r1, rfl, ho, hb⟩
  have X1 := Lib.hid ho
  have B1 := Lib.hid (B0.out.trans (hb.mono B0.out.size))
  clear ho hb
  go_wp2_with fail
  refine (iBy _ (val ps + 1) 2 41 _ X1.out.rd (HN.out.add ((nn_small (a := 1) (by omega) (by omega)).up (by omega))) (by omega) (by omega) (by omega)).mono ?_
  rintro e w2 ⟨r2, rfl, ho, hb⟩
  rw [← HQ.out]
  have X2 := Lib.hid (ho.mono B1.out.size (Nat.le_refl _) (Nat.le_refl _))
  have B2 := Lib.hid (B1.out.trans (hb.mono B1.out.size))
  clear ho hb
  go_wp2
  go_ret3
  exact ⟨_, by rw [HR.out.1, HR.out.2.2] <;> rfl, by rw [HR.out.2.1]; exact X2.out, B2.out⟩
end Go.Proofs.Ytknlpoeolicinab.Ints
