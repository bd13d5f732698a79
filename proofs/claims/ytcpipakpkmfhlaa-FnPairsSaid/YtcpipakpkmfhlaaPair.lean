/- Contracts of PairOf, of the model and of the program. -/
import Derived.Test.YtcpipakpkmfhlaaVcalc
namespace Go.Proofs.Ytcpipakpkmfhlaa.Ints
open Go.RowKit
set_option linter.unusedVariables false

def triV (n : Int) : Int := n * (n + 1) / 2
def pairV (a b : Int) : Int := triV (a + b) + b
theorem nn_tri {k : Nat} {n : Int} (h : Nn k n) (hk : 1 ≤ k) : Nn (k + (k + 1)) (triV n) := (h.mul (h.add ((nn_small (a := 1) (by omega) (by omega)).up hk))).div (by omega)
theorem nn_pair {k : Nat} {a b : Int} (h : Nn k a) (g : Nn k b) (hk : 1 ≤ k) : Nn ((k + 1 + (k + 1 + 1)) + 1) (pairV a b) :=
  (nn_tri (h.add g) (by omega)).add (g.up (by omega))
set_option maxHeartbeats 1000000 in
theorem sPair (u v : Value) (a b : Int) (k : Nat) (w : World) (hu : Rd w u (canOf a)) (hv : Rd w v (canOf b)) (ha : Nn k a) (hb : Nn k b) (h1 : 1 ≤ k) (hk : k ≤ 400) :
    Calls Try.prog 31 #[u, v] w fun e w' => ∃ r, e = .returned r ∧ Ow w' w.heap.size w'.heap.size r (canOf (pairV a b)) ∧ Below w.heap.size w w' := by
  have HU := Lib.hid hu
  have HV := Lib.hid hv
  have HA := Lib.hid ha
  have HB' := Lib.hid hb
  have N1 := Lib.hid (ha.add hb)
  have N0 := Lib.hid ((nn_small (a := 1) (by omega) (by omega)).up (show 1 ≤ k + 1 by omega))
  have N2 := Lib.hid (N1.out.add N0.out)
  have N3 := Lib.hid (N1.out.mul N2.out)
  have N4 := Lib.hid (N3.out.div (d := 2) (by omega))
  clear hu hv ha hb
  go_enter Try.func31, Try.ntmps31
  go_wp2_with fail
  refine (sAdd _ _ a b k _ HU.out HV.out HA.out HB'.out (by omega)).mono ?_
  rintro e w1 ⟨r1, rfl, ho, hb⟩
  have X1 := Lib.hid ho
  have B1 := Lib.hid hb
  clear ho hb
  have hone := Rd.one w1 1 (by omega)
  rw [← one_can] at hone
  have hbo : Below w1.heap.size w1 (w1.alloc (.cells #[.int .i64 1] 2)) := (Below.refl _ _).alloc (Nat.le_refl _) _
  have HONE := Lib.hid hone
  have X1a := Lib.hid ((X1.out.below hbo (Nat.le_refl _)).up)
  have B1a := Lib.hid (B1.out.trans (hbo.mono B1.out.size))
  clear hone hbo
  go_wp2_with fail
  refine (sAdd _ _ (a + b) 1 (k + 1) _ X1a.out.rd HONE.out N1.out N0.out (by omega)).mono ?_
  rintro e w2 ⟨r2, rfl, ho, hb⟩
  have X2 := Lib.hid ho
  have X1b := Lib.hid ((X1a.out.below hb (Nat.le_refl _)).up)
  have B2 := Lib.hid (B1a.out.trans (hb.mono B1a.out.size))
  clear ho hb
  go_wp2_with fail
  refine (sMul _ _ (a + b) (a + b + 1) (k + 1) (k + 1 + 1) _ X1b.out.rd X2.out.rd N1.out N2.out (by omega) (by omega)).mono ?_
  rintro e w3 ⟨r3, rfl, ho, hb⟩
  have X3 := Lib.hid ho
  have B3 := Lib.hid (B2.out.trans (hb.mono B2.out.size))
  clear ho hb
  go_wp2_with fail
  refine (sBy _ _ 2 (k + 1 + (k + 1 + 1)) _ X3.out.rd N3.out (by omega) (by omega) (by omega)).mono ?_
  rintro e w4 ⟨r4, rfl, ho, hb⟩
  have X4 := Lib.hid ho
  have B4 := Lib.hid (B3.out.trans (hb.mono B3.out.size))
  clear ho hb
  go_wp2_with fail
  refine (sAdd _ _ (triV (a + b)) b (k + 1 + (k + 1 + 1)) _ X4.out.rd (HV.out.below B4.out (Nat.le_refl _)) N4.out (HB'.out.up (by omega)) (by omega)).mono ?_
  rintro e w5 ⟨r5, rfl, ho, hb⟩
  have X5 := Lib.hid (ho.mono B4.out.size (Nat.le_refl _) (Nat.le_refl _))
  have B5 := Lib.hid (B4.out.trans (hb.mono B4.out.size))
  clear ho hb
  go_wp2
  go_ret
  exact ⟨_, rfl, X5.out, B5.out⟩
theorem iTri (u : Value) (a : Int) (k : Nat) (w : World) (hu : Rd w u (canOf a)) (ha : Nn k a) (h1 : 1 ≤ k) (hk : k ≤ 400) :
    Calls Try.prog 44 #[u] w fun e w' => ∃ r, e = .returned r ∧ Ow w' w.heap.size w'.heap.size r (canOf (triV a)) ∧ Below w.heap.size w w' := by
  have HU := Lib.hid hu
  have HA := Lib.hid ha
  have N2 := Lib.hid (ha.add ((nn_small (a := 1) (by omega) (by omega)).up h1))
  have N3 := Lib.hid (HA.out.mul N2.out)
  clear hu ha
  go_enter Try.func44, Try.ntmps44
  go_wp2_with fail
  refine (iMore _ a k _ HU.out HA.out h1 (by omega)).mono ?_
  rintro e w2 ⟨r2, rfl, ho, hb⟩
  have X2 := Lib.hid ho
  have B2 := Lib.hid hb
  clear ho hb
  go_wp2_with fail
  refine (iMul _ _ a (a + 1) k (k + 1) _ (HU.out.below B2.out (Nat.le_refl _)) X2.out.rd HA.out N2.out (by omega) (by omega)).mono ?_
  rintro e w3 ⟨r3, rfl, ho, hb⟩
  have X3 := Lib.hid ho
  have B3 := Lib.hid (B2.out.trans (hb.mono B2.out.size))
  clear ho hb
  go_wp2_with fail
  refine (iBy _ _ 2 (k + (k + 1)) _ X3.out.rd N3.out (by omega) (by omega) (by omega)).mono ?_
  rintro e w4 ⟨r4, rfl, ho, hb⟩
  have X4 := Lib.hid (ho.mono B3.out.size (Nat.le_refl _) (Nat.le_refl _))
  have B4 := Lib.hid (B3.out.trans (hb.mono B3.out.size))
  clear ho hb
  go_wp2
  go_ret
  exact ⟨_, rfl, X4.out, B4.out⟩
theorem iPair (u v : Value) (a b : Int) (k : Nat) (w : World) (hu : Rd w u (canOf a)) (hv : Rd w v (canOf b)) (ha : Nn k a) (hb : Nn k b) (h1 : 1 ≤ k) (hk : k ≤ 300) :
    Calls Try.prog 23 #[u, v] w fun e w' => ∃ r, e = .returned r ∧ Ow w' w.heap.size w'.heap.size r (canOf (pairV a b)) ∧ Below w.heap.size w w' := by
  have HU := Lib.hid hu
  have HV := Lib.hid hv
  have HA := Lib.hid ha
  have HB' := Lib.hid hb
  have N1 := Lib.hid (ha.add hb)
  have N4 := Lib.hid (nn_tri N1.out (by omega))
  clear hu hv ha hb
  go_enter Try.func23, Try.ntmps23
  go_wp2_with fail
  refine (iAdd _ _ a b k _ HU.out HV.out HA.out HB'.out (by omega)).mono ?_
  rintro e w1 ⟨r1, rfl, ho, hb⟩
  have X1 := Lib.hid ho
  have B1 := Lib.hid hb
  clear ho hb
  go_wp2_with fail
  refine (iTri _ (a + b) (k + 1) _ X1.out.rd N1.out (by omega) (by omega)).mono ?_
  rintro e w2 ⟨r2, rfl, ho, hb⟩
  have X2 := Lib.hid ho
  have B2 := Lib.hid (B1.out.trans (hb.mono B1.out.size))
  clear ho hb
  go_wp2_with fail
  refine (iAdd _ _ (triV (a + b)) b (k + 1 + (k + 1 + 1)) _ X2.out.rd (HV.out.below B2.out (Nat.le_refl _)) N4.out (HB'.out.up (by omega)) (by omega)).mono ?_
  rintro e w5 ⟨r5, rfl, ho, hb⟩
  have X5 := Lib.hid (ho.mono B2.out.size (Nat.le_refl _) (Nat.le_refl _))
  have B5 := Lib.hid (B2.out.trans (hb.mono B2.out.size))
  clear ho hb
  go_wp2
  go_ret
  exact ⟨_, rfl, X5.out, B5.out⟩
noncomputable def prL (ps qs : List Int) : List Int := if natB ps = true ∧ natB qs = true then fitL (canOf (pairV (val ps) (val qs))) else []
noncomputable def prC (ps qs : List Int) : Int := if natB ps = true ∧ natB qs = true then fitC (canOf (pairV (val ps) (val qs))) else 1
theorem pr_good {ps qs : List Int} (h : natB ps = true) (k : natB qs = true) : prL ps qs = fitL (canOf (pairV (val ps) (val qs))) ∧ prC ps qs = fitC (canOf (pairV (val ps) (val qs))) := by
  simp only [prL, prC, h, k, and_self, if_true]
theorem pr_bad {ps qs : List Int} (h : ¬ (natB ps = true ∧ natB qs = true)) : prL ps qs = [] ∧ prC ps qs = 1 := by
  simp only [prL, prC, if_neg h]; exact ⟨trivial, trivial⟩

theorem implPairOf (u : Value) (ps : List Int) (v : Value) (qs : List Int) (w : World) (hu : Rd w u ps) (hv : Rd w v qs) :
    Calls Try.prog 7 #[u, v] w fun e w' => ∃ r, e = .returned (.tuple #[r, .int .i64 (prC ps qs)]) ∧ Ow w' w.heap.size w'.heap.size r (prL ps qs) ∧ Below w.heap.size w w' := by
  have hb0 : Below w.heap.size w (w.alloc (Obj.cells #[u, v] 24)) := (Below.refl _ _).alloc (Nat.le_refl _) _
  have HU := Lib.hid (hu.below hb0 (Nat.le_refl _))
  have HV := Lib.hid (hv.below hb0 (Nat.le_refl _))
  have H0 : Hid ((w.alloc (Obj.cells #[u, v] 24)).cell? ⟨w.heap.size, 0, none⟩ = some u) := Lib.hid (by simp [World.cell?_alloc_at])
  have H1 : Hid ((w.alloc (Obj.cells #[u, v] 24)).cell? ⟨w.heap.size, 1, none⟩ = some v) := Lib.hid (by simp [World.cell?_alloc_at])
  have HS : Hid (w.heap.size < (w.alloc (Obj.cells #[u, v] 24)).heap.size) := Lib.hid (by simp)
  have HB0 := Lib.hid hb0
  obtain ⟨_, _, a, c, rfl, _, _⟩ := hu
  obtain ⟨_, _, a', c', rfl, _, _⟩ := hv
  clear hb0
  rcases eq_or (natB ps && natB qs) with hx | hx
  · have HX := Lib.hid hx
    have HR := Lib.hid (pr_bad (ps := ps) (qs := qs) (fun h => by rw [h.1, h.2] at hx; cases hx))
    clear hx
    go_enter Try.func7, Try.ntmps7
    go_wp2_with (go_at_call 21; refine (areTwo _ _ _ ps qs _ HU.out HV.out H0.out H1.out HS.out).mono ?_; rintro e w1 ⟨rfl, hb⟩; rw [HX.out]; have HB := Lib.hid (HB0.out.trans (hb.mono (by simp))); clear hb)
    go_ret2
    exact ⟨_, by rw [HR.out.2] <;> rfl, by rw [HR.out.1]; exact Ow.nilUp HB.out.size, HB.out⟩
  · have HX := Lib.hid hx
    have hxy : natB ps = true ∧ natB qs = true := by simpa using hx
    have HR := Lib.hid (pr_good hxy.1 hxy.2)
    have HP := Lib.hid (natB_can hxy.1)
    have HQ := Lib.hid (natB_can hxy.2)
    clear hx hxy
    go_enter Try.func7, Try.ntmps7
    go_wp2_with fail
    refine (areTwo _ _ _ ps qs _ HU.out HV.out H0.out H1.out HS.out).mono ?_
    rintro e w1 ⟨rfl, hb⟩
    rw [HX.out]
    have HU3 := Lib.hid (HU.out.below hb (Nat.le_refl _))
    have HV3 := Lib.hid (HV.out.below hb (Nat.le_refl _))
    have HB := Lib.hid (HB0.out.trans (hb.mono (by simp)))
    clear hb
    go_wp2_with fail
    refine (iPair _ _ (val ps) (val qs) 40 _ (by rw [canOf_val HP.out.1]; exact HU3.out) (by rw [canOf_val HQ.out.1]; exact HV3.out) (nn_of HP.out.1 HP.out.2) (nn_of HQ.out.1 HQ.out.2) (by omega) (by omega)).mono ?_
    rintro e w2 ⟨r, rfl, ho, hb⟩
    have HO := Lib.hid (ho.mono HB.out.size (Nat.le_refl _) (Nat.le_refl _))
    have HB2 := Lib.hid (HB.out.trans (hb.mono HB.out.size))
    clear ho hb
    go_wp2_with fail
    refine (implFit _ _ _ _ _ HO.out).mono ?_
    rintro e w3 ⟨r2, rfl, ho, rfl⟩
    have HO2 := Lib.hid ho
    clear ho
    go_wp2
    go_ret2
    exact ⟨_, by rw [HR.out.2] <;> rfl, by rw [HR.out.1]; exact HO2.out, HB2.out⟩
end Go.Proofs.Ytcpipakpkmfhlaa.Ints
