/- Contracts of PairOf, of the model and of the program. -/
import Derived.Test.YtfnopnaaahkklaaVcalc
namespace Go.Proofs.Ytfnopnaaahkklaa.Ints
open Go.RowKit
set_option linter.unusedVariables false

def triV (n : Int) : Int := n * (n + 1) / 2
def pairV (a b : Int) : Int := triV (a + b) + b
theorem nn_tri {k : Nat} {n : Int} (h : Nn k n) (hk : 1 ≤ k) : Nn (k + (k + 1)) (triV n) := (h.mul (h.add ((nn_small (a := 1) (by omega) (by omega)).up hk))).div (by omega)
theorem nn_pair {k : Nat} {a b : Int} (h : Nn k a) (g : Nn k b) (hk : 1 ≤ k) : Nn ((k + 1 + (k + 1 + 1)) + 1) (pairV a b) :=
  (nn_tri (h.add g) (by omega)).add (g.up (by omega))
theorem iTri (u : Value) (a : Int) (k : Nat) (w : World) (hu : Rd w u (canOf a)) (ha : Nn k a) (h1 : 1 ≤ k) (hk : k ≤ 400) :
    Calls Try.prog 74 #[u] w fun e w' => ∃ r, e = .returned r ∧ Ow w' w.heap.size w'.heap.size r (canOf (triV a)) ∧ Below w.heap.size w w' := by
  have HU := Lib.hid hu
  have HA := Lib.hid ha
  have N2 := Lib.hid (ha.add ((nn_small (a := 1) (by omega) (by omega)).up h1))
  have N3 := Lib.hid (HA.out.mul N2.out)
  clear hu ha
  go_enter Try.func74, Try.ntmps74
  go_wp2_with fail
  refine (iMore _ a k _ HU.out HA.out h1 (by omega)).mono ?_
  rintro e w2 ⟨r2, rfl, ho, hb⟩
  have X2 := Lib.hid ho
  have B2 := Lib.hid hb
  clear ho hb
  go_wp2_with fail
  refine (iMul _ _ a (a + 1) k (k + 1) _ (HU.out.below B2.out (Nat.le_refl _)) X2.out.rd HA.out N2.out (by omega) (by omega)).mono ?_
  rintro e w3 ⟨r3, rfl, ho, hb⟩
  have X3 := Lib.hid ho
  have B3 := Lib.hid (B2.out.trans (hb.mono B2.out.size))
  clear ho hb
  go_wp2_with fail
  refine (iBy _ _ 2 (k + (k + 1)) _ X3.out.rd N3.out (by omega) (by omega) (by omega)).mono ?_
  rintro e w4 ⟨r4, rfl, ho, hb⟩
  have X4 := Lib.hid (ho.mono B3.out.size (Nat.le_refl _) (Nat.le_refl _))
  have B4 := Lib.hid (B3.out.trans (hb.mono B3.out.size))
  clear ho hb
  go_wp2
  go_ret
  exact ⟨_, rfl, X4.out, B4.out⟩
noncomputable def prL (ps qs : List Int) : List Int := if natB ps = true ∧ natB qs = true then fitL (canOf (pairV (val ps) (val qs))) else []
noncomputable def prC (ps qs : List Int) : Int := if natB ps = true ∧ natB qs = true then fitC (canOf (pairV (val ps) (val qs))) else 1
theorem pr_good {ps qs : List Int} (h : natB ps = true) (k : natB qs = true) : prL ps qs = fitL (canOf (pairV (val ps) (val qs))) ∧ prC ps qs = fitC (canOf (pairV (val ps) (val qs))) := by
  simp only [prL, prC, h, k, and_self, if_true]
theorem pr_bad {ps qs : List Int} (h : ¬ (natB ps = true ∧ natB qs = true)) : prL ps qs = [] ∧ prC ps qs = 1 := by
  simp only [prL, prC, if_neg h]; exact ⟨trivial, trivial⟩

end Go.Proofs.Ytfnopnaaahkklaa.Ints
