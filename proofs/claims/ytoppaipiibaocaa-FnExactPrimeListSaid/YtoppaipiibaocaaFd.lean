/- The model's number of digits, and the contract of the model's FromDigits. -/
import Derived.Test.YtoppaipiibaocaaVcalc
import Derived.Deep.RegionHeld3
namespace Go.Proofs.Ytoppaipiibaocaa.Ints
open Go.RowKit
set_option linter.unusedVariables false

/-- The value of the last k digits; none if it was too long on the way. -/
noncomputable def fdS (zs : List Int) (b : Int) : Nat → Option Int
  | 0 => some 0
  | k + 1 => match fdS zs b k with
    | none => none
    | some V => if (canOf (V * b + zs.getD (zs.length - 1 - k) 0)).length ≤ 40 then some (V * b + zs.getD (zs.length - 1 - k) 0) else none
theorem fdS_step {zs : List Int} {b V : Int} {k : Nat} (h : fdS zs b k = some V) (hl : (canOf (V * b + zs.getD (zs.length - 1 - k) 0)).length ≤ 40) : fdS zs b (k + 1) = some (V * b + zs.getD (zs.length - 1 - k) 0) := by
  rw [fdS, h]; simp only [if_pos hl]
theorem fdS_stop {zs : List Int} {b V : Int} {k : Nat} (h : fdS zs b k = some V) (hl : ¬ (canOf (V * b + zs.getD (zs.length - 1 - k) 0)).length ≤ 40) : fdS zs b (k + 1) = none := by
  rw [fdS, h]; simp only [if_neg hl]
theorem fdS_none {zs : List Int} {b : Int} {k : Nat} (h : fdS zs b k = none) : ∀ d, fdS zs b (k + d) = none := by
  intro d
  induction d with
  | zero => exact h
  | succ d ih => rw [← Nat.add_assoc, fdS, ih]
noncomputable def fdR (zs : List Int) (b : Int) : Option Int := fdS zs b zs.length
noncomputable def fdL (zs : List Int) (b : Int) : List Int := match fdR zs b with | some V => canOf V | none => []
noncomputable def fdB (zs : List Int) (b : Int) : Bool := (fdR zs b).isSome
theorem nn_len' {a : Int} {k : Nat} (h0 : 0 ≤ a) (h : (canOf a).length ≤ k) : Nn k a := by
  obtain ⟨h1, h2⟩ := canOf_spec h0
  have := nn_of h1 h
  rwa [h2] at this
theorem limbs_val' {n : Int} (h : 0 ≤ n) : limbs n = canOf n := by
  obtain ⟨h1, h2⟩ := limbs_can h
  exact (canOf_eq h1 h2).symm
theorem nn_base {b : Int} (h0 : 0 ≤ b) (h1 : b ≤ 1000000) : Nn 2 b := ⟨h0, by simp [Pw]; omega⟩
end Go.Proofs.Ytoppaipiibaocaa.Ints
