/- Contracts of ValuationOf, of the model and of the program. -/
import Derived.Test.YtcpipakpkmfhlaaDivBy
namespace Go.Proofs.Ytcpipakpkmfhlaa.Ints
open Go.RowKit
set_option linter.unusedVariables false

theorem div_fits {ps : List Int} (h : Can ps) {p : Int} (hp : 1 ≤ p) : Can (canOf (val ps / p)) ∧ val (canOf (val ps / p)) = val ps / p ∧ (canOf (val ps / p)).length ≤ ps.length := by
  have h0 := val_nonneg h.1
  obtain ⟨h1, h2⟩ := canOf_spec (Int.ediv_nonneg h0 (show 0 ≤ p by omega))
  refine ⟨h1, h2, can_len h1 ?_⟩
  rw [h2]
  have := Int.ediv_le_self p h0
  have := val_lt h.1
  omega
theorem vlF_step {f : Nat} {m p : Int} (h0 : 0 < m) (hf : m ≤ f) (h : m % p = 0) : ∃ g, f = g + 1 ∧ vlF f m p = vlF g (m / p) p + 1 := by
  cases f with
  | zero => simp at hf; omega
  | succ g => exact ⟨g, rfl, by rw [vlF, if_neg (by omega)]⟩
theorem vlF_stop {f : Nat} {m p : Int} (h : m % p ≠ 0) : vlF f m p = 0 := by
  cases f with
  | zero => rfl
  | succ g => rw [vlF, if_pos h]
/-- What is left when all factors p are taken. -/
def rsF : Nat → Int → Int → Int
  | 0, m, _ => m
  | f + 1, m, p => if m % p ≠ 0 then m else rsF f (m / p) p
theorem rsF_step {f : Nat} {m p : Int} (h0 : 0 < m) (hf : m ≤ f) (h : m % p = 0) : ∃ g, f = g + 1 ∧ vlF f m p = vlF g (m / p) p + 1 ∧ rsF f m p = rsF g (m / p) p := by
  cases f with
  | zero => simp at hf; omega
  | succ g => exact ⟨g, rfl, by rw [vlF, if_neg (by omega)], by rw [rsF, if_neg (by omega)]⟩
theorem rsF_stop {f : Nat} {m p : Int} (h : m % p ≠ 0) : rsF f m p = m := by
  cases f with
  | zero => rfl
  | succ g => rw [rsF, if_pos h]
noncomputable def rsN (ps : List Int) (p : Int) : Int := rsF (val ps).toNat (val ps) p
noncomputable def vlN (ps : List Int) (p : Int) : Nat := vlF (val ps).toNat (val ps) p
noncomputable def vlV (ps : List Int) (p : Int) : Int := if natB ps = true ∧ 0 < ps.length ∧ 2 ≤ p ∧ p ≤ 999999 then vlN ps p else 0
noncomputable def vlC (ps : List Int) (p : Int) : Int := if natB ps = true then (if 0 < ps.length ∧ 2 ≤ p ∧ p ≤ 999999 then 0 else 2) else 1
theorem vl_bad {ps : List Int} {p : Int} (h : natB ps = false) : vlV ps p = 0 ∧ vlC ps p = 1 := by simp [vlV, vlC, h]
theorem vl_range {ps : List Int} {p : Int} (h : natB ps = true) (k : ¬ (0 < ps.length ∧ 2 ≤ p ∧ p ≤ 999999)) : vlV ps p = 0 ∧ vlC ps p = 2 := by
  rw [vlV, vlC, if_neg (fun H => k H.2), if_pos h, if_neg k]; exact ⟨rfl, rfl⟩
theorem vl_good {ps : List Int} {p : Int} (h : natB ps = true) (k : 0 < ps.length ∧ 2 ≤ p ∧ p ≤ 999999) : vlV ps p = vlN ps p ∧ vlC ps p = 0 := by
  rw [vlV, vlC, if_pos ⟨h, k⟩, if_pos h, if_pos k]; exact ⟨rfl, rfl⟩

end Go.Proofs.Ytcpipakpkmfhlaa.Ints
