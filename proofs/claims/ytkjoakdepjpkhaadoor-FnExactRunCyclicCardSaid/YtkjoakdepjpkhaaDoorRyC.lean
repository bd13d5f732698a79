/- The run of a cyclic tag system (plain lemmas). -/
import Derived.Test.YtkjoakdepjpkhaaDoorCyB
namespace Go.Proofs.YtkjoakdepjpkhaaDoor.Ints
open Go.RowKit
set_option linter.unusedVariables false
set_option linter.unusedSimpArgs false
/-- What a run ends in. -/
structure RyE where
  code : Int
  at' : Int
  cs : List Int
  n : Int
  h : Bool
def ryF (zss : List (List Int)) : Nat → Nat → List Int → Int → RyE
  | 0, j, xs, n => ⟨0, (j : Int), xs, n, decide (xs.length = 0)⟩
  | f + 1, j, xs, n => if xs.length = 0 then ⟨0, (j : Int), xs, n, true⟩ else if (apC zss j xs).length ≤ 1000 then ryF zss f (nxJ zss j) (apC zss j xs) (n + 1) else ⟨5, 0, [], 0, false⟩
theorem ryF_zero {zss : List (List Int)} {xs : List Int} {b : Bool} (j : Nat) (n : Int) (h : b = true ↔ xs.length = 0) : ryF zss 0 j xs n = ⟨0, (j : Int), xs, n, b⟩ := by
  rw [ryF]; congr 1; rw [Bool.eq_iff_iff, h]; simp
theorem ryF_halt {zss : List (List Int)} {xs : List Int} (f j : Nat) (n : Int) (h : xs.length = 0) : ryF zss f j xs n = ⟨0, (j : Int), xs, n, true⟩ := by
  cases f with
  | zero => exact ryF_zero j n ⟨fun _ => h, fun _ => rfl⟩
  | succ f => rw [ryF, if_pos h]
theorem ryF_next {zss : List (List Int)} {xs : List Int} (f j : Nat) (n : Int) (h : ¬ xs.length = 0) (hf : (apC zss j xs).length ≤ 1000) : ryF zss (f + 1) j xs n = ryF zss f (nxJ zss j) (apC zss j xs) (n + 1) := by rw [ryF, if_neg h, if_pos hf]
theorem ryF_full {zss : List (List Int)} {xs : List Int} (f j : Nat) (n : Int) (h : ¬ xs.length = 0) (hf : ¬ (apC zss j xs).length ≤ 1000) : ryF zss (f + 1) j xs n = ⟨5, 0, [], 0, false⟩ := by rw [ryF, if_neg h, if_neg hf]
/-- What RunCyclic returns. -/
noncomputable def ryR (zss : List (List Int)) (at' : Int) (xs : List Int) (bu : Int) : RyE :=
  if turnB zss at' xs = true then (if 1 ≤ bu ∧ bu ≤ 20000 then ryF zss bu.toNat at'.toNat xs 0 else ⟨2, 0, [], 0, false⟩) else ⟨1, 0, [], 0, false⟩
theorem ry_bad {zss : List (List Int)} {at' : Int} {xs : List Int} {bu : Int} (h : turnB zss at' xs = false) : ryR zss at' xs bu = ⟨1, 0, [], 0, false⟩ := by simp [ryR, h]
theorem ry_range {zss : List (List Int)} {at' : Int} {xs : List Int} {bu : Int} (h : turnB zss at' xs = true) (k : ¬ (1 ≤ bu ∧ bu ≤ 20000)) : ryR zss at' xs bu = ⟨2, 0, [], 0, false⟩ := by rw [ryR, if_pos h, if_neg k]
theorem ry_good {zss : List (List Int)} {at' : Int} {xs : List Int} {bu : Int} (h : turnB zss at' xs = true) (k : 1 ≤ bu ∧ bu ≤ 20000) : ryR zss at' xs bu = ryF zss bu.toNat at'.toNat xs 0 := by rw [ryR, if_pos h, if_pos k]
theorem ryF_code (zss : List (List Int)) : ∀ (f j : Nat) (xs : List Int) (n : Int), (ryF zss f j xs n).code = 0 ∨ ryF zss f j xs n = ⟨5, 0, [], 0, false⟩
  | 0, j, xs, n => .inl rfl
  | f + 1, j, xs, n => by
    by_cases h : xs.length = 0
    · rw [ryF_halt _ _ _ h]; exact .inl rfl
    · by_cases hf : (apC zss j xs).length ≤ 1000
      · rw [ryF_next _ _ _ h hf]; exact ryF_code zss f _ _ _
      · rw [ryF_full _ _ _ h hf]; exact .inr rfl
end Go.Proofs.YtkjoakdepjpkhaaDoor.Ints
