/- Contracts of the model's and the program's limbs of a number. -/
import Derived.Test.YtmbojhlcmgknbaaNat
namespace Go.Proofs.Ytmbojhlcmgknbaa.Ints
open Go.RowKit
set_option linter.unusedVariables false

/-- The limbs of a number, with fuel. -/
def limbsF : Nat → Int → List Int
  | 0, _ => []
  | f + 1, n => if 0 < n then (n % 1000000) :: limbsF f (n / 1000000) else []
def limbs (n : Int) : List Int := limbsF n.toNat n
theorem limbsF_step {f : Nat} {n : Int} (h : 0 < n) (hf : n ≤ f) : ∃ g, f = g + 1 ∧ limbsF f n = (n % 1000000) :: limbsF g (n / 1000000) := by
  cases f with
  | zero => simp at hf; omega
  | succ g => exact ⟨g, rfl, by simp [limbsF, h]⟩
theorem limbsF_stop {f : Nat} {n : Int} (h : ¬ 0 < n) : limbsF f n = [] := by
  cases f with
  | zero => rfl
  | succ g => simp [limbsF, h]
/-- How many limbs have been taken, and what is left. -/
def Left (j : Nat) (m : Int) : Prop := (j = 0 ∧ m ≤ 1000000000000000000) ∨ (j = 1 ∧ m ≤ 1000000000000) ∨ (j = 2 ∧ m ≤ 1000000) ∨ (j = 3 ∧ m ≤ 1) ∨ (j = 4 ∧ m ≤ 0)
theorem Left.step {j : Nat} {m : Int} (h : Left j m) (hm : 0 < m) : Left (j + 1) (m / 1000000) := by unfold Left at *; omega
theorem Left.le {j : Nat} {m : Int} (h : Left j m) : j ≤ 4 := by unfold Left at h; omega

/-- An owned row out of the law's parts. -/
theorem Ow.of_row {w : World} {B : Nat} {v : Value} {xs : List Int} (hr : w.ownsRow B 2 1 v xs.length (xs.map (Value.int .i64))) (hl : xs.length ≤ 16777216) (hf : Fit xs) (hB : B ≤ w.heap.size) : Ow w B w.heap.size v xs :=
  ⟨hl, hf, hr, fun k hk => (hr.lt k hk).2, Nat.le_refl _, hB⟩
theorem snoc_row {w : World} {B : Nat} {v : Value} {xs : List Int} {x : Int} (h : w.ownsRow B 2 1 v (xs.length + 1) (xs.map (Value.int .i64) ++ [.int .i64 x])) :
    w.ownsRow B 2 1 v (xs ++ [x]).length ((xs ++ [x]).map (Value.int .i64)) := by simpa using h
theorem cell_new (w : World) (v : Value) (t : TypeId) : ∀ j u, [v][j]? = some u → (w.alloc (.cells #[v] t)).cell? ((⟨w.heap.size, 0, none⟩ : Addr).add j) = some u := by
  intro j u h
  match j, h with
  | 0, h => simp at h; subst h; rw [Addr.add_lit]; simp [World.cell?_alloc_at]
  | j + 1, h => simp at h
theorem one_cell (x : Int) : ∀ u ∈ [Value.int .i64 x], u.oneCell' = true := ints_oneCell .i64 [x]

end Go.Proofs.Ytmbojhlcmgknbaa.Ints
