/- Contracts of NaturalOf, of the model and of the program. -/
import Derived.Test.YtalmlkdihlhpjabLimbs
namespace Go.Proofs.Ytalmlkdihlhpjab.Ints
open Go.RowKit
set_option linter.unusedVariables false
def nofL (n : Int) : List Int := if 0 ≤ n ∧ n ≤ 1000000000000 then limbs n else []
def nofC (n : Int) : Int := if 0 ≤ n ∧ n ≤ 1000000000000 then 0 else 2
theorem Ow.nil (w : World) : Ow w w.heap.size w.heap.size (.slice none 0 0) [] :=
  ⟨by simp, Fit.nil, World.ownsRow_nil _ _ _ _, fun k hk => by simp [Value.ownBlock] at hk, Nat.le_refl _, Nat.le_refl _⟩
theorem specNaturalOf (n : Int) (w : World) :
    Calls Try.prog 30 #[.int .i64 n] w fun e w' => ∃ u, e = .returned (.tuple #[u, .int .i64 (nofC n)]) ∧ Ow w' w.heap.size w'.heap.size u (nofL n) ∧ Below w.heap.size w w' := by
  by_cases h0 : 0 ≤ n
  · by_cases h1 : n ≤ 1000000000000
    · have e : Hid (nofL n = limbs n ∧ nofC n = 0) := Lib.hid (by simp [nofL, nofC, h0, h1])
      go_enter Try.func30, Try.ntmps30
      go_wp2_with (first | (go_at_call 50; refine (specLimbs n _ h0 (by omega)).mono ?_; rintro e w' ⟨u, rfl, ho, hb⟩; have HO := Lib.hid ho; have HB := Lib.hid hb; clear ho hb) | go_in)
      go_ret2
      exact ⟨_, by rw [e.out.2] <;> rfl, by rw [e.out.1]; exact HO.out, HB.out⟩
    · have e : Hid (nofL n = [] ∧ nofC n = 2) := Lib.hid (by simp [nofL, nofC, h1])
      go_enter Try.func30, Try.ntmps30
      go_wp2
      go_ret2
      exact ⟨_, by rw [e.out.2] <;> rfl, by rw [e.out.1]; exact Ow.nil w, Below.refl _ _⟩
  · have e : Hid (nofL n = [] ∧ nofC n = 2) := Lib.hid (by simp [nofL, nofC, h0])
    go_enter Try.func30, Try.ntmps30
    go_wp2
    go_ret2
    exact ⟨_, by rw [e.out.2] <;> rfl, by rw [e.out.1]; exact Ow.nil w, Below.refl _ _⟩
theorem implNaturalOf (n : Int) (w : World) :
    Calls Try.prog 31 #[.int .i64 n] w fun e w' => ∃ u, e = .returned (.tuple #[u, .int .i64 (nofC n)]) ∧ Ow w' w.heap.size w'.heap.size u (nofL n) ∧ Below w.heap.size w w' := by
  by_cases h0 : n < 0
  · have e : Hid (nofL n = [] ∧ nofC n = 2) := Lib.hid (by have : ¬ 0 ≤ n := by omega
                                                           simp [nofL, nofC, this])
    go_enter Try.func31, Try.ntmps31
    go_wp2
    go_ret2
    exact ⟨_, by rw [e.out.2] <;> rfl, by rw [e.out.1]; exact Ow.nil w, Below.refl _ _⟩
  · by_cases h1 : 1000000000000 < n
    · have e : Hid (nofL n = [] ∧ nofC n = 2) := Lib.hid (by have : ¬ n ≤ 1000000000000 := by omega
                                                             simp [nofL, nofC, this])
      go_enter Try.func31, Try.ntmps31
      go_wp2
      go_ret2
      exact ⟨_, by rw [e.out.2] <;> rfl, by rw [e.out.1]; exact Ow.nil w, Below.refl _ _⟩
    · have e : Hid (nofL n = limbs n ∧ nofC n = 0) := Lib.hid (by have a : 0 ≤ n := by omega
                                                                  have b : n ≤ 1000000000000 := by omega
                                                                  simp [nofL, nofC, a, b])
      go_enter Try.func31, Try.ntmps31
      go_wp2_with (go_at_call 51; refine (implLimbs n _ (by omega) (by omega)).mono ?_; rintro e w' ⟨u, rfl, ho, hb⟩; have HO := Lib.hid ho; have HB := Lib.hid hb; clear ho hb)
      go_ret2
      exact ⟨_, by rw [e.out.2] <;> rfl, by rw [e.out.1]; exact HO.out, HB.out⟩
end Go.Proofs.Ytalmlkdihlhpjab.Ints
