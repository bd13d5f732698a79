/- Contracts of the model's and the program's test of a result's length. -/
import Derived.Test.YtcpipakpkmfhlaaAddL
import Derived.Test.YtcpipakpkmfhlaaCmpNat
namespace Go.Proofs.Ytcpipakpkmfhlaa.Ints
open Go.RowKit
set_option linter.unusedVariables false
def fitL (Z : List Int) : List Int := if Z.length ≤ 40 then Z else []
def fitC (Z : List Int) : Int := if Z.length ≤ 40 then 0 else 5
theorem Ow.nilOf (w : World) : Ow w w.heap.size w.heap.size (.slice none 0 0) [] :=
  ⟨by simp, Fit.nil, World.ownsRow_nil _ _ _ _, fun k hk => by simp [Value.ownBlock] at hk, Nat.le_refl _, Nat.le_refl _⟩
theorem Ow.nilUp {w : World} {B : Nat} (h : B ≤ w.heap.size) : Ow w B w.heap.size (.slice none 0 0) [] :=
  ⟨by simp, Fit.nil, World.ownsRow_nil _ _ _ _, fun k hk => by simp [Value.ownBlock] at hk, Nat.le_refl _, h⟩
theorem Ow.nilIn {w : World} {B T : Nat} {v : Value} {Z : List Int} (h : Ow w B T v Z) : Ow w B T (.slice none 0 0) [] :=
  ⟨by simp, Fit.nil, World.ownsRow_nil _ _ _ _, fun k hk => by simp [Value.ownBlock] at hk, h.size, h.base⟩
theorem Ow.slice {w : World} {B T : Nat} {v : Value} {Z : List Int} (h : Ow w B T v Z) : ∃ a c, v = .slice a Z.length c := by
  rcases h.form with ⟨rfl, rfl⟩ | ⟨g, c, rfl, _⟩
  · exact ⟨_, _, rfl⟩
  · exact ⟨_, _, rfl⟩
theorem implFit (v : Value) (Z : List Int) (B T : Nat) (w : World) (h : Ow w B T v Z) :
    Calls Try.prog 22 #[v] w fun e w' => ∃ r, e = .returned (.tuple #[r, .int .i64 (fitC Z)]) ∧ Ow w B T r (fitL Z) ∧ w = w' := by
  have H := Lib.hid h
  obtain ⟨a, c, rfl⟩ := h.slice
  clear h
  by_cases hz : Z.length ≤ 40
  · have k1 : ¬ (40 : Int) < (Z.length : Int) := by omega
    have HR : Hid (fitL Z = Z ∧ fitC Z = 0) := Lib.hid (by simp [fitL, fitC, hz])
    go_enter Try.func22, Try.ntmps22
    go_wp2
    go_ret2
    exact ⟨_, by rw [HR.out.2] <;> rfl, by rw [HR.out.1]; exact H.out, rfl⟩
  · have k1 : (40 : Int) < (Z.length : Int) := by omega
    have HR : Hid (fitL Z = [] ∧ fitC Z = 5) := Lib.hid (by simp [fitL, fitC, hz])
    go_enter Try.func22, Try.ntmps22
    go_wp2
    go_ret2
    exact ⟨_, by rw [HR.out.2] <;> rfl, by rw [HR.out.1]; exact H.out.nilIn, rfl⟩
end Go.Proofs.Ytcpipakpkmfhlaa.Ints
