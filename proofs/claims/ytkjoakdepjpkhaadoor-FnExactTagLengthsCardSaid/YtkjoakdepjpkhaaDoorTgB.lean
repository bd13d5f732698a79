/- StepTag of the program: one step of a run (behindStep). -/
import Derived.Test.YtkjoakdepjpkhaaDoorTgN
namespace Go.Proofs.YtkjoakdepjpkhaaDoor.Ints
open Go.RowKit
set_option linter.unusedVariables false
set_option linter.unusedSimpArgs false
theorem nlT (g : Nat) (w : World) : (nilAhead 379 103 (.pointer (some ⟨g, 0, none⟩)) "loop.example/g01079/impl.valid").run Tryd.prog w = .ok (some false) w := by kernel_rfl
theorem nlTs (g : Nat) (w : World) : (nilAhead 379 103 (.pointer (some ⟨g, 0, none⟩)) "loop.example/g01079/impl.step").run Tryd.prog w = .ok (some false) w := by kernel_rfl
theorem nlTc (g : Nat) (w : World) : (nilAhead 379 103 (.pointer (some ⟨g, 0, none⟩)) "loop.example/g01079/impl.config").run Tryd.prog w = .ok (some false) w := by kernel_rfl
theorem nlTh (g : Nat) (w : World) : (nilAhead 379 103 (.pointer (some ⟨g, 0, none⟩)) "loop.example/g01079/impl.halts").run Tryd.prog w = .ok (some false) w := by kernel_rfl
theorem mtT (g : Nat) (w : World) : (Go.method 379 103 (.pointer (some ⟨g, 0, none⟩)) "loop.example/g01079/impl.valid").run Tryd.prog w = .ok (185, .pointer (some ⟨g, 0, none⟩)) w := by kernel_rfl
theorem mtTs (g : Nat) (w : World) : (Go.method 379 103 (.pointer (some ⟨g, 0, none⟩)) "loop.example/g01079/impl.step").run Tryd.prog w = .ok (184, .pointer (some ⟨g, 0, none⟩)) w := by kernel_rfl
theorem mtTc (g : Nat) (w : World) : (Go.method 379 103 (.pointer (some ⟨g, 0, none⟩)) "loop.example/g01079/impl.config").run Tryd.prog w = .ok (182, .pointer (some ⟨g, 0, none⟩)) w := by kernel_rfl
theorem mtTh (g : Nat) (w : World) : (Go.method 379 103 (.pointer (some ⟨g, 0, none⟩)) "loop.example/g01079/impl.halts").run Tryd.prog w = .ok (183, .pointer (some ⟨g, 0, none⟩)) w := by kernel_rfl
open Classical in
noncomputable def tgC (d : Int) (zss : List (List Int)) (hs xs : List Int) : Int :=
  if (tagB d zss hs && overB zss.length xs) = true then (if hlT d hs xs then 6 else if (apT zss xs).length ≤ 1000 then 0 else 5) else 1
noncomputable def tgX (d : Int) (zss : List (List Int)) (hs xs : List Int) : List Int := if tgC d zss hs xs = 0 then nxT d zss xs else []
theorem tg_bad {d : Int} {zss : List (List Int)} {hs xs : List Int} (h : (tagB d zss hs && overB zss.length xs) = false) : tgC d zss hs xs = 1 ∧ tgX d zss hs xs = [] := by
  have : tgC d zss hs xs = 1 := by simp [tgC, h]
  exact ⟨this, by simp [tgX, this]⟩
theorem tg_halt {d : Int} {zss : List (List Int)} {hs xs : List Int} (h : (tagB d zss hs && overB zss.length xs) = true) (k : hlT d hs xs) : tgC d zss hs xs = 6 ∧ tgX d zss hs xs = [] := by
  have : tgC d zss hs xs = 6 := by rw [tgC, if_pos h, if_pos k]
  exact ⟨this, by simp [tgX, this]⟩
theorem tg_full {d : Int} {zss : List (List Int)} {hs xs : List Int} (h : (tagB d zss hs && overB zss.length xs) = true) (k : ¬ hlT d hs xs) (q : ¬ (apT zss xs).length ≤ 1000) : tgC d zss hs xs = 5 ∧ tgX d zss hs xs = [] := by
  have : tgC d zss hs xs = 5 := by rw [tgC, if_pos h, if_neg k, if_neg q]
  exact ⟨this, by simp [tgX, this]⟩
theorem tg_next {d : Int} {zss : List (List Int)} {hs xs : List Int} (h : (tagB d zss hs && overB zss.length xs) = true) (k : ¬ hlT d hs xs) (q : (apT zss xs).length ≤ 1000) : tgC d zss hs xs = 0 ∧ tgX d zss hs xs = nxT d zss xs := by
  have : tgC d zss hs xs = 0 := by rw [tgC, if_pos h, if_neg k, if_pos q]
  exact ⟨this, by rw [tgX, if_pos this]⟩
theorem tg_both {d : Int} {zss : List (List Int)} {hs xs : List Int} (h : (tagB d zss hs && overB zss.length xs) = true) : tagB d zss hs = true ∧ overB zss.length xs = true := by simpa using h
end Go.Proofs.YtkjoakdepjpkhaaDoor.Ints
