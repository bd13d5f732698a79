/- One step of a store at work: behindStep at Store. -/
import Derived.Test.YtgbhbbapkpgmiaaDoorNsR
import Derived.Test.YtgbhbbapkpgmiaaDoorStS
import Derived.Deep.RegionHeld3
namespace Go.Proofs.YtgbhbbapkpgmiaaDoor.Ints
open Go.RowKit
set_option linter.unusedVariables false
set_option linter.unusedSimpArgs false
theorem nlS (n : String) (g : Nat) (w : World) : (nilAhead 383 115 (.pointer (some ⟨g, 0, none⟩)) "loop.example/g01079/impl.valid").run Tryd.prog w = .ok (some false) w := by kernel_rfl
theorem nlSs (g : Nat) (w : World) : (nilAhead 383 115 (.pointer (some ⟨g, 0, none⟩)) "loop.example/g01079/impl.step").run Tryd.prog w = .ok (some false) w := by kernel_rfl
theorem nlSc (g : Nat) (w : World) : (nilAhead 383 115 (.pointer (some ⟨g, 0, none⟩)) "loop.example/g01079/impl.config").run Tryd.prog w = .ok (some false) w := by kernel_rfl
theorem nlSh (g : Nat) (w : World) : (nilAhead 383 115 (.pointer (some ⟨g, 0, none⟩)) "loop.example/g01079/impl.halts").run Tryd.prog w = .ok (some false) w := by kernel_rfl
theorem mtSv (g : Nat) (w : World) : (Go.method 383 115 (.pointer (some ⟨g, 0, none⟩)) "loop.example/g01079/impl.valid").run Tryd.prog w = .ok (192, .pointer (some ⟨g, 0, none⟩)) w := by kernel_rfl
theorem mtSs (g : Nat) (w : World) : (Go.method 383 115 (.pointer (some ⟨g, 0, none⟩)) "loop.example/g01079/impl.step").run Tryd.prog w = .ok (191, .pointer (some ⟨g, 0, none⟩)) w := by kernel_rfl
theorem mtSc (g : Nat) (w : World) : (Go.method 383 115 (.pointer (some ⟨g, 0, none⟩)) "loop.example/g01079/impl.config").run Tryd.prog w = .ok (193, .pointer (some ⟨g, 0, none⟩)) w := by kernel_rfl
theorem mtSh (g : Nat) (w : World) : (Go.method 383 115 (.pointer (some ⟨g, 0, none⟩)) "loop.example/g01079/impl.halts").run Tryd.prog w = .ok (190, .pointer (some ⟨g, 0, none⟩)) w := by kernel_rfl
theorem strValidC {w : World} {g : Nat} {t : TypeId} {at' : Int} {u p : Value} {ok : Bool} {most : Int} (h : Cels w g t [.int .i64 at', u, p, .bool ok, .int .i64 most]) :
    Calls Tryd.prog 192 #[.pointer (some ⟨g, 0, none⟩)] w fun e w' => e = .returned (.bool ok) ∧ w = w' := by
  have z3 := h.cell 3 rfl
  clear h
  go_enter Tryd.func192, Tryd.ntmps192
  go_wp2
  go_ret
  exact ⟨rfl, rfl⟩
theorem Only.celsS {S : Nat → Prop} {A B : World} (h : Only S A B) {g : Nat} {t : TypeId} {cs : List Value} (k : Cels A g t cs) (hn : ¬ S g) : Cels B g t cs := h.kept k hn
end Go.Proofs.YtgbhbbapkpgmiaaDoor.Ints
