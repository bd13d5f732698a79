/- One step of counters at work: behindStep, StepCounters. -/
import Derived.Test.YtgbhbbapkpgmiaaDoorCRn
import Derived.Test.YtgbhbbapkpgmiaaDoorStS
import Derived.Deep.RegionHeld3
namespace Go.Proofs.YtgbhbbapkpgmiaaDoor.Ints
open Go.RowKit
set_option linter.unusedVariables false
set_option linter.unusedSimpArgs false
theorem nlC (n : String) (g : Nat) (w : World) : (nilAhead 383 107 (.pointer (some ⟨g, 0, none⟩)) "loop.example/g01079/impl.valid").run Tryd.prog w = .ok (some false) w := by kernel_rfl
theorem nlCs (g : Nat) (w : World) : (nilAhead 383 107 (.pointer (some ⟨g, 0, none⟩)) "loop.example/g01079/impl.step").run Tryd.prog w = .ok (some false) w := by kernel_rfl
theorem nlCc (g : Nat) (w : World) : (nilAhead 383 107 (.pointer (some ⟨g, 0, none⟩)) "loop.example/g01079/impl.config").run Tryd.prog w = .ok (some false) w := by kernel_rfl
theorem nlCh (g : Nat) (w : World) : (nilAhead 383 107 (.pointer (some ⟨g, 0, none⟩)) "loop.example/g01079/impl.halts").run Tryd.prog w = .ok (some false) w := by kernel_rfl
theorem mtCv (g : Nat) (w : World) : (Go.method 383 107 (.pointer (some ⟨g, 0, none⟩)) "loop.example/g01079/impl.valid").run Tryd.prog w = .ok (192, .pointer (some ⟨g, 0, none⟩)) w := by kernel_rfl
theorem mtCs (g : Nat) (w : World) : (Go.method 383 107 (.pointer (some ⟨g, 0, none⟩)) "loop.example/g01079/impl.step").run Tryd.prog w = .ok (191, .pointer (some ⟨g, 0, none⟩)) w := by kernel_rfl
theorem mtCc (g : Nat) (w : World) : (Go.method 383 107 (.pointer (some ⟨g, 0, none⟩)) "loop.example/g01079/impl.config").run Tryd.prog w = .ok (189, .pointer (some ⟨g, 0, none⟩)) w := by kernel_rfl
theorem mtCh (g : Nat) (w : World) : (Go.method 383 107 (.pointer (some ⟨g, 0, none⟩)) "loop.example/g01079/impl.halts").run Tryd.prog w = .ok (190, .pointer (some ⟨g, 0, none⟩)) w := by kernel_rfl
theorem Only.cels {S : Nat → Prop} {A B : World} (h : Only S A B) {g : Nat} {t : TypeId} {cs : List Value} (k : Cels A g t cs) (hn : ¬ S g) : Cels B g t cs := h.kept k hn
end Go.Proofs.YtgbhbbapkpgmiaaDoor.Ints
