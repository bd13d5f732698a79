/- One step of counters at work: behindStep, StepCounters. -/
import Derived.Test.YtkjoakdepjpkhaaDoorCRn
import Derived.Test.YtkjoakdepjpkhaaDoorStS
import Derived.Deep.RegionHeld3
namespace Go.Proofs.YtkjoakdepjpkhaaDoor.Ints
open Go.RowKit
set_option linter.unusedVariables false
set_option linter.unusedSimpArgs false
theorem nlC (n : String) (g : Nat) (w : World) : (nilAhead 379 140 (.pointer (some ⟨g, 0, none⟩)) "loop.example/g01079/impl.valid").run Tryd.prog w = .ok (some false) w := by kernel_rfl
theorem nlCs (g : Nat) (w : World) : (nilAhead 379 140 (.pointer (some ⟨g, 0, none⟩)) "loop.example/g01079/impl.step").run Tryd.prog w = .ok (some false) w := by kernel_rfl
theorem nlCc (g : Nat) (w : World) : (nilAhead 379 140 (.pointer (some ⟨g, 0, none⟩)) "loop.example/g01079/impl.config").run Tryd.prog w = .ok (some false) w := by kernel_rfl
theorem nlCh (g : Nat) (w : World) : (nilAhead 379 140 (.pointer (some ⟨g, 0, none⟩)) "loop.example/g01079/impl.halts").run Tryd.prog w = .ok (some false) w := by kernel_rfl
theorem mtCv (g : Nat) (w : World) : (Go.method 379 140 (.pointer (some ⟨g, 0, none⟩)) "loop.example/g01079/impl.valid").run Tryd.prog w = .ok (200, .pointer (some ⟨g, 0, none⟩)) w := by kernel_rfl
theorem mtCs (g : Nat) (w : World) : (Go.method 379 140 (.pointer (some ⟨g, 0, none⟩)) "loop.example/g01079/impl.step").run Tryd.prog w = .ok (199, .pointer (some ⟨g, 0, none⟩)) w := by kernel_rfl
theorem mtCc (g : Nat) (w : World) : (Go.method 379 140 (.pointer (some ⟨g, 0, none⟩)) "loop.example/g01079/impl.config").run Tryd.prog w = .ok (197, .pointer (some ⟨g, 0, none⟩)) w := by kernel_rfl
theorem mtCh (g : Nat) (w : World) : (Go.method 379 140 (.pointer (some ⟨g, 0, none⟩)) "loop.example/g01079/impl.halts").run Tryd.prog w = .ok (198, .pointer (some ⟨g, 0, none⟩)) w := by kernel_rfl
theorem Only.cels {S : Nat → Prop} {A B : World} (h : Only S A B) {g : Nat} {t : TypeId} {cs : List Value} (k : Cels A g t cs) (hn : ¬ S g) : Cels B g t cs := h.kept k hn
end Go.Proofs.YtkjoakdepjpkhaaDoor.Ints
