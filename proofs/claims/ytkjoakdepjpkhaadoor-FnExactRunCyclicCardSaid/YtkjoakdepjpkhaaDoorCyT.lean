/- Copies of a cyclic tag system and of a turn, as laws with intervals of blocks want them. -/
import Derived.Test.YtkjoakdepjpkhaaDoorMkQ
import Derived.Test.YtkjoakdepjpkhaaDoorTrn
import Derived.Test.YtkjoakdepjpkhaaDoorCelD
import Derived.Test.YtkjoakdepjpkhaaDoorCyB
namespace Go.Proofs.YtkjoakdepjpkhaaDoor.Ints
open Go.RowKit
set_option linter.unusedVariables false
set_option linter.unusedSimpArgs false
theorem put2yg {w : World} {g : Nat} {t : TypeId} {cs : List Value} (h : Cels w g t cs) (b0 b1 : Value) :
    w.grownBy ((w.setCell ⟨g, 0, none⟩ b0).setCell ⟨g, 1, none⟩ b1) (some g) := grown_trans (put1g _ _ _ _) (put1g _ _ _ _)
theorem toCycT (u : Value) (ts : List (List Int)) (w : World) (hu : RdL w u ts) :
    Calls Tryd.prog 20 #[.agg #[u]] w fun e w' => ∃ u1, e = .returned (.agg #[u1]) ∧ OwQT w' w.heap.size w'.heap.size u1 ts ∧ Below w.heap.size w w' :=
  (toCyc u ts w hu).mono fun _ _ ⟨v, h1, h2, h3⟩ => ⟨v, h1, h2.t, h3⟩
theorem markCyc (u : Value) (ts : List (List Int)) (k0 : Nat) (B T : Nat) (w : World) (hu : OwQT w B T u ts) (h1 : k0 + tot ts ≤ 100000000000) :
    Calls Tryd.prog 25 #[.agg #[u], .int .i64 (k0 : Int)] w fun e w' => e = .returned (.int .i64 ((k0 + tot ts : Nat) : Int)) ∧ ∃ w1, Below w.heap.size w w1 ∧ Only (fun b => B ≤ b ∧ b < T) w1 w' := by
  obtain ⟨a1, c1, rfl⟩ := hu.shape
  obtain ⟨W0, hW0⟩ : ∃ W, W = w.alloc (Obj.cells #[.slice a1 ts.length c1] 44) := ⟨_, rfl⟩
  have HB : Hid (Below w.heap.size w W0) := Lib.hid (by rw [hW0]; exact (Below.refl w.heap.size w).alloc (Nat.le_refl _) _)
  have HW0 := Lib.hid hW0.symm
  have HU := Lib.hid (hu.below HB.out hu.size)
  clear hW0 hu
  go_enter Tryd.func25, Tryd.ntmps25
  go_wp2_with fail
  rw [HW0.out]
  refine (markLists _ ts k0 B T _ HU.out h1).mono ?_
  rintro e w1 ⟨rfl, ho1⟩
  have HO1 := Lib.hid ho1
  clear ho1
  go_wp2
  go_ret
  exact ⟨rfl, W0, HB.out, HO1.out⟩
end Go.Proofs.YtkjoakdepjpkhaaDoor.Ints
