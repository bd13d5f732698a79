/- PruneProgram: where an instruction leads, as the program lists it. -/
import Derived.Test.YteihfohjmjlanaaDoorRch
import Derived.Test.YteihfohjmjlanaaDoorInsL
import Derived.Test.YteihfohjmjlanaaDoorOwn
import Derived.Test.YteihfohjmjlanaaDoorCel
namespace Go.Proofs.YteihfohjmjlanaaDoor.Ints
open Go.RowKit
set_option linter.unusedVariables false
set_option linter.unusedSimpArgs false
theorem owFresh (w : World) (xs : List Int) (hf : Fit xs) (hl : xs.length ≤ 1048576) :
    Ow (w.alloc (.cells (xs.map (Value.int .i64)).toArray 2)) w.heap.size (w.alloc (.cells (xs.map (Value.int .i64)).toArray 2)).heap.size (.slice (some ⟨w.heap.size, 0, none⟩) xs.length xs.length) xs := by
  refine ⟨by omega, hf, ⟨by simp, .inr ⟨w.heap.size, xs.length, _, rfl, Nat.le_refl _, heap_alloc_new w _, Nat.le_refl _, by unfold maxLen; omega, by simp, by simp; exact List.take_of_length_le (by simp)⟩⟩, fun k hk => by cases hk; simp, Nat.le_refl _, by simp⟩
theorem nxI_fit {r : Ins} (h : r.fit) : Fit (nxI r) := by
  obtain ⟨_, _, ht, he⟩ := h
  intro z hz
  unfold nxI at hz
  split at hz
  · simp at hz
    rcases hz with rfl | rfl
    · exact ht
    · exact he
  · simp at hz
    subst hz; exact ht
set_option maxHeartbeats 1000000 in
theorem implPlaces (x y z u : Int) (w : World) (hf : Ins.fit ⟨x, y, z, u⟩) :
    Calls Tryd.prog 78 #[.agg #[.int .i64 x, .int .i64 y, .int .i64 z, .int .i64 u]] w fun e w' => ∃ v, e = .returned v ∧ Ow w' w.heap.size w'.heap.size v (nxI ⟨x, y, z, u⟩) ∧ Below w.heap.size w w' := by
  have HF := Lib.hid (nxI_fit hf)
  have HB : Hid (Below w.heap.size w (w.alloc (Obj.cells #[.int .i64 x, .int .i64 y, .int .i64 z, .int .i64 u] 66))) := Lib.hid ((Below.refl _ _).alloc (Nat.le_refl _) _)
  clear hf
  by_cases h1 : x = 1
  · have hd : (x == 1) = true := by simp [h1]
    have HE : Hid (nxI ⟨x, y, z, u⟩ = [z, u]) := Lib.hid (by simp [nxI, h1])
    have HO := Lib.hid (owFresh (w.alloc (Obj.cells #[.int .i64 x, .int .i64 y, .int .i64 z, .int .i64 u] 66)) [z, u] (by rw [← HE.out]; exact HF.out) (by simp))
    clear h1
    go_enter Tryd.func78, Tryd.ntmps78
    go_wp2
    go_ret
    exact ⟨_, rfl, by rw [HE.out]; have h := HO.out.mono HB.out.size (Nat.le_refl _) (Nat.le_refl _); simpa using h, HB.out.alloc (by simp) _⟩
  · have hd : (x == 1) = false := by simp [h1]
    have HE : Hid (nxI ⟨x, y, z, u⟩ = [z]) := Lib.hid (by simp [nxI, h1])
    have HO := Lib.hid (owFresh (w.alloc (Obj.cells #[.int .i64 x, .int .i64 y, .int .i64 z, .int .i64 u] 66)) [z] (by rw [← HE.out]; exact HF.out) (by simp))
    clear h1
    go_enter Tryd.func78, Tryd.ntmps78
    go_wp2
    go_ret
    exact ⟨_, rfl, by rw [HE.out]; have h := HO.out.mono HB.out.size (Nat.le_refl _) (Nat.le_refl _); simpa using h, HB.out.alloc (by simp) _⟩
end Go.Proofs.YteihfohjmjlanaaDoor.Ints
