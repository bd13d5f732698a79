/- A text parted at a byte: the library's. -/
import Derived.Test.YtbifkjmmhfnblaaDoorSpl
import Derived.Test.YtbifkjmmhfnblaaDoorShf
import Derived.Shelf.Strings.Split
namespace Go.Proofs.YtbifkjmmhfnblaaDoor.Ints
open Go.RowKit
set_option linter.unusedVariables false
set_option linter.unusedSimpArgs false
def MaxV (w : World) : Prop := ∃ m : Int, w.cell? ⟨0, 0, none⟩ = some (.int .i64 m)
theorem MaxV.below {w w' : World} {B : Nat} (h : MaxV w) (hb : Below B w w') (hB : w.heap.size ≤ B) : MaxV w' := by
  obtain ⟨m, hm⟩ := h
  exact ⟨m, (hb.cell (Nat.lt_of_lt_of_le (World.block_lt_of_cell? _ _ hm) hB)).trans hm⟩
theorem implSplit (s : ByteArray) (c : UInt8) (sep : ByteArray) (w : World) (hs : s.size ≤ 1048576) (hp : sep = bs [c]) (hm : MaxV w) :
    Calls Tryd.prog 44 #[.string s, .string sep] w fun e w' => ∃ u, e = .returned u ∧ RdS w' u (pcs c s.data.toList) ∧ Below w.heap.size w w' := by
  subst hp
  obtain ⟨m, hm⟩ := hm
  have hlen : (Lib.splitB (bs [c]) 0 (Lib.countB s (bs [c])) s).length = Lib.countB s (bs [c]) + 1 := Lib.splitB_all (bs [c]) (by rw [bs_size]; exact Nat.le_refl _) 0 _ s rfl
  have hl2 : (pcs c s.data.toList).length = Lib.countB s (bs [c]) + 1 := by rw [← split_pcs, List.length_map, hlen]
  refine (Tryd.strings_Split s (bs [c]) m w (by omega) hm (by rw [bs_size]; exact Nat.le_refl _)).mono ?_
  rintro e w' ⟨rfl, rfl⟩
  refine ⟨_, rfl, ?_, (Below.refl _ _).alloc (Nat.le_refl _) _⟩
  rw [split_vals]
  exact rds_alloc w (pcs c s.data.toList) _ _ hl2.symm
end Go.Proofs.YtbifkjmmhfnblaaDoor.Ints
