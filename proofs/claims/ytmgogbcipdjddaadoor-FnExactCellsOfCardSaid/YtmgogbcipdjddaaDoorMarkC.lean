/- Marks on configurations. -/
import Derived.Test.YtmgogbcipdjddaaDoorConf
import Derived.Test.YtmgogbcipdjddaaDoorMark
namespace Go.Proofs.YtmgogbcipdjddaaDoor.Ints
open Go.RowKit
set_option linter.unusedVariables false
set_option linter.unusedSimpArgs false
theorem markConf (st : Int) (u : Value) (ls : List Int) (v : Value) (rs : List Int) (k0 : Int) (B B' T T' : Nat) (w : World) (h : Ow w B T u ls) (h' : Ow w B' T' v rs) (hs : Sep u v) (h0 : 0 ≤ k0) (h1 : k0 ≤ 100000000000) :
    Calls Tryd.prog 23 #[.agg #[.int .i64 st, u, v], .int .i64 k0] w fun e w' => e = .returned (.int .i64 (k0 + (ls.length : Int) + (rs.length : Int))) ∧ ∃ wm, Ow w' B T u (marks k0 ls.length) ∧ Ow w' B' T' v (marks (k0 + (ls.length : Int)) rs.length) ∧ w.grownBy wm u.ownBlock ∧ wm.grownBy w' v.ownBlock := by
  have hl := h.len
  have hl' := h'.len
  obtain ⟨a, c, hu⟩ := h.shape
  obtain ⟨a', c', hv⟩ := h'.shape
  subst hu
  subst hv
  obtain ⟨W0, hW0⟩ : ∃ W, W = w.alloc (Obj.cells #[.int .i64 st, .slice a ls.length c, .slice a' rs.length c'] 35) := ⟨_, rfl⟩
  have hB : Below w.heap.size w W0 := by rw [hW0]; exact (Below.refl _ _).alloc (Nat.le_refl _) _
  have K0 : Cels W0 w.heap.size 35 [.int .i64 st, .slice a ls.length c, .slice a' rs.length c'] := by rw [hW0]; exact Cels.new _ _ _
  have HO := Lib.hid (h.below hB h.size)
  have HO' := Lib.hid (h'.below hB h'.size)
  have HG : Hid (w.grownBy W0 (Value.slice a ls.length c).ownBlock) := Lib.hid (by rw [hW0]; exact World.grownBy_alloc w _ _)
  have HNE : Hid ((Value.slice a ls.length c).ownBlock ≠ some w.heap.size) := Lib.hid (fun e => by have := h.top _ e; have := h.size; omega)
  have HK := Lib.hid K0
  have HS := Lib.hid hs
  have HW0 := Lib.hid hW0.symm
  clear h h' hB hW0 hs K0
  go_enter Tryd.func23, Tryd.ntmps23
  go_wp2_with fail
  rw [HW0.out]
  refine (markInts _ ls k0 B T _ HO.out h0 (by omega)).mono ?_
  rintro e w1 ⟨rfl, ho, hg⟩
  have z2 := (HK.out.grown hg HNE.out).cell 2 rfl
  have HO1 := Lib.hid ho
  have HO1' := Lib.hid (HO'.out.grown hg HS.out.2)
  have HG1 := Lib.hid (grown_trans HG.out hg)
  clear ho hg
  go_wp2_with fail
  refine (markInts _ rs (k0 + (ls.length : Int)) B' T' _ HO1'.out (by omega) (by omega)).mono ?_
  rintro e w2 ⟨rfl, ho2, hg2⟩
  have HO2 := Lib.hid (HO1.out.grown hg2 HS.out.1)
  have HO2' := Lib.hid ho2
  have HG2 := Lib.hid hg2
  clear ho2 hg2 z2
  go_wp2
  go_ret
  exact ⟨rfl, w1, HO2.out, HO2'.out, HG1.out, HG2.out⟩
end Go.Proofs.YtmgogbcipdjddaaDoor.Ints
