/- Contracts of the laws' own helpers on rewriting rules. -/
import Derived.Test.YtbigoljfanendaaDoorCel
namespace Go.Proofs.YtbigoljfanendaaDoor.Ints
open Go.RowKit
set_option linter.unusedVariables false
set_option linter.unusedSimpArgs false
theorem ret2 {w : World} {g1 g2 : Nat} {t1 t2 : TypeId} {a0 a1 b0 b1 : Value} (h1 : Cels w g1 t1 [a0, a1]) (h2 : Cels w g2 t2 [b0, b1]) (hne : g1 ≠ g2) (u : Value) :
    w.cell? ⟨g2, 1, none⟩ = some b1 ∧ w.frozen? ⟨g2, 1, none⟩ = false ∧ (w.setCell ⟨g2, 1, none⟩ u).cell? ⟨g2, 0, none⟩ = some b0 ∧ (w.setCell ⟨g2, 1, none⟩ u).cell? ⟨g2, 1, none⟩ = some u ∧
    (w.setCell ⟨g2, 1, none⟩ u).cell? ⟨g1, 0, none⟩ = some a0 ∧ (w.setCell ⟨g2, 1, none⟩ u).frozen? ⟨g1, 0, none⟩ = false ∧
    ((w.setCell ⟨g2, 1, none⟩ u).setCell ⟨g1, 0, none⟩ b0).cell? ⟨g1, 1, none⟩ = some a1 ∧ ((w.setCell ⟨g2, 1, none⟩ u).setCell ⟨g1, 0, none⟩ b0).frozen? ⟨g1, 1, none⟩ = false ∧
    Cels (((w.setCell ⟨g2, 1, none⟩ u).setCell ⟨g1, 0, none⟩ b0).setCell ⟨g1, 1, none⟩ u) g1 t1 [b0, u] := by
  have s1 := h2.set 1 u
  have r1 := h1.other (p := ⟨g2, 1, none⟩) hne u
  have r2 := r1.set 0 b0
  have r3 := r2.set 1 u
  exact ⟨h2.cell 1 rfl, h2.frozen 1, s1.cell 0 rfl, s1.cell 1 rfl, r1.cell 0 rfl, r1.frozen 0, r2.cell 1 rfl, r2.frozen 1, r3⟩
theorem eqTape (u v : Value) (ls : List Int) (u' v' : Value) (rs : List Int) (w : World) (hu : Rd w u ls) (hv : Rd w v ls) (hu' : Rd w u' rs) (hv' : Rd w v' rs) :
    Calls Tryd.prog 74 #[.agg #[u, u'], .agg #[v, v']] w fun e w' => e = .returned (.bool true) ∧ Below w.heap.size w w' := by
  have H1 := Lib.hid hu
  have H2 := Lib.hid hv
  have H3 := Lib.hid hu'
  have H4 := Lib.hid hv'
  obtain ⟨_, _, a, c, rfl, _, _⟩ := hu
  obtain ⟨_, _, a2, c2, rfl, _, _⟩ := hv
  obtain ⟨_, _, a3, c3, rfl, _, _⟩ := hu'
  obtain ⟨_, _, a4, c4, rfl, _, _⟩ := hv'
  obtain ⟨W0, hW0⟩ : ∃ W, W = (w.alloc (Obj.cells #[.slice a ls.length c, .slice a3 rs.length c3] 97)).alloc (Obj.cells #[.slice a2 ls.length c2, .slice a4 rs.length c4] 97) := ⟨_, rfl⟩
  have HB : Hid (Below w.heap.size w W0) := Lib.hid (by rw [hW0]; exact ((Below.refl w.heap.size w).alloc (Nat.le_refl _) _).alloc (by simp) _)
  have K1 : Hid (Cels W0 w.heap.size 97 [.slice a ls.length c, .slice a3 rs.length c3]) := Lib.hid (by rw [hW0]; exact (Cels.new _ _ _).alloc _)
  have K2 : Hid (Cels W0 (w.heap.size + 1) 97 [.slice a2 ls.length c2, .slice a4 rs.length c4]) := Lib.hid (by rw [hW0]; have h := Cels.new (w.alloc (Obj.cells #[.slice a ls.length c, .slice a3 rs.length c3] 97)) 97 [.slice a2 ls.length c2, .slice a4 rs.length c4]; rw [World.size_alloc] at h; exact h)
  have HW0 := Lib.hid hW0.symm
  clear hW0
  go_enter Tryd.func74, Tryd.ntmps74
  go_wp2_with fail
  rw [HW0.out]
  refine (eqInts _ _ ls _ (H1.out.below HB.out (Nat.le_refl _)) (H2.out.below HB.out (Nat.le_refl _))).mono ?_
  rintro e w1 ⟨rfl, hb1⟩
  have z1 := (K1.out.below hb1 K1.out.lt).cell 1 rfl
  have z2 := (K2.out.below hb1 K2.out.lt).cell 1 rfl
  have HB1 := Lib.hid (HB.out.trans (hb1.mono HB.out.size))
  clear hb1
  go_wp2_with fail
  refine (eqInts _ _ rs _ (H3.out.below HB1.out (Nat.le_refl _)) (H4.out.below HB1.out (Nat.le_refl _))).mono ?_
  rintro e w2 ⟨rfl, hb2⟩
  have HB2 := Lib.hid (HB1.out.trans (hb2.mono HB1.out.size))
  clear hb2
  go_wp2
  go_ret
  exact ⟨rfl, HB2.out⟩
end Go.Proofs.YtbigoljfanendaaDoor.Ints
