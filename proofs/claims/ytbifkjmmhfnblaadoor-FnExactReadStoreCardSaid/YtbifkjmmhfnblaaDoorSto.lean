/- The laws' helpers on the struct Store. (gen_struct.py) -/
import Derived.Test.YtbifkjmmhfnblaaDoorCel
import Derived.Deep.RegionHeld3
namespace Go.Proofs.YtbifkjmmhfnblaaDoor.Ints
open Go.RowKit
set_option linter.unusedVariables false
set_option linter.unusedSimpArgs false
theorem cels3Sto (w : World) (o : Obj) (t1 t2 : TypeId) (a b : List Value) :
    Cels (((w.alloc o).alloc (.cells a.toArray t1)).alloc (.cells b.toArray t2)) (w.heap.size + 1) t1 a ∧ Cels (((w.alloc o).alloc (.cells a.toArray t1)).alloc (.cells b.toArray t2)) (w.heap.size + 1 + 1) t2 b ∧
    Below w.heap.size w (((w.alloc o).alloc (.cells a.toArray t1)).alloc (.cells b.toArray t2)) ∧ (((w.alloc o).alloc (.cells a.toArray t1)).alloc (.cells b.toArray t2)).heap.size = w.heap.size + 1 + 1 + 1 := cels3 w o t1 t2 a b
/-- What the end of a call asks and leaves that stores the list into a struct, loads the struct and hands it back in a cell. -/
theorem retSto {w : World} {g1 g2 : Nat} {t1 t2 : TypeId} {a0 a1 b0 b1 : Value} (h1 : Cels w g1 t1 [a0, a1]) (h2 : Cels w g2 t2 [b0, b1]) (hne : g1 ≠ g2) (u : Value) :
    w.cell? ⟨g2, 1, none⟩ = some b1 ∧
    w.frozen? ⟨g2, 1, none⟩ = false ∧
    (w.setCell ⟨g2, 1, none⟩ u).cell? ⟨g2, 0, none⟩ = some b0 ∧
    (w.setCell ⟨g2, 1, none⟩ u).cell? ⟨g2, 1, none⟩ = some u ∧
    (w.setCell ⟨g2, 1, none⟩ u).cell? ⟨g1, 0, none⟩ = some a0 ∧
    (w.setCell ⟨g2, 1, none⟩ u).frozen? ⟨g1, 0, none⟩ = false ∧
    ((w.setCell ⟨g2, 1, none⟩ u).setCell ⟨g1, 0, none⟩ b0).cell? ⟨g1, 1, none⟩ = some a1 ∧
    ((w.setCell ⟨g2, 1, none⟩ u).setCell ⟨g1, 0, none⟩ b0).frozen? ⟨g1, 1, none⟩ = false ∧
    Cels (((w.setCell ⟨g2, 1, none⟩ u).setCell ⟨g1, 0, none⟩ b0).setCell ⟨g1, 1, none⟩ u) g1 t1 [b0, u] := by
  have s1 := h2.set 1 u
  have r0 := h1.other (p := ⟨g2, 1, none⟩) hne u
  have r1 := r0.set 0 b0
  have r2 := r1.set 1 u
  exact ⟨h2.cell 1 rfl, h2.frozen 1, s1.cell 0 rfl, s1.cell 1 rfl, r0.cell 0 rfl, r0.frozen 0, r1.cell 1 rfl, r1.frozen 1, r2⟩
theorem eqSto (i0 : Int) (u v : Value) (rs : List Int) (w : World) (hu : Rd w u rs) (hv : Rd w v rs) :
    Calls Tryd.prog 21 #[.agg #[.int .i64 i0, u], .agg #[.int .i64 i0, v]] w fun e w' => e = .returned (.bool true) ∧ Below w.heap.size w w' := by
  have HU := Lib.hid hu
  have HV := Lib.hid hv
  obtain ⟨_, _, a, c, rfl, _, _⟩ := hu
  obtain ⟨_, _, a', c', rfl, _, _⟩ := hv
  have HB : ∀ x y : Obj, Hid (Below w.heap.size w ((w.alloc x).alloc y)) := fun x y => Lib.hid (((Below.refl w.heap.size w).alloc (Nat.le_refl _) _).alloc (by simp) _)
  go_enter Tryd.func21, Tryd.ntmps21
  go_wp2_with fail
  refine (eqInts _ _ rs _ (HU.out.below (HB _ _).out (Nat.le_refl _)) (HV.out.below (HB _ _).out (Nat.le_refl _))).mono ?_
  rintro e w1 ⟨rfl, hb1⟩
  have HB1 := Lib.hid ((HB _ _).out.trans (hb1.mono (by simp; omega)))
  clear hb1
  go_wp2
  go_ret
  exact ⟨rfl, HB1.out⟩
theorem markSto (i0 : Int) (v : Value) (rs : List Int) (k0 : Int) (B T : Nat) (w : World) (h : Ow w B T v rs) (h0 : 0 ≤ k0) (h1 : k0 ≤ 100000000000) :
    Calls Tryd.prog 24 #[.agg #[.int .i64 i0, v], .int .i64 k0] w fun e w' => e = .returned (.int .i64 (k0 + (rs.length : Int))) ∧ Ow w' B T v (marks k0 rs.length) ∧ w.grownBy w' v.ownBlock := by
  obtain ⟨a, c, hv⟩ := h.shape
  subst hv
  have hB : Below w.heap.size w (w.alloc (Obj.cells #[.int .i64 i0, .slice a rs.length c] 36)) := (Below.refl _ _).alloc (Nat.le_refl _) _
  have HO := Lib.hid (h.below hB h.size)
  have HG := Lib.hid (World.grownBy_alloc w (Obj.cells #[.int .i64 i0, .slice a rs.length c] 36) (Value.slice a rs.length c).ownBlock)
  clear h hB
  go_enter Tryd.func24, Tryd.ntmps24
  go_wp2_with fail
  refine (markInts _ rs k0 B T _ HO.out h0 (by omega)).mono ?_
  rintro e w1 ⟨rfl, ho, hg⟩
  have HO1 := Lib.hid ho
  have HG1 := Lib.hid (grown_trans HG.out hg)
  clear ho hg
  go_wp2
  go_ret
  exact ⟨rfl, HO1.out, HG1.out⟩
theorem heldSto (i0 : Int) (v : Value) (n : Nat) (k0 : Int) (w : World) (h : Rd w v (marks k0 n)) (h0 : 0 ≤ k0) (h1 : k0 ≤ 100000000000) (h2 : n ≤ 16777216) :
    Calls Tryd.prog 25 #[.agg #[.int .i64 i0, v], .int .i64 k0] w fun e w' => e = .returned (.int .i64 (k0 + (n : Int))) ∧ Below w.heap.size w w' := by
  have H := Lib.hid h
  obtain ⟨_, _, a, c, rfl, _, _⟩ := h
  have HB : ∀ x : Obj, Hid (Below w.heap.size w (w.alloc x)) := fun x => Lib.hid ((Below.refl _ _).alloc (Nat.le_refl _) _)
  have hn : ¬ k0 + (n : Int) < 0 := by omega
  simp only [length_marks]
  have H' : Hid (∀ W, Below w.heap.size w W → Rd W (.slice a n c) (marks k0 n)) := Lib.hid (fun W hW => by have := H.out.below hW (Nat.le_refl _); rwa [length_marks] at this)
  clear H
  go_enter Tryd.func25, Tryd.ntmps25
  go_wp2_with fail
  refine (heldInts _ n k0 _ (H'.out _ (HB _).out) h0 (by omega)).mono ?_
  rintro e w1 ⟨rfl, rfl⟩
  go_wp2
  go_ret
  exact ⟨rfl, (Below.refl _ _).alloc (Nat.le_refl _) _⟩
end Go.Proofs.YtbifkjmmhfnblaaDoor.Ints
