/- Lists of lists in memory. -/
import Derived.Test.YtbifkjmmhfnblaaDoorOwn
namespace Go.Proofs.YtbifkjmmhfnblaaDoor.Ints
open Go.RowKit
set_option linter.unusedVariables false

/-- The value v is a slice of slices that reads zss. -/
structure RdL (w : World) (v : Value) (zss : List (List Int)) : Prop where
  len : zss.length ≤ 1048576
  val : ∃ a c, v = .slice a zss.length c ∧ zss.length ≤ c ∧ (zss ≠ [] → ∃ b o, a = some ⟨b, o, none⟩ ∧ b < w.heap.size ∧ ∀ i, i < zss.length → ∃ x, w.cell? ⟨b, o + i, none⟩ = some x ∧ Rd w x (zss.getD i []))
theorem RdL.below {w w' : World} {v : Value} {zss : List (List Int)} (h : RdL w v zss) {B : Nat} (hb : Below B w w') (hB : w.heap.size ≤ B) : RdL w' v zss := by
  obtain ⟨l, a, c, rfl, hc, hr⟩ := h
  refine ⟨l, a, c, rfl, hc, fun hne => ?_⟩
  obtain ⟨b, o, rfl, hlt, hcell⟩ := hr hne
  refine ⟨b, o, rfl, Nat.lt_of_lt_of_le hlt hb.size, fun i hi => ?_⟩
  obtain ⟨x, h1, h2⟩ := hcell i hi
  exact ⟨x, (hb.cell (by show b < B; omega)).trans h1, h2.below hb hB⟩
theorem rdl_two {w : World} {u v : Value} {xs ys : List Int} (hu : Rd w u xs) (hv : Rd w v ys) :
    RdL (w.alloc (.cells #[u, v] 22)) (.slice (some ⟨w.heap.size, 0, none⟩) 2 2) [xs, ys] := by
  have hb : Below w.heap.size w (w.alloc (.cells #[u, v] 22)) := (Below.refl _ _).alloc (Nat.le_refl _) _
  refine ⟨by simp, _, _, rfl, by simp, fun _ => ⟨w.heap.size, 0, rfl, by simp, fun i hi => ?_⟩⟩
  match i, hi with
  | 0, _ => exact ⟨u, by simp [World.cell?_alloc_at], hu.below hb (Nat.le_refl _)⟩
  | 1, _ => exact ⟨v, by simp [World.cell?_alloc_at], hv.below hb (Nat.le_refl _)⟩
theorem rdl_three {w : World} {u v t : Value} {xs ys zs : List Int} (hu : Rd w u xs) (hv : Rd w v ys) (ht : Rd w t zs) :
    RdL (w.alloc (.cells #[u, v, t] 22)) (.slice (some ⟨w.heap.size, 0, none⟩) 3 3) [xs, ys, zs] := by
  have hb : Below w.heap.size w (w.alloc (.cells #[u, v, t] 22)) := (Below.refl _ _).alloc (Nat.le_refl _) _
  refine ⟨by simp, _, _, rfl, by simp, fun _ => ⟨w.heap.size, 0, rfl, by simp, fun i hi => ?_⟩⟩
  match i, hi with
  | 0, _ => exact ⟨u, by simp [World.cell?_alloc_at], hu.below hb (Nat.le_refl _)⟩
  | 1, _ => exact ⟨v, by simp [World.cell?_alloc_at], hv.below hb (Nat.le_refl _)⟩
  | 2, _ => exact ⟨t, by simp [World.cell?_alloc_at], ht.below hb (Nat.le_refl _)⟩
end Go.Proofs.YtbifkjmmhfnblaaDoor.Ints
