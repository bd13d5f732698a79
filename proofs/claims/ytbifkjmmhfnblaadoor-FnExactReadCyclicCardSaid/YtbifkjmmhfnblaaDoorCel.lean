/- Blocks of cells, rows apart, lists that came in: what is common to all structs in memory. -/
import Derived.Test.YtbifkjmmhfnblaaDoorInts
import Derived.Test.YtbifkjmmhfnblaaDoorOwn
import Derived.Deep.Strs
import Derived.Deep.Slices
namespace Go.Proofs.YtbifkjmmhfnblaaDoor.Ints
open Go.RowKit
set_option linter.unusedVariables false
def fit64 (z : Int) : Prop := -9223372036854775808 ≤ z ∧ z ≤ 9223372036854775807
theorem Ow.gb {w w' : World} {B T : Nat} {v : Value} {zs : List Int} (h : Ow w B T v zs) (hg : w.grownBy w' v.ownBlock) : Below B w w' := grown_below h hg
/-- A block of cells, whole. -/
def Cels (w : World) (g : Nat) (t : TypeId) (cs : List Value) : Prop := w.heap[g]? = some (.cells cs.toArray t (0, 0))
theorem Cels.lt {w : World} {g : Nat} {t : TypeId} {cs : List Value} (h : Cels w g t cs) : g < w.heap.size := (Array.getElem?_eq_some_iff.1 h).1
theorem Cels.cell {w : World} {g : Nat} {t : TypeId} {cs : List Value} (h : Cels w g t cs) (j : Nat) {v : Value} (hj : cs[j]? = some v) : w.cell? ⟨g, j, none⟩ = some v := by
  rw [cell_of_row w g j _ _ _ h]; simpa using hj
theorem Cels.frozen {w : World} {g : Nat} {t : TypeId} {cs : List Value} (h : Cels w g t cs) (j : Nat) : w.frozen? ⟨g, j, none⟩ = false := frozen_of_row w g j _ _ h
theorem Cels.set {w : World} {g : Nat} {t : TypeId} {cs : List Value} (h : Cels w g t cs) (j : Nat) (v : Value) : Cels (w.setCell ⟨g, j, none⟩ v) g t (cs.set j v) := by
  unfold Cels
  rw [heap_setCell_same w g j _ _ _ h]
  simp
theorem Cels.other {w : World} {g : Nat} {t : TypeId} {cs : List Value} (h : Cels w g t cs) {p : Addr} (hne : g ≠ p.block) (v : Value) : Cels (w.setCell p v) g t cs := (Below.heap_setCell w p v g hne).trans h
theorem Cels.new (w : World) (t : TypeId) (cs : List Value) : Cels (w.alloc (.cells cs.toArray t)) w.heap.size t cs := heap_alloc_new w _
theorem Cels.alloc {w : World} {g : Nat} {t : TypeId} {cs : List Value} (h : Cels w g t cs) (o : Obj) : Cels (w.alloc o) g t cs := by
  have := ((Below.refl w.heap.size w).alloc (Nat.le_refl _) o).block g h.lt
  exact this.trans h
theorem Cels.below {w w' : World} {g B : Nat} {t : TypeId} {cs : List Value} (h : Cels w g t cs) (hb : Below B w w') (hg : g < B) : Cels w' g t cs := (hb.block g hg).trans h
theorem Cels.grown {w w' : World} {g : Nat} {t : TypeId} {cs : List Value} (h : Cels w g t cs) {row : Option Nat} (hg : w.grownBy w' row) (hne : row ≠ some g) : Cels w' g t cs := (hg.block g h.lt (fun e => hne e.symm)).trans h
theorem held_below {e x : Ending} {w w' : World} (h : e = x ∧ w = w') : e = x ∧ Below w.heap.size w w' := ⟨h.1, h.2 ▸ Below.refl _ _⟩
/-- Three allocations, the last two of three cells each: a struct's result and the struct. -/
theorem cels3 (w : World) (o : Obj) (t1 t2 : TypeId) (a b : List Value) :
    Cels (((w.alloc o).alloc (.cells a.toArray t1)).alloc (.cells b.toArray t2)) (w.heap.size + 1) t1 a ∧ Cels (((w.alloc o).alloc (.cells a.toArray t1)).alloc (.cells b.toArray t2)) (w.heap.size + 1 + 1) t2 b ∧
    Below w.heap.size w (((w.alloc o).alloc (.cells a.toArray t1)).alloc (.cells b.toArray t2)) ∧ (((w.alloc o).alloc (.cells a.toArray t1)).alloc (.cells b.toArray t2)).heap.size = w.heap.size + 1 + 1 + 1 := by
  have h1 := Cels.new (w.alloc o) t1 a
  have h2 := Cels.new ((w.alloc o).alloc (.cells a.toArray t1)) t2 b
  simp only [World.size_alloc] at h1 h2
  exact ⟨h1.alloc _, h2, (((Below.refl w.heap.size w).alloc (Nat.le_refl _) _).alloc (by simp) _).alloc (by simp; omega) _, by simp⟩
theorem below_set {B : Nat} {w w' : World} (h : Below B w w') {g : Nat} (hg : B ≤ g) (j : Nat) (x : Value) : Below B w (w'.setCell ⟨g, j, none⟩ x) := h.setCell (p := ⟨g, j, none⟩) hg x
theorem Ow.apartCell {w : World} {B T : Nat} {v : Value} {rs : List Int} (h : Ow w B T v rs) {g : Nat} (hg : g < B) (j : Nat) (x : Value) : Ow (w.setCell ⟨g, j, none⟩ x) B T v rs :=
  h.grown (row := some g) ⟨rfl, rfl, rfl, by simp, fun k _ hk => heap_setCell_other w ⟨g, j, none⟩ k _ (fun e => hk (by simp [e]))⟩ (by
    rcases h.form with ⟨h', _⟩ | ⟨q, c, h', hq, _⟩
    · rw [h']; exact .inl rfl
    · rw [h']; exact .inr (by simp [Value.ownBlock]; omega))
theorem ownsRow_shape {w : World} {B e s n : Nat} {v : Value} {xs : List Value} (h : w.ownsRow B e s v n xs) : ∃ a c, v = .slice a n c := by
  rcases h.2 with ⟨rfl, rfl⟩ | ⟨g, cp, cur, rfl, _⟩
  · exact ⟨_, _, rfl⟩
  · exact ⟨_, _, rfl⟩
/-- Three stores into a struct of three cells. -/
theorem put3 {w : World} {g : Nat} {t : TypeId} {a0 a1 a2 : Value} (h : Cels w g t [a0, a1, a2]) (b0 b1 b2 : Value) :
    w.cell? ⟨g, 0, none⟩ = some a0 ∧ w.frozen? ⟨g, 0, none⟩ = false ∧ (w.setCell ⟨g, 0, none⟩ b0).cell? ⟨g, 1, none⟩ = some a1 ∧ (w.setCell ⟨g, 0, none⟩ b0).frozen? ⟨g, 1, none⟩ = false ∧
    ((w.setCell ⟨g, 0, none⟩ b0).setCell ⟨g, 1, none⟩ b1).cell? ⟨g, 2, none⟩ = some a2 ∧ ((w.setCell ⟨g, 0, none⟩ b0).setCell ⟨g, 1, none⟩ b1).frozen? ⟨g, 2, none⟩ = false ∧
    Cels (((w.setCell ⟨g, 0, none⟩ b0).setCell ⟨g, 1, none⟩ b1).setCell ⟨g, 2, none⟩ b2) g t [b0, b1, b2] := by
  have r2 := h.set 0 b0
  have r3 := r2.set 1 b1
  have r4 := r3.set 2 b2
  exact ⟨h.cell 0 rfl, h.frozen 0, r2.cell 1 rfl, r2.frozen 1, r3.cell 2 rfl, r3.frozen 2, r4⟩
theorem put1g (w : World) (g j : Nat) (x : Value) : w.grownBy (w.setCell ⟨g, j, none⟩ x) (some g) :=
  ⟨rfl, rfl, rfl, by simp, fun k _ hk => heap_setCell_other w ⟨g, j, none⟩ k _ (fun e => hk (by simp [e]))⟩
theorem put3g {w : World} {g : Nat} {t : TypeId} {cs : List Value} (h : Cels w g t cs) (b0 b1 b2 : Value) :
    w.grownBy (((w.setCell ⟨g, 0, none⟩ b0).setCell ⟨g, 1, none⟩ b1).setCell ⟨g, 2, none⟩ b2) (some g) :=
  grown_trans (grown_trans (put1g _ _ _ _) (put1g _ _ _ _)) (put1g _ _ _ _)
/-- Rows of different blocks. -/
def Sep (u v : Value) : Prop := (u.ownBlock = none ∨ u.ownBlock ≠ v.ownBlock) ∧ (v.ownBlock = none ∨ v.ownBlock ≠ u.ownBlock)
theorem Sep.symm {u v : Value} (h : Sep u v) : Sep v u := ⟨h.2, h.1⟩
theorem sep_of {u v : Value} {T B s : Nat} (hu : ∀ k, u.ownBlock = some k → k < T) (hv : ∀ k, v.ownBlock = some k → B ≤ k ∧ k < s) (ht : T ≤ B) : Sep u v := by
  cases h1 : u.ownBlock with
  | none => exact ⟨.inl h1, by rw [h1]; cases v.ownBlock <;> simp⟩
  | some k =>
    cases h2 : v.ownBlock with
    | none => exact ⟨.inr (by rw [h1, h2]; simp), .inl h2⟩
    | some j =>
      have := hu k h1
      have := (hv j h2).1
      exact ⟨.inr (by rw [h1, h2]; simp; omega), .inr (by rw [h1, h2]; simp; omega)⟩
/-- A row of numbers lies in no block of another type. -/
theorem Ow.nblk {w : World} {B T b : Nat} {v : Value} {zs : List Int} {t : TypeId} {cs : List Value} (h : Ow w B T v zs) (k : Cels w b t cs) (hne : t ≠ 2) : v.ownBlock ≠ some b := by
  intro e
  rcases h.row.2 with ⟨rfl, _⟩ | ⟨g, c, cur, rfl, _, hg, _⟩
  · cases e
  · cases e
    have k' : w.heap[g]? = some (.cells cs.toArray t (0, 0)) := k
    rw [hg] at k'
    simp only [Option.some.injEq, Obj.cells.injEq] at k'
    exact hne k'.2.1.symm
/-- An allocation in between changes nothing of what lies below. -/
theorem below_pre {w w' : World} {o : Obj} (h : Below (w.alloc o).heap.size (w.alloc o) w') : Below w.heap.size w w' :=
  ((Below.refl _ _).alloc (Nat.le_refl _) o).trans (h.mono (by simp))
/-- The block that was laid in between. -/
theorem cels_pre {w w' : World} {t : TypeId} {cs : List Value} (h : Below (w.alloc (.cells cs.toArray t)).heap.size (w.alloc (.cells cs.toArray t)) w') : Cels w' w.heap.size t cs :=
  (Cels.new w t cs).below h (by simp)

def IsList (w : World) (a : Option Addr) (len cap : Nat) (zs : List Int) : Prop :=
  (a = none ∧ len = 0 ∧ cap = 0 ∧ zs = []) ∨ ∃ x, a = some x ∧ len ≤ cap ∧ cap ≤ maxLen ∧ zs.length = cap ∧ (∀ i, i < zs.length → w.cell? (x.add i) = some (.int .i64 (zs.getD i 0))) ∧ ∀ n ∈ zs, (Lit.int .i64 n).wf = true
theorem IsList.le {w : World} {a : Option Addr} {len cap : Nat} {zs : List Int} (h : IsList w a len cap zs) : (len : Int) ≤ 9223372036854775807 := by
  rcases h with ⟨_, h, _, _⟩ | ⟨_, _, h1, h2, _⟩
  · omega
  · unfold maxLen at h2; omega
section
open Go.ChangeShapes Go.WideShapes Go.Deep
set_option maxRecDepth 100000 in
/-- A list that came in, opened. -/
theorem open_list {H : Type} {enc : TypeId × Value → H} {w : World} {base : Nat} {held : Bool} {fuel : Nat} {cs : List Value} {x : DataW H × List MemPlace}
    (h : DataW.trod enc Tryd.prog w base (fun _ => true) held fuel 22 cs = some x) : ∃ a len cap zs, cs = [.slice a len cap] ∧ IsList w a len cap zs := by
  rcases open_ints Tryd.underlying22 Tryd.underlying2 (by kernel_rfl) h with ⟨rfl, _⟩ | ⟨x, l, c, zs, rfl, _, hl, hm, hz, _, hcell, hwz⟩
  · exact ⟨none, 0, 0, [], rfl, .inl ⟨rfl, rfl, rfl, rfl⟩⟩
  · exact ⟨_, _, _, zs, rfl, .inr ⟨_, rfl, hl, hm, by simpa using hz, hcell, hwz⟩⟩
end
end Go.Proofs.YtbifkjmmhfnblaaDoor.Ints
