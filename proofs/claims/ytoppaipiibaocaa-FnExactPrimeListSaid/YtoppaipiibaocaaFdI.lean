/- The contract of the program's FromDigits. -/
import Derived.Test.YtoppaipiibaocaaFdN
namespace Go.Proofs.Ytoppaipiibaocaa.Ints
open Go.RowKit Go.Shelf
set_option linter.unusedVariables false
attribute [local go_sem] Oper.semAt_some
attribute [local go_sem, local simp] wide_fn

/-- A row of its own abides the turn of blocks that are no cells. -/
theorem Ow.abide {w w' : World} {B T : Nat} {v : Value} {zs : List Int} (h : Ow w B T v zs) {row : Option Nat} (hg : w.grownBy w' row) (hr : ∀ r, row = some r → ∃ o : Obj, w.heap[r]? = some o ∧ o.isCells = false) : Ow w' B T v zs := by
  refine h.grown hg ?_
  rcases h.row.2 with ⟨rfl, _⟩ | ⟨g, cap, cur, rfl, _, hgg, _⟩
  · exact .inl rfl
  · refine .inr fun e => ?_
    obtain ⟨o, ho, hc⟩ := hr g (by rw [← e]; rfl)
    rw [hgg] at ho; cases ho; cases hc
theorem Below.boxed {B : Nat} {w w' : World} (h : Below B w w') {k : Nat} {t : TypeId} {v : Value} (hb : Boxed w k t v) (hk : k < B) : Boxed w' k t v := (h.block k hk).trans hb
theorem Below.keeps {w w' : World} (h : Below w.heap.size w w') : KeepsOthers w w' := ⟨h.size, fun k o hk _ => (h.block k (Array.getElem?_eq_some_iff.1 hk).1).trans hk⟩
theorem Below.kb {w w' : World} {n₀ Bs : Nat} (h : Below w.heap.size w w') (hn : n₀ ≤ w.heap.size) (hB : Bs < w.heap.size) : KB n₀ Bs w w' := ⟨h.mono hn, h.block Bs hB⟩

/-- The number so far; none if it was too long on the way. -/
noncomputable def fdT (b : Int) (s : Option Int) (x : Int) : Option Int := match s with
  | none => none
  | some V => if (canOf (V * b + x)).length ≤ 40 then some (V * b + x) else none
noncomputable def fdF (zs : List Int) (b : Int) (pre : List (At zs)) : Option Int := pre.foldl (fun s x => fdT b s x.1.2) (some 0)
theorem fdF_snoc (zs : List Int) (b : Int) (pre : List (At zs)) (x : At zs) : fdF zs b (pre ++ [x]) = fdT b (fdF zs b pre) x.1.2 := by simp [fdF]
theorem fdF_dnR (zs : List Int) (b : Int) : ∀ k, k ≤ zs.length → fdF zs b (dnR zs k) = fdS zs b k := by
  intro k
  induction k with
  | zero => intro _; rfl
  | succ k ih =>
    intro hk
    have hlt : zs.length - 1 - k < zs.length := by omega
    rw [dnR, dif_pos hlt, fdF_snoc, ih (by omega), fdS]
    have e : zs[zs.length - 1 - k]?.getD 0 = zs.getD (zs.length - 1 - k) 0 := (List.getD_eq_getElem?_getD ..).symm
    cases fdS zs b k with
    | none => rfl
    | some V => simp only [fdT, e]
theorem fdF_all (zs : List Int) (b : Int) : fdF zs b (dnA zs 0) = fdR zs b := by rw [dnA, Nat.sub_zero, fdF_dnR zs b _ (Nat.le_refl _), fdR]
theorem fdF_stop {zs : List Int} {b : Int} {m : Nat} (hm : m ≤ zs.length) (h : fdF zs b (dnA zs m) = none) : fdR zs b = none := by
  rw [dnA, fdF_dnR zs b _ (by omega)] at h
  have := fdS_none h m
  rwa [show zs.length - m + m = zs.length by omega] at this

theorem digB_dig {b : Int} {zs : List Int} (h : digB b zs = true) : Dig b zs := by simpa [digB] using h
theorem fd3 (w : World) (b k : Int) :
    (((w.alloc (Obj.cells #[Value.int IntKind.i64 b] 2)).alloc (Obj.cells #[Value.slice none 0 0] 25)).alloc (Obj.cells #[Value.int IntKind.i64 k] 2)).cell? ⟨w.heap.size + 1, 0, none⟩ = some (.slice none 0 0) ∧
    (((w.alloc (Obj.cells #[Value.int IntKind.i64 b] 2)).alloc (Obj.cells #[Value.slice none 0 0] 25)).alloc (Obj.cells #[Value.int IntKind.i64 k] 2)).cell? ⟨w.heap.size + 1 + 1, 0, none⟩ = some (.int .i64 k) ∧
    Below w.heap.size w (((w.alloc (Obj.cells #[Value.int IntKind.i64 b] 2)).alloc (Obj.cells #[Value.slice none 0 0] 25)).alloc (Obj.cells #[Value.int IntKind.i64 k] 2)) := by
  refine ⟨?_, ?_, (((Below.refl w.heap.size w).alloc (Nat.le_refl _) _).alloc (by simp) _).alloc (by simp; omega) _⟩
  · have := Boxed.new (w.alloc (Obj.cells #[Value.int IntKind.i64 b] 2)) 25 (.slice none 0 0)
    rw [World.size_alloc] at this
    exact (this.alloc _).cell
  · have := Boxed.new ((w.alloc (Obj.cells #[Value.int IntKind.i64 b] 2)).alloc (Obj.cells #[Value.slice none 0 0] 25)) 2 (.int .i64 k)
    rw [World.size_alloc, World.size_alloc] at this
    exact this.cell
/-- Two stores into two boxes. -/
theorem fd2 {w W : World} {B : Nat} (hB : Below B w W) {g h : Nat} {t s : TypeId} {u v : Value} (hg : Boxed W g t u) (hh : Boxed W h s v) (hne : g ≠ h) (h1 : B ≤ g) (h2 : B ≤ h) (x y : Value) :
    ((W.setCell ⟨g, 0, none⟩ x).setCell ⟨h, 0, none⟩ y).cell? ⟨g, 0, none⟩ = some x ∧ ((W.setCell ⟨g, 0, none⟩ x).setCell ⟨h, 0, none⟩ y).cell? ⟨h, 0, none⟩ = some y ∧ Below B w ((W.setCell ⟨g, 0, none⟩ x).setCell ⟨h, 0, none⟩ y) :=
  ⟨((hg.set x).other hne y).cell, ((hh.other (Ne.symm hne) x).set y).cell, (hB.setCell (p := ⟨g, 0, none⟩) h1 _).setCell (p := ⟨h, 0, none⟩) h2 _⟩
end Go.Proofs.Ytoppaipiibaocaa.Ints
