/- The contract of the program's one loop over limbs with a carry. -/
import Derived.Test.YtoppaipiibaocaaVal
import Derived.Test.YtoppaipiibaocaaLimbs
namespace Go.Proofs.Ytoppaipiibaocaa.Ints
open Go.RowKit
set_option linter.unusedVariables false

/-- Block g begins with the numbers Z. -/
def Blk (w : World) (g K : Nat) (Z : List Int) : Prop := ∃ tl : List Value, Z.length + tl.length = K ∧ w.heap[g]? = some (.cells ((Z.map (Value.int .i64)) ++ tl).toArray 2 (0, 0))
theorem Blk.cell {w : World} {g K : Nat} {Z : List Int} (h : Blk w g K Z) (j : Nat) (hj : j < Z.length) : w.cell? ⟨g, j, none⟩ = some (.int .i64 (Z.getD j 0)) := by
  obtain ⟨tl, hK, hg⟩ := h
  rw [cell_of_row w g j _ _ _ hg]
  simp [List.getElem?_append_left, hj, List.getD_eq_getElem?_getD]
theorem Blk.frozen {w : World} {g K : Nat} {Z : List Int} (h : Blk w g K Z) (j : Nat) : w.frozen? ⟨g, j, none⟩ = false := by
  obtain ⟨tl, hK, hg⟩ := h
  exact frozen_of_row w g j _ _ hg
theorem Blk.lt {w : World} {g K : Nat} {Z : List Int} (h : Blk w g K Z) : g < w.heap.size := by
  obtain ⟨tl, hK, hg⟩ := h
  exact (Array.getElem?_eq_some_iff.1 hg).1
theorem Blk.set {w : World} {g K : Nat} {Z : List Int} (h : Blk w g K Z) (j : Nat) (hj : j < Z.length) (x : Int) :
    Blk (w.setCell ⟨g, j, none⟩ (.int .i64 x)) g K (Z.set j x) ∧ w.grownBy (w.setCell ⟨g, j, none⟩ (.int .i64 x)) (some g) := by
  obtain ⟨tl, hK, hg⟩ := h
  refine ⟨⟨tl, by rw [List.length_set]; exact hK, ?_⟩, rfl, rfl, rfl, by simp, fun k _ hk => heap_setCell_other w ⟨g, j, none⟩ k _ (fun e => hk (by simp [e]))⟩
  rw [heap_setCell_same w g j _ _ _ hg]
  congr 2
  apply Array.ext'
  simp [List.set_append_left, hj, List.map_set]
theorem Blk.grown {w w' : World} {g K : Nat} {Z : List Int} (h : Blk w g K Z) {row : Option Nat} (hg : w.grownBy w' row) (hne : row ≠ some g) : Blk w' g K Z := by
  obtain ⟨tl, hK, hb⟩ := h
  exact ⟨tl, hK, by rw [hg.block g (Array.getElem?_eq_some_iff.1 hb).1 (fun e => hne e.symm)]; exact hb⟩

/-- The value of n limbs from o on. -/
def sg (Z : List Int) (o : Nat) : Nat → Int
  | 0 => 0
  | k + 1 => sg Z o k + Pw k * Z.getD (o + k) 0
theorem sg_same {Y Z : List Int} {o k : Nat} (h : ∀ j, j < k → Y.getD (o + j) 0 = Z.getD (o + j) 0) : sg Y o k = sg Z o k := by
  induction k with
  | zero => rfl
  | succ k ih => rw [sg, sg, ih (fun j hj => h j (by omega)), h k (by omega)]
theorem sg_val (zs : List Int) (k : Nat) : sg zs 0 k = val (zs.take k) := by
  induction k with
  | zero => rfl
  | succ k ih => rw [sg, ih, val_take_succ, Nat.zero_add]
theorem sg_all (zs : List Int) (k : Nat) (h : zs.length ≤ k) : sg zs 0 k = val zs := by rw [sg_val, List.take_of_length_le h]
theorem getD_set (Z : List Int) (i j : Nat) (x : Int) (h : i < Z.length) : (Z.set i x).getD j 0 = if i = j then x else Z.getD j 0 := by
  rw [List.getD_eq_getElem?_getD, List.getElem?_set, List.getD_eq_getElem?_getD]
  by_cases e : i = j
  · subst e; simp [h]
  · simp [e]

/-- What holds behind k limbs. -/
structure TI (Z T : List Int) (t : Int) (o n k : Nat) (c : Int) (Y : List Int) : Prop where
  len : Y.length = Z.length
  out : ∀ j, j < o ∨ o + k ≤ j → Y.getD j 0 = Z.getD j 0
  dig : ∀ j, j < k → 0 ≤ Y.getD (o + j) 0 ∧ Y.getD (o + j) 0 < 1000000
  c0 : -1000000 ≤ c
  c1 : c ≤ 1000000
  sum : sg Y o k + Pw k * c = sg Z o k + t * sg T 0 k
theorem TI.start (Z T : List Int) (t : Int) (o n : Nat) : TI Z T t o n 0 0 Z :=
  ⟨rfl, fun j _ => rfl, fun j hj => by omega, by omega, by omega, by simp [sg]⟩
theorem mul_bd (t y : Int) (t0 : -1000000 ≤ t) (t1 : t ≤ 1000000) (y0 : 0 ≤ y) (y1 : y ≤ 999999) : -999999000000 ≤ t * y ∧ t * y ≤ 999999000000 := by
  have a : t * y ≤ 1000000 * y := Int.mul_le_mul_of_nonneg_right t1 y0
  have b : -1000000 * y ≤ t * y := Int.mul_le_mul_of_nonneg_right t0 y0
  omega
theorem TI.step {Z T : List Int} {t : Int} {o n k : Nat} {c : Int} {Y : List Int} (h : TI Z T t o n k c Y) (hk : k < n) (hn : o + n ≤ Z.length)
    (hZ : ∀ j, j < n → 0 ≤ Z.getD (o + j) 0 ∧ Z.getD (o + j) 0 < 1000000) (hT : Dig 1000000 T) (t0 : -1000000 ≤ t) (t1 : t ≤ 1000000)
    (s : Int) (hs : s = Z.getD (o + k) 0 + c + t * T.getD k 0) : TI Z T t o n (k + 1) (s / 1000000) (Y.set (o + k) (s % 1000000)) := by
  have hz := hZ k hk
  have hy : 0 ≤ T.getD k 0 ∧ T.getD k 0 ≤ 999999 := by
    by_cases hkt : k < T.length
    · have := hT k hkt; omega
    · rw [List.getD_eq_getElem?_getD, List.getElem?_eq_none (by omega)]; simp
  have hp := mul_bd t (T.getD k 0) t0 t1 hy.1 hy.2
  have c0 := h.c0
  have c1 := h.c1
  have hlt : o + k < Y.length := by rw [h.len]; omega
  refine ⟨by rw [List.length_set, h.len], fun j hj => ?_, fun j hj => ?_, by omega, by omega, ?_⟩
  · rw [getD_set _ _ _ _ hlt, if_neg (by omega)]
    exact h.out j (by omega)
  · rw [getD_set _ _ _ _ hlt]
    by_cases e : o + k = o + j
    · rw [if_pos e]; omega
    · rw [if_neg e]; exact h.dig j (by omega)
  · rw [sg, sg_same (Y := Y.set (o + k) (s % 1000000)) (Z := Y) (fun j hj => by rw [getD_set _ _ _ _ hlt, if_neg (by omega)]), getD_set _ _ _ _ hlt, if_pos rfl, Pw,
      carry_step (sg Y o k) (sg Y o k) (Pw k) s rfl, hs, sg, sg, Nat.zero_add, Int.mul_add, Int.mul_add, Int.mul_add, Int.mul_left_comm t (Pw k)]
    have := h.sum
    omega
theorem TI.zero {Z T : List Int} {t : Int} {o n k : Nat} {Y : List Int} (h : TI Z T t o n k 0 Y) (hk : k ≤ n) (hT : T.length ≤ k)
    (hZ : ∀ j, j < n → 0 ≤ Z.getD (o + j) 0 ∧ Z.getD (o + j) 0 < 1000000) : TI Z T t o n n 0 Y := by
  have hsum : ∀ m, k + m ≤ n → sg Y o (k + m) + Pw (k + m) * 0 = sg Z o (k + m) + t * sg T 0 (k + m) := by
    intro m hm
    induction m with
    | zero => exact h.sum
    | succ m ih =>
      have i := ih (by omega)
      rw [show k + (m + 1) = k + m + 1 by omega, sg, sg, sg, h.out (o + (k + m)) (by omega), Nat.zero_add, List.getD_eq_getElem?_getD (l := T), List.getElem?_eq_none (by omega)]
      simp only [Option.getD_none, Int.mul_zero, Int.add_zero] at i ⊢
      omega
  refine ⟨h.len, fun j hj => h.out j (by omega), fun j hj => ?_, by omega, by omega, ?_⟩
  · by_cases hjk : j < k
    · exact h.dig j hjk
    · rw [h.out (o + j) (by omega)]; exact hZ j hj
  · have := hsum (n - k) (by omega)
    rwa [show k + (n - k) = n by omega] at this
theorem tneg (s : Int) (h : s < 0) (hb : -2000000000000 ≤ s) : -1000000 < s.tmod 1000000 ∧ s.tmod 1000000 ≤ 0 ∧ -3000000 ≤ s.tdiv 1000000 ∧ s.tdiv 1000000 ≤ 0 ∧
    (s.tmod 1000000 < 0 → s % 1000000 = s.tmod 1000000 + 1000000 ∧ s / 1000000 = s.tdiv 1000000 - 1) ∧ (¬ s.tmod 1000000 < 0 → s % 1000000 = s.tmod 1000000 ∧ s / 1000000 = s.tdiv 1000000) := by
  obtain ⟨m, rfl⟩ : ∃ m : Int, s = -m := ⟨-s, by omega⟩
  rw [Int.neg_tmod, Int.neg_tdiv, Int.tmod_eq_emod_of_nonneg (by omega), Int.tdiv_eq_ediv_of_nonneg (by omega)]
  omega

def TPost (Z T : List Int) (t : Int) (o n g K : Nat) (w : World) (e : Ending) (w' : World) : Prop :=
  ∃ (c : Int) (Y : List Int), e = .returned (.int .i64 c) ∧ TI Z T t o n n c Y ∧ Blk w' g K Y ∧ w.grownBy w' (some g)
end Go.Proofs.Ytoppaipiibaocaa.Ints
