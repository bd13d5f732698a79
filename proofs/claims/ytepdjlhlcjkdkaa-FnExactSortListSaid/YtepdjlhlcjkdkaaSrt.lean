/- A row of the call's own whose cells are given anew (the shelf's putRow); sorted lists. -/
import Derived.Test.YtepdjlhlcjkdkaaOwn
import Derived.Test.YtepdjlhlcjkdkaaCel
import Derived.Sort.Row
import Derived.Sort.Grow
namespace Go.Proofs.Ytepdjlhlcjkdkaa.Ints
open Go.RowKit
set_option linter.unusedVariables false
set_option linter.unusedSimpArgs false
def srt (zs : List Int) : List Int := zs.mergeSort fun x y => decide (x ≤ y)
theorem srt_perm (zs : List Int) : (srt zs).Perm zs := List.mergeSort_perm _ _
@[simp] theorem srt_length (zs : List Int) : (srt zs).length = zs.length := (srt_perm zs).length_eq
theorem srt_fit {zs : List Int} (h : Fit zs) : Fit (srt zs) := fun z hz => h z ((srt_perm zs).mem_iff.1 hz)
theorem srt_sorted (zs : List Int) : (srt zs).Pairwise (· ≤ ·) := by
  have h := List.pairwise_mergeSort (le := fun x y : Int => decide (x ≤ y)) (fun a b c h1 h2 => by simp at h1 h2 ⊢; omega) (fun a b => by simp; omega) zs
  exact h.imp (fun h => by simpa using h)
theorem Ow.holds {w : World} {B T g c : Nat} {zs : List Int} (h : Ow w B T (.slice (some ⟨g, 0, none⟩) zs.length c) zs) : Sort.Holds (Value.int .i64) w g 0 zs.toArray := by
  intro j hj
  have hj' : j < zs.length := by simpa using hj
  refine ⟨?_, h.row.frozenAt _⟩
  rw [Nat.zero_add, h.row.cellAt j (by omega)]
  simp [hj', getElem!_pos]
theorem own_put {w : World} {B T g c : Nat} {zs : List Int} (h : Ow w B T (.slice (some ⟨g, 0, none⟩) zs.length c) zs) (ds : List Int) (hd : ds.length = zs.length) (m : Nat) (hm : m ≤ zs.length) (hf : Fit (ds.take m)) (n : Nat) (os : Array Obj) :
    Ow (Sort.grow (Sort.putRow (Value.int .i64) (Sort.ahead w n) g 0 ds.toArray) os) B T (.slice (some ⟨g, 0, none⟩) m c) (ds.take m) ∧ w.grownBy (Sort.grow (Sort.putRow (Value.int .i64) (Sort.ahead w n) g 0 ds.toArray) os) (some g) := by
  have hT := h.size
  have hrow := h.row
  have hgT := h.top g rfl
  have hblk : ∀ k, k < w.heap.size → (Sort.grow (Sort.putRow (Value.int .i64) (Sort.ahead w n) g 0 ds.toArray) os).heap[k]? = if g = k then (w.heap[k]?).map (Sort.onCells (Sort.putCells (Value.int .i64) 0 ds.toArray)) else w.heap[k]? := by
    intro k hk
    simp only [Sort.grow, Sort.putRow, Sort.mapBlock, Sort.ahead]
    rw [Array.getElem?_append_left (by simpa using hk), Array.getElem?_modify]
  have hgr : w.grownBy (Sort.grow (Sort.putRow (Value.int .i64) (Sort.ahead w n) g 0 ds.toArray) os) (some g) :=
    ⟨rfl, rfl, rfl, by simp, fun k hk hne => by rw [hblk k hk, if_neg (fun e => hne (by rw [e]))]⟩
  refine ⟨⟨by have := h.len; simp; omega, hf, ?_, fun k hk => by cases hk; exact hgT, Nat.le_trans hT hgr.size, h.base⟩, hgr⟩
  rcases hrow.2 with ⟨e, _⟩ | ⟨g', cap, cur, e, hb, hg, hn, hmx, hs, ht⟩
  · cases e
  cases e
  refine ⟨by simp, .inr ⟨g, c, Sort.putCells (Value.int .i64) 0 ds.toArray cur, by simp; omega, hb, ?_, by simp; omega, hmx, by simp [Sort.putCells, hs], ?_⟩⟩
  · rw [hblk g (by omega), if_pos rfl, hg]; rfl
  · apply List.ext_getElem?
    intro j
    simp only [List.getElem?_take, List.length_take, Nat.mul_one, List.getElem?_map, Array.getElem?_toList, Sort.putCells, Array.getElem?_mapIdx]
    by_cases hj : j < m
    · have hjd : j < ds.length := by omega
      have hjc : j < cur.size := by omega
      have h2 : j < min m ds.length := by omega
      simp [hj, h2, hjd, hjc, Array.getElem?_eq_getElem hjc, getElem!_pos]
    · have h2 : ¬ j < min m ds.length := by omega
      simp [hj, h2]
theorem own_srt {w : World} {B T g c : Nat} {zs : List Int} (h : Ow w B T (.slice (some ⟨g, 0, none⟩) zs.length c) zs) (n : Nat) (os : Array Obj) :
    Ow (Sort.grow (Sort.putRow (Value.int .i64) (Sort.ahead w n) g 0 (srt zs).toArray) os) B T (.slice (some ⟨g, 0, none⟩) zs.length c) (srt zs) ∧ w.grownBy (Sort.grow (Sort.putRow (Value.int .i64) (Sort.ahead w n) g 0 (srt zs).toArray) os) (some g) := by
  have e : (srt zs).take zs.length = srt zs := by rw [← srt_length zs, List.take_length]
  have := own_put h (srt zs) (by simp) zs.length (Nat.le_refl _) (by rw [e]; exact srt_fit h.fit) n os
  rwa [e] at this
end Go.Proofs.Ytepdjlhlcjkdkaa.Ints
