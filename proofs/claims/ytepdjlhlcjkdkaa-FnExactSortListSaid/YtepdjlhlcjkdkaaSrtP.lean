/- Sorted lists without repetitions (plain lemmas). -/
import Derived.Test.YtepdjlhlcjkdkaaSrt
import Derived.Lib.SlicesCompact
namespace Go.Proofs.Ytepdjlhlcjkdkaa.Ints
open Go.RowKit
set_option linter.unusedVariables false
set_option linter.unusedSimpArgs false
theorem cu_mem (d : Array Int) (m : Nat) (z : Int) : z ∈ Lib.compactUpTo d m ↔ ∃ j, j < m ∧ Lib.keeps d j = true ∧ d[j]! = z := by
  simp only [Lib.compactUpTo, List.mem_map, List.mem_filter, List.mem_range]
  exact ⟨fun ⟨j, ⟨h1, h2⟩, h3⟩ => ⟨j, h1, h2, h3⟩, fun ⟨j, h1, h2, h3⟩ => ⟨j, ⟨h1, h2⟩, h3⟩⟩
theorem cu_le (d : Array Int) (m : Nat) : (Lib.compactUpTo d m).length ≤ m := by
  simp only [Lib.compactUpTo, List.length_map]
  exact Nat.le_trans (List.length_filter_le _ _) (by simp)
theorem cu_all (d : Array Int) (m : Nat) : ∀ j, j < m → d[j]! ∈ Lib.compactUpTo d m := by
  intro j
  induction j with
  | zero => intro h; exact (cu_mem d m _).2 ⟨0, h, by simp [Lib.keeps], rfl⟩
  | succ j ih =>
    intro h
    by_cases hk : Lib.keeps d (j + 1) = true
    · exact (cu_mem d m _).2 ⟨j + 1, h, hk, rfl⟩
    · have : d[j + 1]! = d[j]! := by
        simp only [Lib.keeps, decide_eq_true_eq] at hk
        have h2 : ¬ d[j + 1]! ≠ d[j + 1 - 1]! := fun h => hk (.inr h)
        simpa using h2
      rw [this]; exact ih (by omega)
theorem cu_sorted (d : Array Int) (n : Nat) (hs : ∀ i j, i ≤ j → j < n → d[i]! ≤ d[j]!) : ∀ m, m ≤ n → (Lib.compactUpTo d m).Pairwise (· < ·) := by
  intro m
  induction m with
  | zero => intro _; simp [Lib.compactUpTo]
  | succ m ih =>
    intro hm
    rw [Lib.compactUpTo_succ]
    by_cases hk : Lib.keeps d m = true
    · rw [if_pos hk, List.pairwise_append]
      refine ⟨ih (by omega), by simp, fun a ha b hb => ?_⟩
      simp only [List.mem_singleton] at hb
      subst hb
      obtain ⟨j, hj, _, rfl⟩ := (cu_mem d m a).1 ha
      simp only [Lib.keeps, decide_eq_true_eq] at hk
      rcases hk with h0 | hne
      · omega
      · have h1 := hs j (m - 1) (by omega) (by omega)
        have h2 := hs (m - 1) m (by omega) (by omega)
        omega
    · simp only [hk]
      simpa using ih (by omega)
theorem toArray_get (zs : List Int) (j : Nat) (h : j < zs.length) : zs.toArray[j]! = zs[j] := by
  rw [getElem!_pos zs.toArray j (by simpa using h)]; simp
theorem compact_le (zs : List Int) : (Lib.compact zs).length ≤ zs.length := cu_le _ _
theorem compact_mem (zs : List Int) (z : Int) : z ∈ Lib.compact zs ↔ z ∈ zs := by
  constructor
  · intro h
    obtain ⟨j, hj, _, rfl⟩ := (cu_mem _ _ z).1 h
    rw [toArray_get zs j hj]; exact List.getElem_mem hj
  · intro h
    obtain ⟨j, hj, rfl⟩ := List.getElem_of_mem h
    have := cu_all zs.toArray zs.length j hj
    rwa [toArray_get zs j hj] at this
theorem compact_lt {zs : List Int} (hs : zs.Pairwise (· ≤ ·)) : (Lib.compact zs).Pairwise (· < ·) := by
  refine cu_sorted _ zs.length (fun i j hij hj => ?_) _ (Nat.le_refl _)
  rw [toArray_get zs i (by omega), toArray_get zs j hj]
  rcases Nat.lt_or_ge i j with h | h
  · exact List.pairwise_iff_getElem.1 hs i j (by omega) hj h
  · have : i = j := by omega
    subst this; exact Int.le_refl _
theorem nodup_lt {zs : List Int} (h : zs.Pairwise (· < ·)) : zs.Nodup := h.imp (fun h => Int.ne_of_lt h)
/-- Two strictly rising lists of the same numbers are one. -/
theorem lt_unique {xs ys : List Int} (hx : xs.Pairwise (· < ·)) (hy : ys.Pairwise (· < ·)) (h : ∀ z, z ∈ xs ↔ z ∈ ys) : xs = ys :=
  List.Perm.eq_of_pairwise (le := fun a b => a < b) (fun a b _ _ h1 h2 => by omega) hx hy ((List.perm_ext_iff_of_nodup (nodup_lt hx) (nodup_lt hy)).2 h)
theorem srt_unique {xs ys : List Int} (hs : xs.Pairwise (· ≤ ·)) (hp : xs.Perm ys) : xs = srt ys :=
  List.Perm.eq_of_pairwise (le := fun a b => a ≤ b) (fun a b _ _ h1 h2 => by omega) hs (srt_sorted ys) (hp.trans (srt_perm ys).symm)
theorem compact_srt_nodup (zs : List Int) : (Lib.compact (srt zs)).length = zs.length ↔ zs.Nodup := by
  have hlt := compact_lt (srt_sorted zs)
  constructor
  · intro h
    have hall : ∀ j, j < (srt zs).length → Lib.keeps (srt zs).toArray j = true := by
      have : ((List.range (srt zs).length).filter (Lib.keeps (srt zs).toArray)).length = (List.range (srt zs).length).length := by
        have h' : (Lib.compact (srt zs)).length = (srt zs).length := by rw [h, srt_length]
        simpa [Lib.compact, Lib.compactUpTo] using h'
      have h2 := List.length_filter_eq_length_iff.1 this
      exact fun j hj => h2 j (List.mem_range.2 hj)
    have e := Lib.compact_all (srt zs) hall
    rw [e] at hlt
    exact (srt_perm zs).nodup_iff.1 (nodup_lt hlt)
  · intro h
    have h2 : (srt zs).Nodup := (srt_perm zs).nodup_iff.2 h
    have := (List.perm_ext_iff_of_nodup (nodup_lt hlt) h2).2 (fun z => compact_mem _ z)
    rw [this.length_eq, srt_length]
end Go.Proofs.Ytepdjlhlcjkdkaa.Ints
