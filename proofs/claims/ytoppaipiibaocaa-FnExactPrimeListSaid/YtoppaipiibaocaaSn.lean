/- Rising lists, and the digits of a set's number. -/
import Derived.Test.YtoppaipiibaocaaFdI
import Derived.Deep.QuietTactic
import Derived.BigQuiet
namespace Go.Proofs.Ytoppaipiibaocaa.Ints
open Go.RowKit
set_option linter.unusedVariables false

/-- Each number is greater than the one before it. -/
def Inc (zs : List Int) (n : Nat) : Prop := ∀ i, i + 1 < n → zs.getD i 0 < zs.getD (i + 1) 0
theorem Inc.lt {zs : List Int} {n : Nat} (h : Inc zs n) : ∀ i j, i < j → j < n → zs.getD i 0 < zs.getD j 0 := by
  intro i j
  induction j with
  | zero => intro h1; omega
  | succ j ih =>
    intro h1 h2
    have h3 := h j h2
    by_cases he : i = j
    · subst he; exact h3
    · have := ih (by omega) (by omega); omega
theorem Inc.up {zs : List Int} {n : Nat} (h : Inc zs n) (k : 0 < n → zs.getD (n - 1) 0 < zs.getD n 0) : Inc zs (n + 1) := fun i hi => by
  by_cases he : i + 1 = n
  · have := k (by omega)
    subst he
    simpa using this
  · exact h i (by omega)
open Classical in
noncomputable def riseB (zs : List Int) : Bool := decide (Inc zs zs.length ∧ Dig 800 zs)
theorem riseB_true {zs : List Int} (h : Inc zs zs.length) (k : Dig 800 zs) : riseB zs = true := by simp [riseB, h, k]
theorem riseB_inc {zs : List Int} (h : ¬ Inc zs zs.length) : riseB zs = false := by simp [riseB, h]
theorem riseB_dig {zs : List Int} (h : ¬ Dig 800 zs) : riseB zs = false := by simp [riseB, h]
theorem riseB_iff {zs : List Int} (h : riseB zs = true) : Inc zs zs.length ∧ Dig 800 zs := by simpa [riseB] using h
theorem riseB_split {zs : List Int} (h : Inc zs zs.length) : riseB zs = digB 800 zs := by
  by_cases hd : Dig 800 zs
  · rw [digB_true hd, riseB_true h hd]
  · rw [digB_false hd, riseB_dig hd]

theorem fdS_pad (zs : List Int) (b : Int) (n : Nat) : ∀ k, k ≤ n → fdS (zs ++ List.replicate n 0) b k = some 0 := by
  intro k
  induction k with
  | zero => intro _; rfl
  | succ k ih =>
    intro hk
    have e : (zs ++ List.replicate n 0).getD ((zs ++ List.replicate n 0).length - 1 - k) 0 = 0 := by
      rw [List.getD_eq_getElem?_getD, List.getElem?_append_right (by simp; omega)]
      simp [List.getElem?_replicate]
      split <;> rfl
    rw [fdS_step (ih (by omega)) (by rw [e]; simp [zero_can]), e]; simp
theorem fdS_padded (zs : List Int) (b : Int) (n : Nat) : ∀ k, k ≤ zs.length → fdS (zs ++ List.replicate n 0) b (n + k) = fdS zs b k := by
  intro k
  induction k with
  | zero => intro _; rw [Nat.add_zero, fdS_pad zs b n n (Nat.le_refl _)]; rfl
  | succ k ih =>
    intro hk
    have e : (zs ++ List.replicate n 0).getD ((zs ++ List.replicate n 0).length - 1 - (n + k)) 0 = zs.getD (zs.length - 1 - k) 0 := by
      rw [List.getD_eq_getElem?_getD, List.getD_eq_getElem?_getD, List.getElem?_append_left (by simp; omega)]
      congr 2
      simp; omega
    rw [← Nat.add_assoc, fdS, ih (by omega), fdS, e]
theorem fdR_padded (zs : List Int) (b : Int) (n : Nat) : fdR (zs ++ List.replicate n 0) b = fdR zs b := by
  rw [fdR, List.length_append, List.length_replicate, Nat.add_comm, fdS_padded zs b n _ (Nat.le_refl _)]; rfl

open Classical in
/-- The first n digits once i of the places have been marked. -/
noncomputable def snZ (zs : List Int) (i n : Nat) : List Int := (List.range n).map (fun q : Nat => if ∃ j, j < i ∧ zs.getD j 0 = (q : Int) then 1 else 0)
theorem snZ_len (zs : List Int) (i n : Nat) : (snZ zs i n).length = n := by simp [snZ]
theorem snZ_zero (zs : List Int) (n : Nat) : snZ zs 0 n = List.replicate n 0 := by
  apply List.ext_getElem
  · simp [snZ]
  · intro q h1 h2; simp [snZ]
theorem snZ_set {zs : List Int} {i n x : Nat} (hx : zs.getD i 0 = (x : Int)) : (snZ zs i n).set x 1 = snZ zs (i + 1) n := by
  apply List.ext_getElem
  · simp [snZ]
  · intro q h1 h2
    rw [List.getElem_set]
    simp only [snZ, List.getElem_map, List.getElem_range]
    by_cases hq : x = q
    · subst hq
      rw [if_pos rfl, if_pos ⟨i, by omega, hx⟩]
    · rw [if_neg hq]
      by_cases h : ∃ j, j < i ∧ zs.getD j 0 = (q : Int)
      · obtain ⟨j, hj, hz⟩ := h
        rw [if_pos ⟨j, hj, hz⟩, if_pos ⟨j, by omega, hz⟩]
      · rw [if_neg h, if_neg]
        rintro ⟨j, hj, hz⟩
        by_cases he : j = i
        · subst he; rw [hx] at hz; omega
        · exact h ⟨j, by omega, hz⟩
theorem snZ_pad {zs : List Int} {i n : Nat} (h : ∀ j, j < i → zs.getD j 0 < (n : Int)) : snZ zs i (n + 1) = snZ zs i n ++ [0] := by
  rw [snZ, List.range_succ, List.map_append, ← snZ]
  simp only [List.map_cons, List.map_nil]
  rw [if_neg]
  rintro ⟨j, hj, hz⟩
  have := h j hj
  omega
theorem snZ_pads {zs : List Int} {i n : Nat} (h : ∀ j, j < i → zs.getD j 0 < (n : Int)) : ∀ m, snZ zs i (n + m) = snZ zs i n ++ List.replicate m 0 := by
  intro m
  induction m with
  | zero => simp
  | succ m ih =>
    rw [← Nat.add_assoc, snZ_pad (fun j hj => by have := h j hj; omega), ih, List.replicate_succ', List.append_assoc]
theorem snZ_one {zs : List Int} {i x : Nat} (hx : zs.getD i 0 = (x : Int)) : snZ zs (i + 1) (x + 1) = snZ zs i x ++ [1] := by
  rw [snZ, List.range_succ, List.map_append]
  congr 1
  · rw [snZ]
    apply List.map_congr_left
    intro q hq
    rw [List.mem_range] at hq
    by_cases h : ∃ j, j < i ∧ zs.getD j 0 = (q : Int)
    · obtain ⟨j, hj, hz⟩ := h
      rw [if_pos ⟨j, by omega, hz⟩, if_pos ⟨j, hj, hz⟩]
    · rw [if_neg, if_neg h]
      rintro ⟨j, hj, hz⟩
      by_cases he : j = i
      · subst he; rw [hx] at hz; omega
      · exact h ⟨j, by omega, hz⟩
  · simp only [List.map_cons, List.map_nil]
    rw [if_pos ⟨i, by omega, hx⟩]
theorem snZ_dig (zs : List Int) (i n : Nat) : Dig 2 (snZ zs i n) := by
  intro q hq
  rw [snZ_len] at hq
  rw [List.getD_eq_getElem?_getD, snZ, List.getElem?_map, List.getElem?_range hq]
  simp only [Option.map_some, Option.getD_some]
  split <;> omega
noncomputable def snL (zs : List Int) : List Int := if riseB zs = true then fgL (snZ zs zs.length 800) 2 else []
noncomputable def snC (zs : List Int) : Int := if riseB zs = true then fgC (snZ zs zs.length 800) 2 else 2
theorem sn_bad {zs : List Int} (h : riseB zs = false) : snL zs = [] ∧ snC zs = 2 := by simp [snL, snC, h]
theorem sn_good {zs : List Int} (h : riseB zs = true) : snL zs = fgL (snZ zs zs.length 800) 2 ∧ snC zs = fgC (snZ zs zs.length 800) 2 := by simp [snL, snC, h]
theorem sn_short {zs : List Int} {n : Nat} (h : riseB zs = true) (hn : ∀ j, j < zs.length → zs.getD j 0 < (n : Int)) (h8 : n ≤ 800) :
    snL zs = fdL (snZ zs zs.length n) 2 ∧ snC zs = if fdB (snZ zs zs.length n) 2 = true then 0 else 5 := by
  have e := snZ_pads hn (800 - n)
  rw [show n + (800 - n) = 800 by omega] at e
  have er : fdR (snZ zs zs.length 800) 2 = fdR (snZ zs zs.length n) 2 := by rw [e, fdR_padded]
  have eB : fdB (snZ zs zs.length 800) 2 = fdB (snZ zs zs.length n) 2 := by rw [fdB, fdB, er]
  have eL : fdL (snZ zs zs.length 800) 2 = fdL (snZ zs zs.length n) 2 := by rw [fdL, fdL, er]
  have hlen : (snZ zs zs.length 800).length ≤ 800 := by rw [snZ_len]; omega
  have hok : fgOk (snZ zs zs.length 800) 2 = true := by
    rw [fgOk_dig' (by omega) (by omega)]
    exact digB_true (snZ_dig _ _ _)
  obtain ⟨g1, g2⟩ := sn_good h
  rw [g1, g2]
  rcases eqOr (fdB (snZ zs zs.length 800) 2) with hb | hb
  · obtain ⟨k1, k2⟩ := fg_full hok hlen hb
    rw [eB] at hb
    rw [k1, k2, hb]
    refine ⟨?_, rfl⟩
    cases hr : fdR (snZ zs zs.length n) 2 with
    | none => exact (fd_none hr).1.symm
    | some V => rw [(fd_some hr).2] at hb; cases hb
  · obtain ⟨k1, k2⟩ := fg_good hok hlen hb
    rw [eB] at hb
    rw [k1, k2, hb, eL]; exact ⟨rfl, rfl⟩
end Go.Proofs.Ytoppaipiibaocaa.Ints
