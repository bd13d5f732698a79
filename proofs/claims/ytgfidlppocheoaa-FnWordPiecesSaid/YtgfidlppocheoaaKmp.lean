/- Borders of words: the greatest border of each beginning. Plain lemmas; nothing of the program is named here. -/
import Derived.Test.YtgfidlppocheoaaInts
namespace Go.Proofs.Ytgfidlppocheoaa.Ints
set_option linter.unusedVariables false

/-- b is a border of the first i letters. -/
def isB (w : List Int) (i b : Nat) : Prop := b < i ∧ ∀ j, j < b → w.getD j 0 = w.getD (i - b + j) 0
theorem isB_zero {w : List Int} {i : Nat} (h : 0 < i) : isB w i 0 := ⟨h, fun j hj => by omega⟩
theorem isB_chain {w : List Int} {i b c : Nat} (h : isB w i b) (hc : c < b) : isB w i c ↔ isB w b c := by
  have hb := h.1
  constructor
  · rintro ⟨h1, h2⟩
    refine ⟨hc, fun j hj => ?_⟩
    rw [h2 j hj, h.2 (b - c + j) (by omega)]
    congr 1; omega
  · rintro ⟨h1, h2⟩
    refine ⟨by omega, fun j hj => ?_⟩
    rw [h2 j hj, h.2 (b - c + j) (by omega)]
    congr 1; omega
theorem isB_succ {w : List Int} {i b : Nat} : isB w (i + 1) (b + 1) ↔ isB w i b ∧ w.getD b 0 = w.getD i 0 := by
  constructor
  · rintro ⟨h1, h2⟩
    refine ⟨⟨by omega, fun j hj => ?_⟩, ?_⟩
    · rw [h2 j (by omega)]; congr 1; omega
    · rw [h2 b (by omega)]; congr 1; omega
  · rintro ⟨⟨h1, h2⟩, h3⟩
    refine ⟨by omega, fun j hj => ?_⟩
    by_cases hjb : j = b
    · subst hjb; rw [h3]; congr 1; omega
    · rw [h2 j (by omega)]; congr 1; omega
open Classical in
noncomputable def maxB (w : List Int) (i : Nat) : Nat → Int
  | 0 => -1
  | k + 1 => if isB w i k then (k : Int) else maxB w i k
/-- The greatest border of the first i letters; -1 if i is 0. -/
noncomputable def mb (w : List Int) (i : Nat) : Int := maxB w i i
theorem maxB_spec (w : List Int) (i : Nat) : ∀ n, (maxB w i n = -1 ∧ ∀ k, k < n → ¬ isB w i k) ∨ ∃ k : Nat, maxB w i n = k ∧ k < n ∧ isB w i k ∧ ∀ j, k < j → j < n → ¬ isB w i j := by
  intro n
  induction n with
  | zero => exact .inl ⟨rfl, fun k hk => by omega⟩
  | succ n ih =>
    by_cases h : isB w i n
    · exact .inr ⟨n, by rw [maxB, if_pos h], by omega, h, fun j h1 h2 => by omega⟩
    · rw [maxB, if_neg h]
      rcases ih with ⟨h1, h2⟩ | ⟨k, h1, h2, h3, h4⟩
      · refine .inl ⟨h1, fun k hk => ?_⟩
        by_cases e : k = n
        · subst e; exact h
        · exact h2 k (by omega)
      · refine .inr ⟨k, h1, by omega, h3, fun j g1 g2 => ?_⟩
        by_cases e : j = n
        · subst e; exact h
        · exact h4 j g1 (by omega)
theorem mb_zero (w : List Int) : mb w 0 = -1 := rfl
theorem mb_spec (w : List Int) (i : Nat) (h : 0 < i) : ∃ k : Nat, mb w i = k ∧ k < i ∧ isB w i k ∧ ∀ j, isB w i j → j ≤ k := by
  rcases maxB_spec w i i with ⟨h1, h2⟩ | ⟨k, h1, h2, h3, h4⟩
  · exact absurd (isB_zero h) (h2 0 h)
  · exact ⟨k, h1, h2, h3, fun j hj => by
      rcases Nat.lt_or_ge k j with g | g
      · exact absurd hj (h4 j g hj.1)
      · exact g⟩
theorem mb_range (w : List Int) (i : Nat) : -1 ≤ mb w i ∧ mb w i < i := by
  rcases Nat.eq_zero_or_pos i with h | h
  · subst h; rw [mb_zero]; omega
  · obtain ⟨k, h1, h2, _⟩ := mb_spec w i h; omega
theorem mb_eq {w : List Int} {i k : Nat} (h : isB w i k) (hm : ∀ j, isB w i j → j ≤ k) : mb w i = k := by
  obtain ⟨m, h1, h2, h3, h4⟩ := mb_spec w i (by have := h.1; omega)
  have a := hm m h3
  have b := h4 k h
  omega
/-- The candidate c in the search for the border behind i letters. -/
structure Cand (w : List Int) (i : Nat) (c : Int) : Prop where
  isb : c = -1 ∨ ∃ k : Nat, c = k ∧ isB w i k
  best : ∀ b, isB w i b → w.getD b 0 = w.getD i 0 → (b : Int) ≤ c
theorem Cand.start (w : List Int) (i : Nat) : Cand w i (mb w i) := by
  rcases Nat.eq_zero_or_pos i with h | h
  · subst h; exact ⟨.inl (mb_zero w), fun b hb => by have := hb.1; omega⟩
  · obtain ⟨k, h1, h2, h3, h4⟩ := mb_spec w i h
    exact ⟨.inr ⟨k, h1, h3⟩, fun b hb _ => by have := h4 b hb; omega⟩
theorem Cand.nat {w : List Int} {i : Nat} {c : Int} (h : Cand w i c) (h0 : 0 ≤ c) : ∃ k : Nat, c = k ∧ isB w i k := by
  rcases h.isb with g | g
  · omega
  · exact g
theorem Cand.step {w : List Int} {i k : Nat} (h : Cand w i k) (hk : isB w i k) (hne : w.getD k 0 ≠ w.getD i 0) : Cand w i (mb w k) := by
  have hbest : ∀ b, isB w i b → w.getD b 0 = w.getD i 0 → (b : Int) ≤ mb w k := fun b hb he => by
    have h1 := h.best b hb he
    have h2 : b ≠ k := fun e => hne (by rw [← e]; exact he)
    have h3 : isB w k b := (isB_chain hk (by omega)).1 hb
    obtain ⟨m, g1, g2, g3, g4⟩ := mb_spec w k (by have := h3.1; omega)
    have := g4 b h3
    omega
  refine ⟨?_, hbest⟩
  rcases Nat.eq_zero_or_pos k with h0 | h0
  · subst h0; exact .inl (mb_zero w)
  · obtain ⟨m, g1, g2, g3, g4⟩ := mb_spec w k h0
    exact .inr ⟨m, g1, (isB_chain hk g2).2 g3⟩
theorem Cand.done {w : List Int} {i : Nat} {c : Int} (h : Cand w i c) (he : c < 0 ∨ ∃ k : Nat, c = k ∧ w.getD k 0 = w.getD i 0) : mb w (i + 1) = c + 1 := by
  rcases he with h0 | ⟨k, rfl, hk⟩
  · have hc : c = -1 := by
      rcases h.isb with g | ⟨k, g, _⟩
      · exact g
      · omega
    rw [hc]
    refine mb_eq (isB_zero (by omega)) fun j hj => ?_
    cases j with
    | zero => omega
    | succ j =>
      obtain ⟨g1, g2⟩ := isB_succ.1 hj
      have := h.best j g1 g2
      omega
  · have hb : isB w i k := by
      rcases h.isb with g | ⟨m, g, gb⟩
      · omega
      · have : m = k := by omega
        rwa [this] at gb
    have := mb_eq (w := w) (i := i + 1) (k := k + 1) (isB_succ.2 ⟨hb, hk⟩) fun j hj => by
      cases j with
      | zero => omega
      | succ j =>
        obtain ⟨g1, g2⟩ := isB_succ.1 hj
        have := h.best j g1 g2
        omega
    rw [this]; omega
/-- The first m entries of the table. -/
noncomputable def tabL (w : List Int) (m : Nat) : List Int := (List.range m).map fun i => mb w i
theorem tabL_length (w : List Int) (m : Nat) : (tabL w m).length = m := by simp [tabL]
theorem tabL_succ (w : List Int) (m : Nat) : tabL w (m + 1) = tabL w m ++ [mb w m] := by simp [tabL, List.range_succ]
theorem tabL_at (w : List Int) (m i : Nat) (h : i < m) : (tabL w m).getD i 0 = mb w i := by simp [tabL, List.getD_eq_getElem?_getD, h]

open Classical in
/-- The borders of n letters below k, ascending. -/
noncomputable def asc (w : List Int) (n : Nat) : Nat → List Int
  | 0 => []
  | k + 1 => if isB w n k then asc w n k ++ [(k : Int)] else asc w n k
theorem asc_pos {w : List Int} {n k : Nat} (h : isB w n k) : asc w n (k + 1) = asc w n k ++ [(k : Int)] := by rw [asc, if_pos h]
theorem asc_neg {w : List Int} {n k : Nat} (h : ¬ isB w n k) : asc w n (k + 1) = asc w n k := by rw [asc, if_neg h]
theorem asc_len (w : List Int) (n k : Nat) : (asc w n k).length ≤ k := by
  induction k with
  | zero => simp [asc]
  | succ k ih =>
    by_cases h : isB w n k
    · rw [asc_pos h, List.length_append]; simp; omega
    · rw [asc_neg h]; omega
theorem asc_mem (w : List Int) (n k : Nat) : ∀ x ∈ asc w n k, 0 ≤ x ∧ x < k := by
  induction k with
  | zero => intro x hx; simp [asc] at hx
  | succ k ih =>
    intro x hx
    by_cases h : isB w n k
    · rw [asc_pos h] at hx
      rcases List.mem_append.1 hx with hx | hx
      · have := ih x hx; omega
      · simp at hx; omega
    · rw [asc_neg h] at hx; have := ih x hx; omega
theorem asc_gap {w : List Int} {n a : Nat} : ∀ d, (∀ b, a ≤ b → b < a + d → ¬ isB w n b) → asc w n (a + d) = asc w n a := by
  intro d
  induction d with
  | zero => intro _; rfl
  | succ d ih =>
    intro h
    rw [← Nat.add_assoc, asc_neg (h (a + d) (by omega) (by omega))]
    exact ih fun b h1 h2 => h b h1 (by omega)
/-- Behind the borders that have come down to c. -/
structure Desc (w : List Int) (n : Nat) (c : Int) (xs : List Int) : Prop where
  isb : c = -1 ∨ ∃ k : Nat, c = k ∧ isB w n k
  eq : (asc w n n).reverse = xs ++ (asc w n (c + 1).toNat).reverse
  len : (xs.length : Int) + c < n + 1
  mem : ∀ x ∈ xs, 0 ≤ x ∧ x < n
theorem Desc.start (w : List Int) (n : Nat) : Desc w n (mb w n) [] := by
  rcases Nat.eq_zero_or_pos n with h | h
  · subst h; exact ⟨.inl (mb_zero w), by rw [mb_zero]; simp [asc], by rw [mb_zero]; simp, fun x hx => by cases hx⟩
  · obtain ⟨k, h1, h2, h3, h4⟩ := mb_spec w n h
    refine ⟨.inr ⟨k, h1, h3⟩, ?_, by rw [h1]; simp; omega, fun x hx => by cases hx⟩
    rw [h1, show ((k : Int) + 1).toNat = k + 1 by omega]
    have := asc_gap (w := w) (n := n) (a := k + 1) (n - (k + 1)) (fun b g1 g2 hb => by have := h4 b hb; omega)
    rw [show k + 1 + (n - (k + 1)) = n by omega] at this
    rw [this]; rfl
theorem Desc.step {w : List Int} {n : Nat} {c : Int} {xs : List Int} (h : Desc w n c xs) (h0 : 0 ≤ c) : ∃ k : Nat, c = k ∧ k < n ∧ Desc w n (mb w k) (xs ++ [(k : Int)]) := by
  rcases h.isb with g | ⟨k, rfl, hk⟩
  · omega
  refine ⟨k, rfl, hk.1, ?_⟩
  have hr := mb_range w k
  have hm : ∀ x ∈ xs ++ [(k : Int)], 0 ≤ x ∧ x < n := fun x hx => by
    rcases List.mem_append.1 hx with hx | hx
    · exact h.mem x hx
    · simp at hx; have := hk.1; omega
  have hl := h.len
  have he := h.eq
  rw [show ((k : Int) + 1).toNat = k + 1 by omega, asc_pos hk, List.reverse_append] at he
  rcases Nat.eq_zero_or_pos k with h1 | h1
  · subst h1
    refine ⟨.inl (mb_zero w), ?_, by rw [mb_zero, List.length_append]; simp; omega, hm⟩
    rw [he, mb_zero]; simp [asc]
  · obtain ⟨m, g1, g2, g3, g4⟩ := mb_spec w k h1
    refine ⟨.inr ⟨m, g1, (isB_chain hk g2).2 g3⟩, ?_, by rw [List.length_append]; simp; omega, hm⟩
    rw [he, g1, show ((m : Int) + 1).toNat = m + 1 by omega]
    have := asc_gap (w := w) (n := n) (a := m + 1) (k - (m + 1)) (fun b e1 e2 hb => by
      have := g4 b ((isB_chain hk (by omega)).1 hb); omega)
    rw [show m + 1 + (k - (m + 1)) = k by omega] at this
    rw [this]; simp
theorem Desc.done {w : List Int} {n : Nat} {c : Int} {xs : List Int} (h : Desc w n c xs) (h0 : ¬ 0 ≤ c) : xs.reverse = asc w n n := by
  have hc : c = -1 := by
    rcases h.isb with g | ⟨k, g, _⟩
    · exact g
    · omega
  have := h.eq
  rw [hc] at this
  simp [asc] at this
  rw [← this, List.reverse_reverse]
theorem isB_same {w : List Int} {k : Nat} (hk : k < w.length) : isB w w.length k ↔ w.take k = w.drop (w.length - k) := by
  constructor
  · rintro ⟨_, h⟩
    apply List.ext_getElem (by simp; omega)
    intro i h1 h2
    simp at h1 h2
    have := h i (by omega)
    simpa [List.getD_eq_getElem?_getD, List.getElem?_eq_getElem (show i < w.length by omega), List.getElem?_eq_getElem (show w.length - k + i < w.length by omega)] using this
  · intro h
    refine ⟨hk, fun j hj => ?_⟩
    have h1 : (w.take k).getD j 0 = (w.drop (w.length - k)).getD j 0 := by rw [h]
    simp only [List.getD_eq_getElem?_getD, List.getElem?_take, List.getElem?_drop] at h1 ⊢
    rwa [if_pos hj] at h1
end Go.Proofs.Ytgfidlppocheoaa.Ints
