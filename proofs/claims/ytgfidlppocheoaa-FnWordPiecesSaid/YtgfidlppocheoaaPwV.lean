/- Powers of words: the values. -/
import Derived.Test.YtgfidlppocheoaaWord
import Derived.Test.YtgfidlppocheoaaRng
namespace Go.Proofs.Ytgfidlppocheoaa.Ints
open Go.RowKit
set_option linter.unusedVariables false
set_option linter.unusedSimpArgs false
/-- A word n times. -/
def pwL (zs : List Int) : Nat → List Int
  | 0 => []
  | n + 1 => pwL zs n ++ zs
theorem pwL_len (zs : List Int) (n : Nat) : (pwL zs n).length = n * zs.length := by
  induction n with
  | zero => simp [pwL]
  | succ n ih => rw [pwL, List.length_append, ih, Nat.succ_mul]
theorem pwL_add (zs : List Int) (a b : Nat) : pwL zs (a + b) = pwL zs a ++ pwL zs b := by
  induction b with
  | zero => simp [pwL]
  | succ b ih => rw [← Nat.add_assoc, pwL, ih, pwL, List.append_assoc]
theorem pwL_one (zs : List Int) : pwL zs 1 = zs := by simp [pwL]
theorem pwL_fit {zs : List Int} (h : Fit zs) (n : Nat) : Fit (pwL zs n) := by
  induction n with
  | zero => exact Fit.nil
  | succ n ih =>
    intro z hz
    rw [pwL] at hz
    rcases List.mem_append.1 hz with hz | hz
    · exact ih z hz
    · exact h z hz
theorem getD_left {xs ys : List Int} {i : Nat} (h : i < xs.length) : (xs ++ ys).getD i 0 = xs.getD i 0 := by
  rw [List.getD_eq_getElem?_getD, List.getD_eq_getElem?_getD, List.getElem?_append_left h]
theorem getD_right {xs ys : List Int} {i : Nat} : (xs ++ ys).getD (xs.length + i) 0 = ys.getD i 0 := by
  rw [List.getD_eq_getElem?_getD, List.getD_eq_getElem?_getD, List.getElem?_append_right (by omega)]
  congr 2; omega
/-- A power begins again behind each of its words. -/
theorem pwL_again (zs : List Int) {n c i : Nat} (hc : c ≤ n) (hi : c * zs.length + i < n * zs.length) : (pwL zs n).getD (c * zs.length + i) 0 = (pwL zs n).getD i 0 := by
  have e : n = c + (n - c) := by omega
  have h1 : pwL zs n = pwL zs c ++ pwL zs (n - c) := by rw [← pwL_add]; congr 1
  have h2 : pwL zs n = pwL zs (n - c) ++ pwL zs c := by rw [← pwL_add]; congr 1; omega
  have hlen : i < (pwL zs (n - c)).length := by
    rw [pwL_len, Nat.sub_mul]; omega
  have l : (pwL zs n).getD (c * zs.length + i) 0 = (pwL zs (n - c)).getD i 0 := by
    rw [h1, ← pwL_len zs c]; exact getD_right
  have r : (pwL zs n).getD i 0 = (pwL zs (n - c)).getD i 0 := by rw [h2]; exact getD_left hlen
  rw [l, r]
theorem pwL_first (zs : List Int) {n i : Nat} (h1 : 1 ≤ n) (hi : i < zs.length) : (pwL zs n).getD i 0 = zs.getD i 0 := by
  have h : pwL zs n = zs ++ pwL zs (n - 1) := by
    have := pwL_add zs 1 (n - 1)
    rw [pwL_one, show 1 + (n - 1) = n by omega] at this
    exact this
  rw [h]; exact getD_left hi
/-- The first k numbers of a list of a power's length are the power's. -/
structure PwI (zs : List Int) (n k : Nat) (Z : List Int) : Prop where
  len : Z.length = n * zs.length
  fit : Fit Z
  le : k ≤ n * zs.length
  at' : ∀ j, j < k → Z.getD j 0 = (pwL zs n).getD j 0
  mul : k = n * zs.length ∨ ∃ c, 1 ≤ c ∧ c ≤ n ∧ k = c * zs.length
theorem PwI.done {zs Z : List Int} {n : Nat} (h : PwI zs n (n * zs.length) Z) : Z = pwL zs n :=
  getD_injQ (by rw [h.len, pwL_len]) (fun i hi => h.at' i (by rw [h.len] at hi; exact hi))
theorem PwI.first {zs : List Int} {n : Nat} (hf : Fit zs) : PwI zs n (min zs.length (n * zs.length)) (splice (List.replicate (n * zs.length) 0) 0 (zs.take (min zs.length (n * zs.length)))) := by
  have hl : (zs.take (min zs.length (n * zs.length))).length = min zs.length (n * zs.length) := by rw [List.length_take]; omega
  have hfit : 0 + (zs.take (min zs.length (n * zs.length))).length ≤ (List.replicate (n * zs.length) (0 : Int)).length := by rw [hl, List.length_replicate]; omega
  refine ⟨by rw [splice_len hfit, List.length_replicate], Fit.splice (fun z hz => by have := (List.mem_replicate.1 hz).2; omega) (hf.takeQ _), by omega, fun j hj => ?_, ?_⟩
  · rw [splice_at hfit, hl, if_pos (by omega), Nat.sub_zero, List.getD_eq_getElem?_getD, List.getElem?_take, if_pos hj, ← List.getD_eq_getElem?_getD]
    rcases Nat.eq_zero_or_pos n with h0 | h0
    · subst h0; simp at hj
    · exact (pwL_first zs h0 (by omega)).symm
  · rcases Nat.eq_zero_or_pos n with h0 | h0
    · subst h0; left; simp
    · right
      refine ⟨1, Nat.le_refl _, h0, ?_⟩
      have : 1 * zs.length ≤ n * zs.length := Nat.mul_le_mul_right _ h0
      omega
theorem PwI.step {zs Z : List Int} {n k : Nat} (h : PwI zs n k Z) (hk : k < n * zs.length) : PwI zs n (k + min k (n * zs.length - k)) (splice Z k (Z.take (min k (n * zs.length - k)))) ∧ 0 < min k (n * zs.length - k) := by
  obtain ⟨c, c1, cn, hc⟩ : ∃ c, 1 ≤ c ∧ c ≤ n ∧ k = c * zs.length := by
    rcases h.mul with h' | h'
    · omega
    · exact h'
  have hz : 0 < zs.length := by
    rcases Nat.eq_zero_or_pos zs.length with h0 | h0
    · rw [h0] at hk; omega
    · exact h0
  have hkp : 0 < k := by rw [hc]; exact Nat.mul_pos (by omega) hz
  have hl : (Z.take (min k (n * zs.length - k))).length = min k (n * zs.length - k) := by rw [List.length_take, h.len]; omega
  have hfit : k + (Z.take (min k (n * zs.length - k))).length ≤ Z.length := by rw [hl, h.len]; omega
  refine ⟨⟨by rw [splice_len hfit, h.len], Fit.splice h.fit (h.fit.takeQ _), by omega, fun j hj => ?_, ?_⟩, by omega⟩
  · rw [splice_at hfit, hl]
    by_cases hjk : k ≤ j
    · rw [if_pos ⟨hjk, hj⟩, List.getD_eq_getElem?_getD, List.getElem?_take, if_pos (by omega), ← List.getD_eq_getElem?_getD, h.at' _ (by omega)]
      have := pwL_again zs (n := n) (c := c) (i := j - k) cn (by rw [← hc]; omega)
      rw [← hc, show k + (j - k) = j by omega] at this
      exact this.symm
    · rw [if_neg (by omega)]; exact h.at' j (by omega)
  · by_cases h2 : k ≤ n * zs.length - k
    · right
      have e : k + min k (n * zs.length - k) = (2 * c) * zs.length := by rw [Nat.min_eq_left h2, Nat.mul_assoc, ← hc]; omega
      refine ⟨2 * c, by omega, ?_, e⟩
      have : (2 * c) * zs.length ≤ n * zs.length := by rw [← e]; omega
      exact Nat.le_of_mul_le_mul_right this hz
    · left; omega
end Go.Proofs.Ytgfidlppocheoaa.Ints
