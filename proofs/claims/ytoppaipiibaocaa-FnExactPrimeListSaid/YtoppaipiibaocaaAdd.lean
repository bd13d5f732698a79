/- The contract of the model's sum of limbs. -/
import Derived.Test.YtoppaipiibaocaaVal
import Derived.Test.YtoppaipiibaocaaLimbs
namespace Go.Proofs.Ytoppaipiibaocaa.Ints
open Go.RowKit
set_option linter.unusedVariables false

/-- What holds of a sum behind k limbs, with the carry c. -/
structure AddInv (ps qs : List Int) (M k : Nat) (c : Int) (xs : List Int) : Prop where
  len : xs.length = k
  dig : Dig 1000000 xs
  c0 : 0 ≤ c
  c1 : c ≤ 1
  sum : val xs + Pw k * c = val (ps.take k) + val (qs.take k)
  last : k < M ∨ 0 < c ∨ k = 0 ∨ xs.getD (xs.length - 1) 0 ≠ 0
  top : k ≤ M ∨ (k = M + 1 ∧ c = 0)
theorem AddInv.start (ps qs : List Int) (M : Nat) : AddInv ps qs M 0 0 [] :=
  ⟨rfl, fun i hi => by simp at hi, by omega, by omega, by simp [val], .inr (.inr (.inl rfl)), .inl (Nat.zero_le _)⟩
theorem dig_at {zs : List Int} (h : Dig 1000000 zs) (k : Nat) : 0 ≤ zs.getD k 0 ∧ zs.getD k 0 ≤ 999999 := by
  by_cases hk : k < zs.length
  · have := h k hk; omega
  · rw [List.getD_eq_getElem?_getD, List.getElem?_eq_none (by omega)]; simp
theorem AddInv.step {ps qs : List Int} {M k : Nat} {c : Int} {xs : List Int} (h : AddInv ps qs M k c xs) (ha : Can ps) (hb : Can qs) (hla : ps.length ≤ M) (hlb : qs.length ≤ M) (hM : M = ps.length ∨ M = qs.length)
    (hgo : k < M ∨ 0 < c) (s : Int) (hs : s = c + ps.getD k 0 + qs.getD k 0) : AddInv ps qs M (k + 1) (s / 1000000) (xs ++ [s % 1000000]) := by
  obtain ⟨a0, a1⟩ := dig_at ha.1 k
  obtain ⟨b0, b1⟩ := dig_at hb.1 k
  have c0 := h.c0
  have c1 := h.c1
  have hbey : M ≤ k → ps.getD k 0 = 0 ∧ qs.getD k 0 = 0 := fun hk => by
    constructor <;> (rw [List.getD_eq_getElem?_getD, List.getElem?_eq_none (by omega)]; simp)
  refine ⟨by simp [h.len], h.dig.snoc (by omega) (by omega), by omega, by omega, ?_, ?_, ?_⟩
  · rw [val_snoc, h.len, Pw, carry_step (val xs) (val xs) (Pw k) s rfl, hs, val_take_succ ps k, val_take_succ qs k, Int.mul_add, Int.mul_add]
    have := h.sum
    omega
  · by_cases hk : k + 1 < M
    · exact .inl hk
    · by_cases hc : 0 < s / 1000000
      · exact .inr (.inl hc)
      · refine .inr (.inr (.inr ?_))
        rw [last_snoc]
        have hpos : 0 < s := by
          by_cases hkM : k < M
          · rcases hM with hM | hM
            · have := ha.2
              rw [show ps.length - 1 = k by omega] at this
              omega
            · have := hb.2
              rw [show qs.length - 1 = k by omega] at this
              omega
          · rcases hgo with hg | hg
            · omega
            · omega
        omega
  · by_cases hkM : k < M
    · left; omega
    · have := hbey (by omega)
      rcases h.top with ht | ⟨ht, hc⟩
      · right; exact ⟨by omega, by omega⟩
      · omega
theorem AddInv.done {ps qs : List Int} {M k : Nat} {xs : List Int} (h : AddInv ps qs M k 0 xs) (hla : ps.length ≤ M) (hlb : qs.length ≤ M) (hk : M ≤ k) :
    Can xs ∧ val xs = val ps + val qs ∧ xs.length ≤ M + 1 := by
  have hs := h.sum
  rw [List.take_of_length_le (by omega), List.take_of_length_le (by omega)] at hs
  refine ⟨⟨h.dig, ?_⟩, by simpa using hs, by have := h.len; rcases h.top with ht | ⟨ht, _⟩ <;> omega⟩
  rcases h.last with hl | hl | hl | hl
  · omega
  · omega
  · left; rw [h.len]; exact hl
  · exact .inr hl

end Go.Proofs.Ytoppaipiibaocaa.Ints
