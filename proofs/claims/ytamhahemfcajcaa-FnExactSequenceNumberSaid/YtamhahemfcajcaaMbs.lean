/- The contract of the program's product of limbs and a small number. -/
import Derived.Test.YtamhahemfcajcaaCan
import Derived.Test.YtamhahemfcajcaaOwn
namespace Go.Proofs.Ytamhahemfcajcaa.Ints
open Go.RowKit
set_option linter.unusedVariables false

theorem can_of_ge {Y : List Int} (hd : Dig 1000000 Y) (h : 0 < Y.length → Pw (Y.length - 1) ≤ val Y) : Can Y := by
  refine ⟨hd, ?_⟩
  rcases Nat.eq_zero_or_pos Y.length with h0 | h0
  · exact .inl h0
  · right
    intro hz
    have e := val_take_succ Y (Y.length - 1)
    rw [List.take_of_length_le (by omega), hz, Int.mul_zero, Int.add_zero] at e
    have hlt := val_lt (dig_take hd (Y.length - 1))
    rw [List.length_take, Nat.min_eq_left (by omega)] at hlt
    have := h h0
    omega
structure SMI (ps : List Int) (b cy : Int) (k : Nat) (c : Int) (Y : List Int) : Prop where
  len : Y.length = k
  dig : Dig 1000000 Y
  c0 : 0 ≤ c
  c1 : c < 1000000
  sum : val Y + Pw k * c = val (ps.take k) * b + cy
theorem SMI.start (ps : List Int) (b cy : Int) (c0 : 0 ≤ cy) (c1 : cy < 1000000) : SMI ps b cy 0 cy [] :=
  ⟨rfl, fun i hi => by simp at hi, c0, c1, by simp [val, Pw]⟩
theorem small_mul {x b : Int} (x0 : 0 ≤ x) (x1 : x < 1000000) (b0 : 1 ≤ b) (b1 : b ≤ 1000000) : 0 ≤ x * b ∧ x * b ≤ 999999000000 := by
  have h1 : x * b ≤ 999999 * b := Int.mul_le_mul_of_nonneg_right (by omega) (by omega)
  have h2 : 0 ≤ x * b := Int.mul_nonneg x0 (by omega)
  omega
theorem SMI.step {ps : List Int} {b cy : Int} {k : Nat} {c : Int} {Y : List Int} (h : SMI ps b cy k c Y) (hp : Dig 1000000 ps) (hk : k < ps.length) (b0 : 1 ≤ b) (b1 : b ≤ 1000000) (s : Int) (hs : s = ps.getD k 0 * b + c) :
    SMI ps b cy (k + 1) (s / 1000000) (Y ++ [s % 1000000]) := by
  obtain ⟨d0, d1⟩ := hp k hk
  obtain ⟨m0, m1⟩ := small_mul d0 d1 b0 b1
  have c0 := h.c0
  have c1 := h.c1
  refine ⟨by simp [h.len], h.dig.snoc (by omega) (by omega), by omega, by omega, ?_⟩
  rw [val_snoc, h.len, Pw, carry_step (val Y) (val Y) (Pw k) s rfl, hs, val_take_succ, Int.mul_add, Int.add_mul, Int.mul_assoc]
  have := h.sum
  omega
theorem SMI.done {ps : List Int} {b cy : Int} {c : Int} {Y : List Int} (h : SMI ps b cy ps.length c Y) (hp : Can ps) (b0 : 1 ≤ b) (c0 : 0 ≤ cy) : canOf (val ps * b + cy) = if 0 < c then Y ++ [c] else Y := by
  have hs := h.sum
  rw [List.take_of_length_le (Nat.le_refl _)] at hs
  have h0 := h.c0
  have h1 := h.c1
  by_cases hc : 0 < c
  · rw [if_pos hc]
    refine canOf_eq ⟨h.dig.snoc h0 h1, .inr ?_⟩ (by rw [val_snoc, h.len]; exact hs)
    rw [last_snoc]; omega
  · rw [if_neg hc]
    have hz : c = 0 := by omega
    rw [hz, Int.mul_zero, Int.add_zero] at hs
    refine canOf_eq (can_of_ge h.dig fun hpos => ?_) hs
    rw [h.len] at hpos ⊢
    have hg := can_ge hp hpos
    have hb : val ps * 1 ≤ val ps * b := Int.mul_le_mul_of_nonneg_left b0 (val_nonneg hp.1)
    omega
theorem set_end (Y : List Int) (n k : Nat) (x : Int) (hY : Y.length = k) (h : k < n) :
    ((Y ++ List.replicate (n - k) 0).map (Value.int .i64)).set k (.int .i64 x) = ((Y ++ [x]) ++ List.replicate (n - (k + 1)) 0).map (Value.int .i64) := by
  obtain ⟨m, hm⟩ : ∃ m, n - k = m + 1 := ⟨n - k - 1, by omega⟩
  rw [hm, show n - (k + 1) = m by omega, List.replicate_succ, List.map_append, List.set_append_right _ _ (by simp [hY]), List.append_assoc, List.map_append]
  simp [hY]
end Go.Proofs.Ytamhahemfcajcaa.Ints
