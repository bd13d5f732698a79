/- Ranks of words and the shortlex order: the arithmetic behind FnWordRanks. -/
import Derived.Test.YtgfidlppocheoaaRank
import Derived.Test.YtgfidlppocheoaaWordAt
import Derived.Test.YtgfidlppocheoaaShort
namespace Go.Proofs.Ytgfidlppocheoaa.Ints
open Go.RowKit
set_option linter.unusedVariables false
set_option linter.unusedSimpArgs false
/-- Letters below a number. -/
def InL (L : Int) (zs : List Int) : Prop := ∀ x ∈ zs, 0 ≤ x ∧ x < L
theorem InL.tail {L x : Int} {xs : List Int} (h : InL L (x :: xs)) : InL L xs := fun y hy => h y (List.mem_cons_of_mem _ hy)
theorem InL.head {L x : Int} {xs : List Int} (h : InL L (x :: xs)) : 0 ≤ x ∧ x < L := h x List.mem_cons_self
/-- The rank of a word, from r on. -/
def rk (L : Int) : List Int → Int → Int
  | [], r => r
  | x :: xs, r => rk L xs (r * L + x + 1)
theorem rk_append (L : Int) (xs ys : List Int) (r : Int) : rk L (xs ++ ys) r = rk L ys (rk L xs r) := by
  induction xs generalizing r with
  | nil => rfl
  | cons x xs ih => simp only [List.cons_append, rk, ih]
theorem rk_lt {L : Int} (hL : 1 ≤ L) : ∀ (xs ys : List Int) (r s : Int), xs.length = ys.length → InL L xs → InL L ys → r < s → rk L xs r < rk L ys s
  | [], [], r, s, _, _, _, h => h
  | x :: xs, y :: ys, r, s, hl, hx, hy, h => by
    refine rk_lt hL xs ys _ _ (by simpa using hl) hx.tail hy.tail ?_
    have h1 : (r + 1) * L ≤ s * L := Int.mul_le_mul_of_nonneg_right (by omega) (by omega)
    rw [Int.add_mul, Int.one_mul] at h1
    have := hx.head
    have := hy.head
    omega
  | [], _ :: _, _, _, hl, _, _, _ => by simp at hl
  | _ :: _, [], _, _, hl, _, _, _ => by simp at hl
theorem rk_cmp {L : Int} (hL : 1 ≤ L) : ∀ (xs ys : List Int) (r : Int), xs.length = ys.length → InL L xs → InL L ys → (cmpL xs ys < 0 ∧ rk L xs r < rk L ys r) ∨ (cmpL xs ys = 0 ∧ rk L xs r = rk L ys r) ∨ (0 < cmpL xs ys ∧ rk L ys r < rk L xs r)
  | [], [], r, _, _, _ => .inr (.inl ⟨rfl, rfl⟩)
  | x :: xs, y :: ys, r, hl, hx, hy => by
    have hl' : xs.length = ys.length := by simpa using hl
    rw [cmpL]
    by_cases h1 : x < y
    · rw [if_pos h1]
      exact .inl ⟨by omega, rk_lt hL xs ys _ _ hl' hx.tail hy.tail (by omega)⟩
    · rw [if_neg h1]
      by_cases h2 : y < x
      · rw [if_pos h2]
        exact .inr (.inr ⟨by omega, rk_lt hL ys xs _ _ hl'.symm hy.tail hx.tail (by omega)⟩)
      · rw [if_neg h2]
        obtain rfl : x = y := by omega
        exact rk_cmp hL xs ys _ hl' hx.tail hy.tail
  | [], _ :: _, _, hl, _, _ => by simp at hl
  | _ :: _, [], _, hl, _, _ => by simp at hl
theorem rk_ge {L : Int} (hL : 1 ≤ L) : ∀ (xs : List Int) (r : Int), 0 ≤ r → InL L xs → r + xs.length ≤ rk L xs r
  | [], r, _, _ => by simp [rk]
  | x :: xs, r, h0, h => by
    have h1 : r * 1 ≤ r * L := Int.mul_le_mul_of_nonneg_left hL h0
    have h2 := h.head
    have := rk_ge hL xs (r * L + x + 1) (by omega) h.tail
    simp only [rk, List.length_cons]
    push_cast
    omega
theorem rk_short {L : Int} (hL : 1 ≤ L) {xs ys : List Int} (hl : xs.length < ys.length) (hx : InL L xs) (hy : InL L ys) : rk L xs 0 < rk L ys 0 := by
  have e : ys = ys.take (ys.length - xs.length) ++ ys.drop (ys.length - xs.length) := (List.take_append_drop _ _).symm
  have ht : InL L (ys.take (ys.length - xs.length)) := fun x h => hy x (List.mem_of_mem_take h)
  have hd : InL L (ys.drop (ys.length - xs.length)) := fun x h => hy x (List.mem_of_mem_drop h)
  have h1 := rk_ge hL _ 0 (by omega) ht
  rw [List.length_take] at h1
  rw [e, rk_append]
  exact rk_lt hL _ _ _ _ (by rw [List.length_drop]; omega) hx hd (by omega)
/-- The shortlex order and the order of ranks. -/
theorem short_rk {L : Int} (hL : 1 ≤ L) {xs ys : List Int} (hx : InL L xs) (hy : InL L ys) : (shortL xs ys < 0 ∧ rk L xs 0 < rk L ys 0) ∨ (shortL xs ys = 0 ∧ rk L xs 0 = rk L ys 0) ∨ (0 < shortL xs ys ∧ rk L ys 0 < rk L xs 0) := by
  unfold shortL
  by_cases h1 : xs.length < ys.length
  · rw [if_pos h1]; exact .inl ⟨by omega, rk_short hL h1 hx hy⟩
  · rw [if_neg h1]
    by_cases h2 : ys.length < xs.length
    · rw [if_pos h2]; exact .inr (.inr ⟨by omega, rk_short hL h2 hy hx⟩)
    · rw [if_neg h2]; exact rk_cmp hL xs ys 0 (by omega) hx hy
theorem rk_bound {L : Int} (hL : 1 ≤ L) (h4 : L ≤ 4) : ∀ (xs : List Int) (r : Int), 0 ≤ r → InL L xs → rk L xs r + 2 ≤ (r + 2) * 4 ^ xs.length
  | [], r, _, _ => by simp [rk]
  | x :: xs, r, h0, h => by
    have h1 : r * L ≤ r * 4 := Int.mul_le_mul_of_nonneg_left h4 h0
    have h3 : 0 ≤ r * L := Int.mul_nonneg h0 (by omega)
    have h2 := h.head
    have ih := rk_bound hL h4 xs (r * L + x + 1) (by omega) h.tail
    have hp : (0 : Int) ≤ 4 ^ xs.length := Int.pow_nonneg (by omega)
    have h5 : (r * L + x + 1 + 2) * 4 ^ xs.length ≤ ((r + 2) * 4) * 4 ^ xs.length := Int.mul_le_mul_of_nonneg_right (by omega) hp
    simp only [rk, List.length_cons]
    rw [Int.pow_succ, Int.mul_comm (4 ^ xs.length) 4, ← Int.mul_assoc]
    omega
theorem rk_small {L : Int} (hL : 1 ≤ L) (h4 : L ≤ 4) {xs : List Int} (hl : xs.length ≤ 8) (h : InL L xs) : 0 ≤ rk L xs 0 ∧ rk L xs 0 ≤ 200000 := by
  have h1 := rk_ge hL xs 0 (by omega) h
  have h2 := rk_bound hL h4 xs 0 (by omega) h
  refine ⟨by omega, ?_⟩
  have h3 : (4 : Int) ^ xs.length ≤ 65536 := by
    have : xs.length = 0 ∨ xs.length = 1 ∨ xs.length = 2 ∨ xs.length = 3 ∨ xs.length = 4 ∨ xs.length = 5 ∨ xs.length = 6 ∨ xs.length = 7 ∨ xs.length = 8 := by omega
    rcases this with e | e | e | e | e | e | e | e | e <;> rw [e] <;> decide
  omega
theorem rankGo_val {L : Int} (hL : 1 ≤ L) : ∀ (xs : List Int) (r : Int), 0 ≤ r → InL L xs → rk L xs r ≤ 1000000000000 → rankGo L xs r = (rk L xs r, 0)
  | [], r, _, _, _ => rfl
  | x :: xs, r, h0, h, hb => by
    have h3 : 0 ≤ r * L := Int.mul_nonneg h0 (by omega)
    have h2 := h.head
    have h4 := rk_ge hL xs (r * L + x + 1) (by omega) h.tail
    simp only [rk] at hb ⊢
    rw [rankGo, if_neg (by omega)]
    exact rankGo_val hL xs _ (by omega) h.tail hb
theorem wd_rk {L : Int} (hL : 1 ≤ L) : ∀ (f : Nat) (xs acc : List Int), xs.length ≤ f → InL L xs → wdGo L f (rk L xs 0) acc = some (acc ++ xs.reverse) := by
  intro f
  induction f with
  | zero =>
    intro xs acc hl _
    obtain rfl := List.eq_nil_of_length_eq_zero (Nat.le_zero.1 hl)
    simp [rk, wdGo]
  | succ f ih =>
    intro xs acc hl h
    rcases List.eq_nil_or_concat xs with rfl | ⟨ys, x, rfl⟩
    · simp [rk, wdGo]
    · simp only [List.concat_eq_append] at hl h ⊢
      have hx := h x (by simp)
      have hy : InL L ys := fun y hy => h y (by simp [hy])
      have hg := rk_ge hL ys 0 (by omega) hy
      have hm : 0 ≤ rk L ys 0 * L := Int.mul_nonneg (by omega) (by omega)
      have e : rk L (ys ++ [x]) 0 = rk L ys 0 * L + x + 1 := by rw [rk_append]; rfl
      have e1 : (rk L ys 0 * L + x + 1 - 1) / L = rk L ys 0 := by
        rw [show rk L ys 0 * L + x + 1 - 1 = x + rk L ys 0 * L by omega, Int.add_mul_ediv_right _ _ (by omega), Int.ediv_eq_zero_of_lt hx.1 hx.2]; omega
      have e2 : (rk L ys 0 * L + x + 1 - 1) % L = x := by
        rw [show rk L ys 0 * L + x + 1 - 1 = x + rk L ys 0 * L by omega, Int.add_mul_emod_self_right, Int.emod_eq_of_lt hx.1 hx.2]
      rw [e, wdGo_step _ _ (by omega), e1, e2, ih ys _ (by simpa using hl) hy]
      simp
theorem wd_back {L : Int} (hL : 1 ≤ L) (h4 : L ≤ 4) {xs : List Int} (hl : xs.length ≤ 8) (h : InL L xs) : wdL (rk L xs 0) L = xs ∧ wdC (rk L xs 0) L = 0 := by
  have hb := rk_small hL h4 hl h
  have hok : wdOk (rk L xs 0) L := ⟨⟨hb.1, by omega⟩, hL, by omega⟩
  have hr : wdR (rk L xs 0) L = some xs.reverse := by rw [wdR, wd_rk hL 400 xs [] (by omega) h]; simp
  constructor
  · rw [wdL, if_pos hok, hr]; simp
  · rw [wdC, if_pos hok, hr]
end Go.Proofs.Ytgfidlppocheoaa.Ints
