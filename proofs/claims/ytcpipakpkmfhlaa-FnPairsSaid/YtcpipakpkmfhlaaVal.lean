/- The values of lists of limbs, and that a natural is known by its value; nothing of the program is named here. -/
import Derived.Test.YtcpipakpkmfhlaaNat
namespace Go.Proofs.Ytcpipakpkmfhlaa.Ints
set_option linter.unusedVariables false

def val : List Int → Int
  | [] => 0
  | d :: l => d + 1000000 * val l
/-- The power k of the base of limbs. -/
def Pw : Nat → Int
  | 0 => 1
  | k + 1 => Pw k * 1000000
theorem Pw_pos (k : Nat) : 0 < Pw k := by
  induction k with
  | zero => decide
  | succ k ih => rw [Pw]; omega
theorem val_append (xs ys : List Int) : val (xs ++ ys) = val xs + Pw xs.length * val ys := by
  induction xs with
  | nil => simp [val, Pw]
  | cons d l ih =>
    rw [List.cons_append, val, val, ih, List.length_cons, Pw]
    rw [Int.mul_assoc, Int.mul_add, Int.mul_left_comm 1000000 (Pw l.length) (val ys), Int.add_assoc]
theorem val_snoc (xs : List Int) (d : Int) : val (xs ++ [d]) = val xs + Pw xs.length * d := by
  rw [val_append]; simp [val]
theorem val_take_succ (zs : List Int) (k : Nat) : val (zs.take (k + 1)) = val (zs.take k) + Pw k * zs.getD k 0 := by
  by_cases h : k < zs.length
  · rw [List.take_succ_eq_append_getElem h, val_snoc, List.length_take, Nat.min_eq_left (by omega)]
    simp [List.getD_eq_getElem?_getD, h]
  · rw [List.take_of_length_le (by omega), List.take_of_length_le (by omega), List.getD_eq_getElem?_getD, List.getElem?_eq_none (by omega)]
    simp
/-- One step of a sum with a carry. -/
theorem carry_step (X A P s : Int) (h : X = A) : X + P * (s % 1000000) + (P * 1000000) * (s / 1000000) = A + P * s := by
  have e : P * s = P * (s % 1000000) + (P * 1000000) * (s / 1000000) := by
    rw [Int.mul_assoc, ← Int.mul_add, Int.emod_add_mul_ediv]
  rw [h, e, Int.add_assoc]

/-- Limbs without a 0 at the end. -/
def Can (zs : List Int) : Prop := Dig 1000000 zs ∧ (zs.length = 0 ∨ zs.getD (zs.length - 1) 0 ≠ 0)
theorem Natl.can {zs : List Int} (h : Natl zs) : Can zs := h.2
theorem natB_can {zs : List Int} (h : natB zs = true) : Can zs ∧ zs.length ≤ 40 := by
  have : Natl zs := by simpa [natB] using h
  exact ⟨this.2, this.1⟩
theorem can_natB {zs : List Int} (h : Can zs) (hl : zs.length ≤ 40) : natB zs = true := natB_true ⟨hl, h⟩
theorem dig_cons {b d : Int} {l : List Int} (h : Dig b (d :: l)) : (0 ≤ d ∧ d < b) ∧ Dig b l :=
  ⟨by simpa using h 0 (by simp), fun i hi => by simpa using h (i + 1) (by simpa using hi)⟩
theorem can_cons {d : Int} {l : List Int} (h : Can (d :: l)) : (0 ≤ d ∧ d < 1000000) ∧ Can l ∧ (l = [] → d ≠ 0) := by
  obtain ⟨hd, hl⟩ := h
  refine ⟨(dig_cons hd).1, ⟨(dig_cons hd).2, ?_⟩, ?_⟩
  · cases l with
    | nil => exact .inl rfl
    | cons e l =>
      right
      rcases hl with h | h
      · simp at h
      · simpa using h
  · rintro rfl
    rcases hl with h | h
    · simp at h
    · simpa using h
theorem val_nonneg {zs : List Int} (h : Dig 1000000 zs) : 0 ≤ val zs := by
  induction zs with
  | nil => simp [val]
  | cons d l ih => have := ih (dig_cons h).2; have := (dig_cons h).1; rw [val]; omega
theorem can_zero {zs : List Int} (h : Can zs) (hv : val zs = 0) : zs = [] := by
  induction zs with
  | nil => rfl
  | cons d l ih =>
    obtain ⟨hd, hl, hn⟩ := can_cons h
    have h0 := val_nonneg hl.1
    rw [val] at hv
    exact absurd (by omega) (hn (ih hl (by omega)))
theorem can_uniq {xs ys : List Int} (hx : Can xs) (hy : Can ys) (h : val xs = val ys) : xs = ys := by
  induction xs generalizing ys with
  | nil => exact (can_zero hy (by rw [← h]; rfl)).symm
  | cons d l ih =>
    cases ys with
    | nil => exact can_zero hx (by rw [h]; rfl)
    | cons e m =>
      obtain ⟨hd, hl, _⟩ := can_cons hx
      obtain ⟨he, hm, _⟩ := can_cons hy
      rw [val, val] at h
      have h1 : d = e := by omega
      rw [h1, ih hl hm (by omega)]
open Classical in
/-- The natural with a value. -/
noncomputable def canOf (v : Int) : List Int := if h : ∃ zs, Can zs ∧ val zs = v then h.choose else []
theorem canOf_eq {zs : List Int} {v : Int} (h : Can zs) (hv : val zs = v) : canOf v = zs := by
  have hx : ∃ zs, Can zs ∧ val zs = v := ⟨zs, h, hv⟩
  unfold canOf
  rw [dif_pos hx]
  exact can_uniq hx.choose_spec.1 h (hx.choose_spec.2.trans hv.symm)
theorem can_nil : Can [] := ⟨fun i hi => by simp at hi, .inl rfl⟩

/-- The list without zeros at its end. -/
def trimN (zs : List Int) : Nat → Nat
  | 0 => 0
  | k + 1 => if zs.getD k 0 = 0 then trimN zs k else k + 1
theorem trimN_le (zs : List Int) (k : Nat) : trimN zs k ≤ k := by
  induction k with
  | zero => exact Nat.le_refl _
  | succ k ih => rw [trimN]; split <;> omega
def trim (zs : List Int) : List Int := zs.take (trimN zs zs.length)
theorem trimN_val (zs : List Int) (k : Nat) : val (zs.take (trimN zs k)) = val (zs.take k) := by
  induction k with
  | zero => rfl
  | succ k ih =>
    rw [trimN]
    split
    · next h => rw [ih, val_take_succ, h]; simp
    · rfl
theorem trim_val (zs : List Int) : val (trim zs) = val zs := by
  rw [trim, trimN_val, List.take_of_length_le (Nat.le_refl _)]
theorem trimN_last (zs : List Int) (k : Nat) : trimN zs k = 0 ∨ zs.getD (trimN zs k - 1) 0 ≠ 0 := by
  induction k with
  | zero => exact .inl rfl
  | succ k ih =>
    rw [trimN]
    split
    · exact ih
    · next h => exact .inr (by simpa using h)
theorem getD_take (zs : List Int) (n i : Nat) (h : i < n) : (zs.take n).getD i 0 = zs.getD i 0 := by
  simp [List.getD_eq_getElem?_getD, h]
theorem trim_can {zs : List Int} (h : Dig 1000000 zs) : Can (trim zs) := by
  have hle := trimN_le zs zs.length
  have hl : (trim zs).length = trimN zs zs.length := by rw [trim, List.length_take]; omega
  refine ⟨fun i hi => ?_, ?_⟩
  · rw [hl] at hi
    rw [trim, getD_take _ _ _ hi]
    exact h i (by omega)
  · rw [hl]
    rcases trimN_last zs zs.length with h0 | h0
    · exact .inl h0
    · by_cases hz : trimN zs zs.length = 0
      · exact .inl hz
      · right
        rw [trim, getD_take _ _ _ (by omega)]
        exact h0
theorem trim_length (zs : List Int) : (trim zs).length ≤ zs.length := by rw [trim, List.length_take]; omega
theorem Dig.fit {zs : List Int} (h : Dig 1000000 zs) : Fit zs := by
  intro z hz
  obtain ⟨i, hi, rfl⟩ := List.mem_iff_getElem.1 hz
  have := h i hi
  simp [List.getD_eq_getElem?_getD, hi] at this
  omega
theorem Dig.snoc {zs : List Int} {d : Int} (h : Dig 1000000 zs) (h0 : 0 ≤ d) (h1 : d < 1000000) : Dig 1000000 (zs ++ [d]) := by
  intro i hi
  by_cases hk : i < zs.length
  · have := h i hk
    simpa [List.getD_eq_getElem?_getD, List.getElem?_append_left hk] using this
  · have : i = zs.length := by simp at hi; omega
    subst this
    simp [List.getD_eq_getElem?_getD, h0, h1]
theorem last_snoc (zs : List Int) (d : Int) : (zs ++ [d]).getD ((zs ++ [d]).length - 1) 0 = d := by
  simp [List.getD_eq_getElem?_getD]
end Go.Proofs.Ytcpipakpkmfhlaa.Ints
