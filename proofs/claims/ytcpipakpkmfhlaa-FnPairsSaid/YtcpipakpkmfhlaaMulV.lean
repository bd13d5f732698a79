/- Plain lemmas on products: the rows of a product, added one after the other. -/
import Derived.Test.YtcpipakpkmfhlaaAddL
namespace Go.Proofs.Ytcpipakpkmfhlaa.Ints
set_option linter.unusedVariables false

theorem Pw_add (i n : Nat) : Pw (i + n) = Pw i * Pw n := by
  induction n with
  | zero => simp [Pw]
  | succ n ih => rw [← Nat.add_assoc, Pw, Pw, ih, Int.mul_assoc]
theorem sg_split (Z : List Int) (i n : Nat) : sg Z 0 (i + n) = sg Z 0 i + Pw i * sg Z i n := by
  induction n with
  | zero => simp [sg]
  | succ n ih => rw [← Nat.add_assoc, sg, ih, sg, Nat.zero_add, Pw_add, Int.mul_add, Int.mul_assoc, Int.add_assoc]
theorem sg_nonneg {Z : List Int} {o n : Nat} (h : ∀ j, j < n → 0 ≤ Z.getD (o + j) 0) : 0 ≤ sg Z o n := by
  induction n with
  | zero => exact Int.le_refl _
  | succ n ih =>
    rw [sg]
    have a := ih (fun j hj => h j (by omega))
    have b := Int.mul_nonneg (Int.le_of_lt (Pw_pos n)) (h n (by omega))
    omega
theorem sg_le {Z : List Int} {o k n : Nat} (hk : k ≤ n) (h : ∀ j, j < n → 0 ≤ Z.getD (o + j) 0) : sg Z o k ≤ sg Z o n := by
  induction n with
  | zero => rw [Nat.le_zero.1 hk]; exact Int.le_refl _
  | succ n ih =>
    by_cases e : k = n + 1
    · rw [e]; exact Int.le_refl _
    · have a := ih (by omega) (fun j hj => h j (by omega))
      have b := Int.mul_nonneg (Int.le_of_lt (Pw_pos n)) (h n (by omega))
      rw [sg]; omega
theorem val_sg {Z : List Int} {i n : Nat} (h : i + n = Z.length) : val Z = sg Z 0 i + Pw i * sg Z i n := by
  rw [← sg_split, sg_all Z (i + n) (by omega)]
theorem dig_all {Z : List Int} (h : Dig 1000000 Z) (j : Nat) : 0 ≤ Z.getD j 0 ∧ Z.getD j 0 < 1000000 := by
  by_cases hj : j < Z.length
  · exact h j hj
  · rw [List.getD_eq_getElem?_getD, List.getElem?_eq_none (by omega)]; simp
theorem dig_take {zs : List Int} (h : Dig 1000000 zs) (k : Nat) : Dig 1000000 (zs.take k) := by
  intro i hi
  rw [List.length_take] at hi
  rw [getD_take _ _ _ (by omega)]
  exact h i (by omega)
theorem mul_lt {a b P Q : Int} (a0 : 0 ≤ a) (a1 : a < P) (b0 : 0 ≤ b) (b1 : b < Q) : a * b < P * Q := by
  have h1 : a * b ≤ P * b := Int.mul_le_mul_of_nonneg_right (by omega) b0
  have h2 : P * b < P * Q := Int.mul_lt_mul_of_pos_left b1 (by omega)
  omega
theorem take_lt {ps qs : List Int} (hp : Dig 1000000 ps) (hq : Dig 1000000 qs) (i : Nat) (hi : i ≤ ps.length) : 0 ≤ val (ps.take i) * val qs ∧ val (ps.take i) * val qs < Pw (i + qs.length) := by
  have d := dig_take hp i
  have a0 := val_nonneg d
  have a1 := val_lt d
  rw [List.length_take, Nat.min_eq_left hi] at a1
  exact ⟨Int.mul_nonneg a0 (val_nonneg hq), by rw [Pw_add]; exact mul_lt a0 a1 (val_nonneg hq) (val_lt hq)⟩

/-- What a product is behind i rows. -/
structure MI (ps qs Z : List Int) (N i : Nat) : Prop where
  len : Z.length = N
  dig : Dig 1000000 Z
  sum : val Z = val (ps.take i) * val qs
theorem MI.start (ps qs : List Int) (N : Nat) : MI ps qs (List.replicate N 0) N 0 := by
  refine ⟨by simp, fun i hi => ?_, ?_⟩
  · simp at hi
    simp [List.getD_eq_getElem?_getD, hi]
  · have := val_zeros [] N
    rw [List.nil_append] at this
    rw [this]; simp [val]
theorem MI.bound {ps qs Z : List Int} {N i : Nat} (h : MI ps qs Z N i) (hi : i ≤ ps.length) (hN : ps.length ≤ N) (hp : Dig 1000000 ps) (hq : Dig 1000000 qs) : sg Z i (N - i) < Pw qs.length := by
  have h1 := (take_lt hp hq i hi).2
  rw [← h.sum, val_sg (Z := Z) (i := i) (n := N - i) (by rw [h.len]; omega), Pw_add] at h1
  have h2 : 0 ≤ sg Z 0 i := sg_nonneg (fun j _ => (dig_all h.dig _).1)
  have h3 : Pw i * sg Z i (N - i) < Pw i * Pw qs.length := by omega
  exact Int.lt_of_mul_lt_mul_left h3 (Int.le_of_lt (Pw_pos i))
theorem MI.row {ps qs Z Y : List Int} {N i : Nat} {c : Int} (h : MI ps qs Z N i) (hi : i < ps.length) (hN : ps.length + qs.length ≤ N) (hp : Dig 1000000 ps) (hq : Dig 1000000 qs)
    (hti : TI Z qs (ps.getD i 0) i (N - i) (N - i) c Y) : c = 0 ∧ MI ps qs Y N (i + 1) := by
  have hl : Y.length = N := by rw [hti.len, h.len]
  have hd : Dig 1000000 Y := by
    intro j hj
    by_cases hji : j < i
    · rw [hti.out j (.inl hji)]; exact dig_all h.dig j
    · have := hti.dig (j - i) (by omega)
      rwa [show i + (j - i) = j by omega] at this
  have hs := hti.sum
  rw [sg_all qs _ (by omega)] at hs
  have e1 : sg Y 0 i = sg Z 0 i := sg_same (fun j hj => by rw [Nat.zero_add]; exact hti.out j (.inl hj))
  have v1 := val_sg (Z := Y) (i := i) (n := N - i) (by omega)
  have v2 := val_sg (Z := Z) (i := i) (n := N - i) (by rw [h.len]; omega)
  have hP : Pw N = Pw i * Pw (N - i) := by rw [← Pw_add, show i + (N - i) = N by omega]
  have hs2 : val Y + Pw N * c = val (ps.take (i + 1)) * val qs := by
    have e2 : Pw i * sg Y i (N - i) + Pw i * (Pw (N - i) * c) = Pw i * sg Z i (N - i) + Pw i * (ps.getD i 0 * val qs) := by rw [← Int.mul_add, hs, Int.mul_add]
    have e3 : Pw N * c = Pw i * (Pw (N - i) * c) := by rw [hP, Int.mul_assoc]
    have e4 : val (ps.take (i + 1)) * val qs = val Z + Pw i * (ps.getD i 0 * val qs) := by rw [val_take_succ, Int.add_mul, h.sum, Int.mul_assoc]
    omega
  obtain ⟨b0, b1⟩ := take_lt hp hq (i + 1) (by omega)
  have b2 := Pw_mono (show i + 1 + qs.length ≤ N by omega)
  have b3 := val_lt hd
  rw [hl] at b3
  have hc : c = 0 := no_carry hs2 (val_nonneg hd) b3 b0 (by omega)
  subst hc
  exact ⟨rfl, hl, hd, by omega⟩
theorem MI.inner {ps qs Z Y : List Int} {N i k : Nat} {c : Int} (h : MI ps qs Z N i) (hi : i < ps.length) (hN : ps.length + qs.length ≤ N) (hp : Dig 1000000 ps) (hq : Dig 1000000 qs)
    (hti : TI Z qs (ps.getD i 0) i (N - i) k c Y) (hk : k ≤ N - i) (hk1 : qs.length + 1 ≤ k) (c0 : 0 ≤ c) : c = 0 := by
  have hs := hti.sum
  rw [sg_all qs _ (by omega)] at hs
  have b1 := h.bound (by omega) (by omega) hp hq
  have b2 : sg Z i k ≤ sg Z i (N - i) := sg_le hk (fun j _ => (dig_all h.dig _).1)
  have b3 : 0 ≤ sg Y i k := sg_nonneg (fun j hj => (hti.dig j hj).1)
  have t1 := hp i hi
  have q0 := val_nonneg hq
  have q1 := val_lt hq
  have b4 : ps.getD i 0 * val qs ≤ 999999 * val qs := Int.mul_le_mul_of_nonneg_right (by omega) q0
  have b5 := Pw_mono hk1
  rw [Pw] at b5
  by_cases h0 : c = 0
  · exact h0
  · have : Pw k * 1 ≤ Pw k * c := Int.mul_le_mul_of_nonneg_left (by omega) (Int.le_of_lt (Pw_pos k))
    omega
theorem MI.done {ps qs Z : List Int} {N : Nat} (h : MI ps qs Z N ps.length) : canOf (val ps * val qs) = trim Z := by
  have := h.sum
  rw [List.take_of_length_le (Nat.le_refl _)] at this
  exact canOf_eq (trim_can h.dig) (by rw [trim_val]; exact this)
end Go.Proofs.Ytcpipakpkmfhlaa.Ints
