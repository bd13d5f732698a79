/- Square roots: values and plain lemmas. -/
import Derived.Test.YtcpipakpkmfhlaaDvN
import Derived.Test.YtcpipakpkmfhlaaVcalc
namespace Go.Proofs.Ytcpipakpkmfhlaa.Ints
open Go.RowKit
set_option linter.unusedVariables false
set_option linter.unusedSimpArgs false
theorem isq_ex : ∀ N : Nat, ∃ r : Nat, r * r ≤ N ∧ N < (r + 1) * (r + 1)
  | 0 => ⟨0, by simp, by simp⟩
  | N + 1 => by
    obtain ⟨r, h1, h2⟩ := isq_ex N
    by_cases h : N + 1 < (r + 1) * (r + 1)
    · exact ⟨r, by omega, h⟩
    · refine ⟨r + 1, by omega, ?_⟩
      have e : (r + 1 + 1) * (r + 1 + 1) = (r + 1) * (r + 1) + (2 * r + 3) := by
        simp only [Nat.mul_add, Nat.add_mul, Nat.mul_one, Nat.one_mul]; omega
      omega
noncomputable def isq (N : Int) : Int := ((isq_ex N.toNat).choose : Nat)
theorem sq_le {a b : Int} (h0 : 0 ≤ a) (h : a ≤ b) : a * a ≤ b * b := Int.mul_le_mul h h h0 (by omega)
theorem isq_spec {N : Int} (h : 0 ≤ N) : 0 ≤ isq N ∧ isq N * isq N ≤ N ∧ N < (isq N + 1) * (isq N + 1) := by
  obtain ⟨h1, h2⟩ := (isq_ex N.toNat).choose_spec
  refine ⟨Int.natCast_nonneg _, ?_, ?_⟩
  · have : (((isq_ex N.toNat).choose * (isq_ex N.toNat).choose : Nat) : Int) ≤ (N.toNat : Int) := Int.ofNat_le.2 h1
    rw [Int.toNat_of_nonneg h] at this
    simpa [isq] using this
  · have : (N.toNat : Int) < ((((isq_ex N.toNat).choose + 1) * ((isq_ex N.toNat).choose + 1) : Nat) : Int) := Int.ofNat_lt.2 h2
    rw [Int.toNat_of_nonneg h] at this
    simpa [isq] using this
theorem isq_uniq {N r : Int} (h0 : 0 ≤ r) (h1 : r * r ≤ N) (h2 : N < (r + 1) * (r + 1)) : isq N = r := by
  have hN : 0 ≤ N := Int.le_trans (Int.mul_nonneg h0 h0) h1
  obtain ⟨s0, s1, s2⟩ := isq_spec hN
  rcases Int.lt_trichotomy (isq N) r with h | h | h
  · have := sq_le (a := isq N + 1) (b := r) (by omega) (by omega); omega
  · exact h
  · have := sq_le (a := r + 1) (b := isq N) (by omega) (by omega); omega
theorem isq_fit {N : Int} {k : Nat} (h : 0 ≤ N) (hk : N < Pw (k + k)) : isq N < Pw k := by
  obtain ⟨s0, s1, s2⟩ := isq_spec h
  rcases Int.lt_or_le (isq N) (Pw k) with hl | hl
  · exact hl
  · have h1 := sq_le (a := Pw k) (b := isq N) (by have := Pw_pos k; omega) hl
    rw [Pw_add] at hk
    omega
theorem val_set : ∀ (X : List Int) (i : Nat) (c : Int), i < X.length → val (X.set i c) = val X + Pw i * (c - X.getD i 0)
  | [], i, c, h => by simp at h
  | x :: xs, 0, c, h => by simp [val, Pw]; omega
  | x :: xs, i + 1, c, h => by
    simp only [List.length_cons] at h
    have ih := val_set xs i c (by omega)
    rw [List.set_cons_succ, val, val, ih, List.getD_cons_succ, Pw, Int.mul_add, Int.mul_comm (Pw i) 1000000, Int.mul_assoc]
    omega
/-- The model's root when m limbs are still to come. -/
structure RtI (N : Int) (L m : Nat) (X : List Int) : Prop where
  len : X.length = L
  dig : Dig 1000000 X
  low : ∀ j, j < m → X.getD j 0 = 0
  le : val X * val X ≤ N
  lt : N < (val X + Pw m) * (val X + Pw m)
theorem val_rep : ∀ L : Nat, val (List.replicate L 0) = 0
  | 0 => rfl
  | L + 1 => by rw [List.replicate_succ, val, val_rep L]; rfl
theorem RtI.start {N : Int} {L : Nat} (h : 0 ≤ N) (hL : N < Pw (L + L)) : RtI N L L (List.replicate L 0) := by
  refine ⟨by simp, fun i hi => ?_, fun j hj => ?_, by rw [val_rep]; omega, by rw [val_rep, Int.zero_add, ← Pw_add]; exact hL⟩
  · simp only [List.length_replicate] at hi
    simp [List.getD_eq_getElem?_getD, hi]
  · simp [List.getD_eq_getElem?_getD, hj]
theorem RtI.done {N : Int} {L : Nat} {X : List Int} (h : RtI N L 0 X) : canOf (isq N) = trim X := by
  have h1 := h.lt
  rw [Pw] at h1
  rw [isq_uniq (val_nonneg h.dig) h.le h1]
  exact canOf_eq (trim_can h.dig) (trim_val X)
/-- Between the bounds of the search for a limb. -/
structure RtB (N R P lo hi : Int) : Prop where
  l0 : 0 ≤ lo
  lh : lo ≤ hi
  h1 : hi ≤ 999999
  le : (R + P * lo) * (R + P * lo) ≤ N
  lt : N < (R + P * (hi + 1)) * (R + P * (hi + 1))
theorem RtB.start {N : Int} {L m : Nat} {X : List Int} (h : RtI N L (m + 1) X) : RtB N (val X) (Pw m) 0 999999 := by
  refine ⟨by omega, by omega, by omega, by rw [Int.mul_zero, Int.add_zero]; exact h.le, ?_⟩
  have := h.lt
  rw [Pw] at this
  rw [show (999999 : Int) + 1 = 1000000 by rfl]
  exact this
theorem RtB.up {N R P lo hi m : Int} (h : RtB N R P lo hi) (hm0 : lo ≤ m) (hm1 : m ≤ hi) (hr : (R + P * m) * (R + P * m) ≤ N) : RtB N R P m hi := ⟨by have := h.l0; omega, hm1, h.h1, hr, h.lt⟩
theorem RtB.down {N R P lo hi m : Int} (h : RtB N R P lo hi) (hm0 : lo < m) (hm1 : m ≤ hi) (hr : ¬ (R + P * m) * (R + P * m) ≤ N) : RtB N R P lo (m - 1) :=
  ⟨h.l0, by omega, by have := h.h1; omega, h.le, by rw [show m - 1 + 1 = m by omega]; omega⟩
theorem dig_set {X : List Int} {i : Nat} {c : Int} (h : Dig 1000000 X) (hi : i < X.length) (c0 : 0 ≤ c) (c1 : c ≤ 999999) : Dig 1000000 (X.set i c) := fun j hj => by
  rw [getD_set _ _ _ _ hi]
  by_cases e : i = j
  · rw [if_pos e]; omega
  · rw [if_neg e]; exact h j (by rwa [List.length_set] at hj)
theorem RtI.cand {N : Int} {L m : Nat} {X : List Int} (h : RtI N L (m + 1) X) (hm : m < L) {c : Int} (c0 : 0 ≤ c) (c1 : c ≤ 999999) : Dig 1000000 (X.set m c) ∧ val (X.set m c) = val X + Pw m * c := by
  refine ⟨dig_set h.dig (by rw [h.len]; exact hm) c0 c1, ?_⟩
  rw [val_set X m c (by rw [h.len]; exact hm), h.low m (by omega)]
  simp
theorem RtB.done {N : Int} {L m : Nat} {X : List Int} {lo hi : Int} (h : RtI N L (m + 1) X) (hm : m < L) (b : RtB N (val X) (Pw m) lo hi) (he : ¬ lo < hi) : RtI N L m (X.set m lo) := by
  have l0 := b.l0
  have h1 := b.h1
  obtain rfl : lo = hi := by have := b.lh; omega
  obtain ⟨d, v⟩ := h.cand hm l0 h1
  refine ⟨by rw [List.length_set, h.len], d, fun j hj => ?_, by rw [v]; exact b.le, ?_⟩
  · rw [getD_set _ _ _ _ (by rw [h.len]; exact hm), if_neg (by omega)]
    exact h.low j (by omega)
  · have := b.lt
    have e : val X + Pw m * (lo + 1) = val X + Pw m * lo + Pw m := by rw [Int.mul_add, Int.mul_one]; omega
    rw [e] at this
    rw [v]; exact this
/-- Newton's step: from above it stays above, and where it does not fall the root is reached. -/
theorem newton_ge {N x : Int} (h : 0 ≤ N) (x0 : 0 < x) (hx : isq N ≤ x) : isq N ≤ (x + N / x) / 2 := by
  obtain ⟨s0, s1, s2⟩ := isq_spec h
  have q0 : 0 ≤ N / x := Int.ediv_nonneg h (by omega)
  obtain ⟨r, hr⟩ : ∃ r, r = isq N := ⟨_, rfl⟩
  rw [← hr] at s0 s1 hx ⊢
  have hk : 2 * r - x ≤ N / x := by
    apply Int.le_ediv_of_mul_le x0
    have e : (2 * r - x) * x = r * r - (r - x) * (r - x) := by
      rw [Int.sub_mul, Int.sub_mul, Int.mul_sub, Int.mul_sub, Int.mul_assoc, Int.mul_comm x r]
      omega
    have hsq : 0 ≤ (r - x) * (r - x) := by
      rcases Int.le_total 0 (r - x) with hz | hz
      · exact Int.mul_nonneg hz hz
      · have := Int.mul_nonneg (show 0 ≤ -(r - x) by omega) (show 0 ≤ -(r - x) by omega)
        rwa [Int.neg_mul_neg] at this
    omega
  omega
theorem newton_stop {N x : Int} (h : 0 ≤ N) (x0 : 0 < x) (hx : isq N ≤ x) (hs : x ≤ (x + N / x) / 2) : x = isq N := by
  obtain ⟨s0, s1, s2⟩ := isq_spec h
  have h1 : x ≤ N / x := by omega
  have h2 : x * x ≤ N := by
    have := Int.mul_le_mul_of_nonneg_right h1 (show 0 ≤ x by omega)
    have h3 := Int.ediv_mul_le N (show x ≠ 0 by omega)
    omega
  rcases Int.lt_or_le (isq N) x with hl | hl
  · have := sq_le (a := isq N + 1) (b := x) (by omega) (by omega); omega
  · omega
theorem isq_pos {N : Int} (h : 1 ≤ N) : 1 ≤ isq N := by
  obtain ⟨s0, s1, s2⟩ := isq_spec (N := N) (by omega)
  rcases Int.lt_or_le 0 (isq N) with hl | hl
  · exact hl
  · have : isq N = 0 := by omega
    rw [this] at s2
    omega
end Go.Proofs.Ytcpipakpkmfhlaa.Ints
