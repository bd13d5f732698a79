/- The contract of the program's sum of limbs. -/
import Derived.Test.YtoppaipiibaocaaTrim
namespace Go.Proofs.Ytoppaipiibaocaa.Ints
open Go.RowKit
set_option linter.unusedVariables false

theorem sizeE : (Try.prog.info? 2).map (·.size) = some 1 := by kernel_rfl
theorem row_full {w : World} {B g n : Nat} {xs : List Value} (h : w.ownsRow B 2 1 (.slice (some ⟨g, 0, none⟩) n n) n xs) : w.heap[g]? = some (.cells xs.toArray 2 (0, 0)) := by
  rcases h.2 with ⟨h', _⟩ | ⟨g', cap', cur, h', hb, hg, hn, hm, hs, hk⟩
  · simp at h'
  · simp only [Value.slice.injEq, Option.some.injEq, Addr.mk.injEq, and_true, true_and] at h'
    obtain ⟨rfl, rfl⟩ := h'
    rw [hg, ← hk, List.take_of_length_le (by simp; omega)]
theorem Pw_mono {a b : Nat} (h : a ≤ b) : Pw a ≤ Pw b := by
  induction b with
  | zero => rw [Nat.le_zero.1 h]; exact Int.le_refl _
  | succ b ih =>
    by_cases e : a = b + 1
    · rw [e]; exact Int.le_refl _
    · have := ih (by omega)
      have := Pw_pos b
      rw [Pw]; omega
theorem val_lt {zs : List Int} (h : Dig 1000000 zs) : val zs < Pw zs.length := by
  induction zs with
  | nil => simp [val, Pw]
  | cons d l ih =>
    have := ih (dig_cons h).2
    have := (dig_cons h).1
    rw [val, List.length_cons, Pw]; omega
theorem val_zeros (zs : List Int) (k : Nat) : val (zs ++ List.replicate k 0) = val zs := by
  have : ∀ k, val (List.replicate k 0) = 0 := by
    intro k
    induction k with
    | zero => rfl
    | succ k ih => rw [List.replicate_succ, val, ih]; rfl
  rw [val_append, this]; simp
theorem no_carry {V P c S : Int} (h : V + P * c = S) (v0 : 0 ≤ V) (v1 : V < P) (s0 : 0 ≤ S) (s1 : S < P) : c = 0 := by
  rcases Int.lt_trichotomy c 0 with hc | hc | hc
  · have : P * c ≤ P * (-1) := Int.mul_le_mul_of_nonneg_left (by omega) (by omega)
    omega
  · exact hc
  · have : P * 1 ≤ P * c := Int.mul_le_mul_of_nonneg_left (by omega) (by omega)
    omega
theorem dig_zeros {zs : List Int} (h : Dig 1000000 zs) (k : Nat) : ∀ j, 0 ≤ (zs ++ List.replicate k 0).getD j 0 ∧ (zs ++ List.replicate k 0).getD j 0 < 1000000 := by
  intro j
  by_cases hj : j < zs.length
  · have := h j hj
    simpa [List.getD_eq_getElem?_getD, List.getElem?_append_left hj] using this
  · rw [List.getD_eq_getElem?_getD, List.getElem?_append_right (by omega)]
    by_cases h2 : j - zs.length < k
    · simp [h2]
    · simp [h2]
theorem ti_dig {Z T : List Int} {t : Int} {n : Nat} {c : Int} {Y : List Int} (h : TI Z T t 0 n n c Y) (hl : Y.length = n) : Dig 1000000 Y := by
  intro i hi
  have := h.dig i (by omega)
  rwa [Nat.zero_add] at this
theorem sum_val {ps qs : List Int} {N : Nat} {c : Int} {Y : List Int} (h : TI (ps ++ List.replicate (N - ps.length) 0) qs 1 0 N N c Y) (hN : N = max ps.length qs.length + 1) (hp : Dig 1000000 ps) (hq : Dig 1000000 qs) :
    canOf (val ps + val qs) = trim Y ∧ Y.length = N ∧ Dig 1000000 Y := by
  have hl : Y.length = N := by rw [h.len]; simp; omega
  have hd := ti_dig h hl
  have hs := h.sum
  rw [sg_all Y N (by omega), sg_all _ N (by simp; omega), val_zeros, sg_all qs N (by omega)] at hs
  have a1 := val_nonneg hp
  have a2 := val_nonneg hq
  have a3 := val_nonneg hd
  have b1 := val_lt hp
  have b2 := val_lt hq
  have b3 := val_lt hd
  have c1 := Pw_mono (show ps.length ≤ max ps.length qs.length by omega)
  have c2 := Pw_mono (show qs.length ≤ max ps.length qs.length by omega)
  have hP : Pw N = Pw (max ps.length qs.length) * 1000000 := by rw [hN, Pw]
  rw [hl] at b3
  have hc : c = 0 := no_carry hs a3 b3 (by omega) (by omega)
  subst hc
  exact ⟨canOf_eq (trim_can hd) (by rw [trim_val]; omega), hl, hd⟩

end Go.Proofs.Ytoppaipiibaocaa.Ints
