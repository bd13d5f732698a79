/- Long division by several limbs: what a step makes. -/
import Derived.Test.YtcpipakpkmfhlaaTake
import Derived.Test.YtcpipakpkmfhlaaByV
import Derived.Test.YtcpipakpkmfhlaaCan
namespace Go.Proofs.Ytcpipakpkmfhlaa.Ints
open Go.RowKit
set_option linter.unusedVariables false
set_option linter.unusedSimpArgs false
theorem sg_cat (Z : List Int) (o i : Nat) : ∀ n, sg Z o (i + n) = sg Z o i + Pw i * sg Z (o + i) n
  | 0 => by simp [sg]
  | n + 1 => by
    rw [show i + (n + 1) = (i + n) + 1 by omega, sg, sg_cat Z o i n, sg, Pw_add, show o + (i + n) = o + i + n by omega, Int.mul_add, Int.mul_assoc]
    omega
theorem sg_head (Z : List Int) (o n : Nat) : sg Z o (n + 1) = Z.getD o 0 + 1000000 * sg Z (o + 1) n := by
  rw [show n + 1 = 1 + n by omega, sg_cat]
  simp [sg, Pw]
/-- What has been divided when m limbs of the quotient are still to come. -/
structure DvI (ps qs Z Y : List Int) (n m : Nat) : Prop where
  zl : Z.length = ps.length + 1
  yl : Y.length = n
  zd : Dig 1000000 Z
  yd : ∀ j, m ≤ j → j < n → 0 ≤ Y.getD j 0 ∧ Y.getD j 0 < 1000000
  top : sg Z m (ps.length + 1 - m) < val qs
  eq : val Z + val qs * (Pw m * val (Y.drop m)) = val ps
theorem val_zero (ps : List Int) : val (ps ++ [0]) = val ps := by rw [val_snoc]; simp
theorem DvI.start {ps qs : List Int} {n : Nat} (hp : Dig 1000000 ps) (hq : Can qs) (h2 : 2 ≤ qs.length) (hn : n + qs.length = ps.length + 1) : DvI ps qs (ps ++ [0]) (List.replicate n 0) n n := by
  have hd : Dig 1000000 (ps ++ [0]) := hp.snoc (by omega) (by omega)
  refine ⟨by simp, by simp, hd, fun j a b => by omega, ?_, ?_⟩
  · have e : ps.length + 1 - n = (qs.length - 1) + 1 := by omega
    have e2 : n + (qs.length - 1) = ps.length := by omega
    rw [e, sg, e2]
    have h0 : (ps ++ [0]).getD ps.length 0 = 0 := by simp [List.getD_eq_getElem?_getD]
    rw [h0, Int.mul_zero, Int.add_zero]
    have h1 := sg_lt (Y := ps ++ [0]) (o := n) (qs.length - 1) (fun j hj => hd (n + j) (by simp; omega))
    have h3 := can_ge hq (by omega)
    omega
  · rw [List.drop_eq_nil_of_le (by simp)]
    simp [val, val_zero]
theorem DvI.win {ps qs Z Y : List Int} {n m : Nat} (h : DvI ps qs Z Y n (m + 1)) (hq : Can qs) (hl : 2 ≤ qs.length) (hn : n + qs.length = ps.length + 1) (hm : m < n) :
    sg Z m (qs.length + 1) < val qs * 1000000 ∧ 0 ≤ sg Z m (qs.length + 1) ∧ sg Z (m + qs.length + 1) (ps.length - m - qs.length) = 0 := by
  have hd : ∀ o j, o + j < ps.length + 1 → 0 ≤ Z.getD (o + j) 0 ∧ Z.getD (o + j) 0 < 1000000 := fun o j hj => h.zd (o + j) (by rw [h.zl]; exact hj)
  have e : ps.length + 1 - (m + 1) = qs.length + (ps.length - m - qs.length) := by omega
  have h1 := h.top
  rw [e, sg_cat] at h1
  have a0 : 0 ≤ sg Z (m + 1) qs.length := sg_nonneg (fun j hj => (hd (m + 1) j (by omega)).1)
  have b0 : 0 ≤ sg Z (m + 1 + qs.length) (ps.length - m - qs.length) := sg_nonneg (fun j hj => (hd (m + 1 + qs.length) j (by omega)).1)
  have hv := val_lt hq.1
  have hP := Pw_pos qs.length
  have hz : sg Z (m + 1 + qs.length) (ps.length - m - qs.length) = 0 := by
    rcases Int.lt_or_le 0 (sg Z (m + 1 + qs.length) (ps.length - m - qs.length)) with hl | hl
    · exfalso
      have : Pw qs.length * 1 ≤ Pw qs.length * sg Z (m + 1 + qs.length) (ps.length - m - qs.length) := Int.mul_le_mul_of_nonneg_left (by omega) (by omega)
      omega
    · omega
  rw [hz, Int.mul_zero, Int.add_zero] at h1
  have d0 := hd m 0 (by omega)
  rw [Nat.add_zero] at d0
  refine ⟨?_, ?_, by rw [show m + qs.length + 1 = m + 1 + qs.length by omega]; exact hz⟩
  · rw [sg_head]; omega
  · rw [sg_head]; omega
theorem DvI.step {ps qs Z Z2 Y : List Int} {n m g K : Nat} {w w' : World} (h : DvI ps qs Z Y n (m + 1)) (hq : Can qs) (hl : 2 ≤ qs.length) (hn : n + qs.length = ps.length + 1) (hm : m < n)
    (ht : TakePost Z qs m (qs.length + 1) g K w w' Z2) : DvI ps qs Z2 (Y.set m (sg Z m (qs.length + 1) / val qs)) n m := by
  obtain ⟨w1, w0, hz⟩ := h.win hq hl hn hm
  have hvp : 0 < val qs := val_pos hq (by omega)
  obtain ⟨W, hW⟩ : ∃ W, W = sg Z m (qs.length + 1) := ⟨_, rfl⟩
  have hrest := ht.rest
  rw [← hW] at w1 w0 hrest ⊢
  have q0 : 0 ≤ W / val qs := Int.ediv_nonneg w0 (by omega)
  have q1 : W / val qs < 1000000 := Int.ediv_lt_of_lt_mul hvp (by rw [Int.mul_comm]; exact w1)
  have hml : m < Y.length := by rw [h.yl]; exact hm
  have hz2 : sg Z2 (m + qs.length + 1) (ps.length - m - qs.length) = 0 := by
    rw [sg_same (Z := Z) (fun j hj => ht.out _ (.inr (by omega)))]; exact hz
  have hlow : sg Z2 0 m = sg Z 0 m := sg_same (fun j hj => ht.out _ (.inl (by omega)))
  have e : ps.length + 1 - m = (qs.length + 1) + (ps.length - m - qs.length) := by omega
  have ez : m + (ps.length + 1 - m) = ps.length + 1 := by omega
  have et : ∀ X : List Int, sg X (m + qs.length + 1) (ps.length - m - qs.length) = 0 → sg X m (ps.length + 1 - m) = sg X m (qs.length + 1) := fun X hX => by
    rw [e, sg_cat, show m + (qs.length + 1) = m + qs.length + 1 by omega, hX, Int.mul_zero, Int.add_zero]
  have v1 : val Z = sg Z 0 m + Pw m * W := by
    rw [hW, ← et Z hz, ← sg_split, ez]; exact (sg_all Z _ (by rw [h.zl]; exact Nat.le_refl _)).symm
  have v2 : val Z2 = sg Z 0 m + Pw m * (W % val qs) := by
    rw [← hrest, ← et Z2 hz2, ← hlow, ← sg_split, ez]; exact (sg_all Z2 _ (by rw [ht.len, h.zl]; exact Nat.le_refl _)).symm
  refine ⟨by rw [ht.len, h.zl], by rw [List.length_set, h.yl], ?_, ?_, ?_, ?_⟩
  · intro j hj
    rw [ht.len] at hj
    by_cases h1 : j < m ∨ m + (qs.length + 1) ≤ j
    · rw [ht.out j h1]; exact h.zd j hj
    · have := ht.dig (j - m) (by omega)
      rwa [show m + (j - m) = j by omega] at this
  · intro j a b
    rw [getD_set _ _ _ _ hml]
    by_cases h1 : m = j
    · rw [if_pos h1]; exact ⟨q0, q1⟩
    · rw [if_neg h1]; exact h.yd j (by omega) b
  · rw [et Z2 hz2, hrest]; exact Int.emod_lt_of_pos _ hvp
  · rw [drop_set Y m _ hml, val, v2]
    have h3 := h.eq
    rw [v1] at h3
    obtain ⟨V, hV⟩ : ∃ V, V = val (Y.drop (m + 1)) := ⟨_, rfl⟩
    rw [← hV] at h3 ⊢
    have h4 := Int.emod_add_mul_ediv W (val qs)
    obtain ⟨q, hq'⟩ : ∃ q, q = W / val qs := ⟨_, rfl⟩
    obtain ⟨r, hr'⟩ : ∃ r, r = W % val qs := ⟨_, rfl⟩
    rw [← hq', ← hr'] at h4
    rw [← hq', ← hr', ← h3, ← h4, Pw, Int.mul_add, Int.mul_add (Pw m), Int.mul_add]
    have e1 : Pw m * (val qs * q) = val qs * (Pw m * q) := by
      rw [← Int.mul_assoc, Int.mul_comm (Pw m), Int.mul_assoc]
    have e2 : val qs * (Pw m * (1000000 * V)) = val qs * (Pw m * 1000000 * V) := by rw [Int.mul_assoc (Pw m)]
    rw [e1, e2]
    omega
theorem DvI.done {ps qs Z Y : List Int} {n : Nat} (h : DvI ps qs Z Y n 0) (hq : Can qs) (hl : 2 ≤ qs.length) :
    canOf (val ps / val qs) = trim Y ∧ canOf (val ps % val qs) = trim Z ∧ Dig 1000000 Y ∧ Dig 1000000 Z := by
  have hvp : 0 < val qs := val_pos hq (by omega)
  have h1 := h.top
  rw [Nat.sub_zero, sg_all Z _ (by rw [h.zl]; exact Nat.le_refl _)] at h1
  have h2 := h.eq
  simp only [Pw, Int.one_mul, List.drop_zero] at h2
  have h0 := val_nonneg h.zd
  have hyd : Dig 1000000 Y := fun j hj => h.yd j (Nat.zero_le _) (by rw [← h.yl]; exact hj)
  have e1 : val ps / val qs = val Y := by
    rw [← h2, Int.add_mul_ediv_left _ _ (by omega), Int.ediv_eq_zero_of_lt h0 h1]; omega
  have e2 : val ps % val qs = val Z := by
    rw [← h2, Int.add_mul_emod_self_left, Int.emod_eq_of_lt h0 h1]
  rw [e1, e2]
  exact ⟨canOf_eq (trim_can hyd) (trim_val Y), canOf_eq (trim_can h.zd) (trim_val Z), hyd, h.zd⟩
end Go.Proofs.Ytcpipakpkmfhlaa.Ints
