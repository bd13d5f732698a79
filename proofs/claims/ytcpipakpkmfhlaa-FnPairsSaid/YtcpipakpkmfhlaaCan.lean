/- Plain lemmas: each number that is not negative has its limbs; lengths and comparisons by values. -/
import Derived.Test.YtcpipakpkmfhlaaMulV
import Derived.Test.YtcpipakpkmfhlaaCmpNat
namespace Go.Proofs.Ytcpipakpkmfhlaa.Ints
set_option linter.unusedVariables false

theorem can_mk {d : Int} {l : List Int} (hd : 0 ≤ d ∧ d < 1000000) (hl : Can l) (hn : l = [] → d ≠ 0) : Can (d :: l) := by
  refine ⟨fun i hi => ?_, ?_⟩
  · cases i with
    | zero => simpa using hd
    | succ i => simpa using hl.1 i (by simpa using hi)
  · right
    cases l with
    | nil => simpa using hn rfl
    | cons e m =>
      rcases hl.2 with h | h
      · simp at h
      · simpa using h
theorem can_exists (n : Nat) : ∀ v : Int, 0 ≤ v → v ≤ n → ∃ zs, Can zs ∧ val zs = v := by
  induction n with
  | zero => intro v h0 h1; exact ⟨[], can_nil, by simp only [val]; omega⟩
  | succ n ih =>
    intro v h0 h1
    by_cases hv : v = 0
    · exact ⟨[], can_nil, by rw [hv]; rfl⟩
    · obtain ⟨zs, hz, hval⟩ := ih (v / 1000000) (by omega) (by omega)
      refine ⟨(v % 1000000) :: zs, can_mk ⟨by omega, by omega⟩ hz (fun h => ?_), by rw [val, hval]; omega⟩
      subst h
      simp only [val] at hval
      omega
theorem canOf_spec {v : Int} (h : 0 ≤ v) : Can (canOf v) ∧ val (canOf v) = v := by
  obtain ⟨zs, hz, hv⟩ := can_exists v.toNat v h (by omega)
  rw [canOf_eq hz hv]
  exact ⟨hz, hv⟩
theorem canOf_val {zs : List Int} (h : Can zs) : canOf (val zs) = zs := canOf_eq h rfl
theorem can_ge {zs : List Int} (h : Can zs) (hne : 0 < zs.length) : Pw (zs.length - 1) ≤ val zs := by
  have e : val zs = val (zs.take (zs.length - 1)) + Pw (zs.length - 1) * zs.getD (zs.length - 1) 0 := by
    have := val_take_succ zs (zs.length - 1)
    rwa [List.take_of_length_le (by omega)] at this
  have h0 := val_nonneg (dig_take h.1 (zs.length - 1))
  have h1 := h.1 (zs.length - 1) (by omega)
  have h2 : zs.getD (zs.length - 1) 0 ≠ 0 := by
    rcases h.2 with h2 | h2
    · omega
    · exact h2
  have h3 : Pw (zs.length - 1) * 1 ≤ Pw (zs.length - 1) * zs.getD (zs.length - 1) 0 := Int.mul_le_mul_of_nonneg_left (by omega) (Int.le_of_lt (Pw_pos _))
  omega
theorem can_len {zs : List Int} {k : Nat} (h : Can zs) (hv : val zs < Pw k) : zs.length ≤ k := by
  rcases Nat.lt_or_ge k zs.length with hk | hk
  · have h1 := can_ge h (by omega)
    have h2 := Pw_mono (show k ≤ zs.length - 1 by omega)
    omega
  · exact hk
theorem val_pos {zs : List Int} (h : Can zs) (hne : 0 < zs.length) : 0 < val zs := by
  have := can_ge h hne
  have := Pw_pos (zs.length - 1)
  omega
/-- Among lists of one length the greater one is told by the highest limb in which they differ. -/
theorem cmpD_val {xs ys : List Int} (hx : Dig 1000000 xs) (hy : Dig 1000000 ys) (n : Nat) : cmpD xs ys n = sgn (val (xs.take n)) (val (ys.take n)) := by
  induction n with
  | zero => simp [cmpD, sgn]
  | succ n ih =>
    have b : ∀ {zs : List Int}, Dig 1000000 zs → 0 ≤ val (zs.take n) ∧ val (zs.take n) < Pw n := fun {zs} h => by
      have a0 := val_nonneg (dig_take h n)
      have a1 := val_lt (dig_take h n)
      have a2 := Pw_mono (show (zs.take n).length ≤ n by rw [List.length_take]; omega)
      exact ⟨a0, by omega⟩
    obtain ⟨x0, x1⟩ := b hx
    obtain ⟨y0, y1⟩ := b hy
    have hP := Pw_pos n
    rw [cmpD, val_take_succ, val_take_succ]
    by_cases h1 : xs.getD n 0 < ys.getD n 0
    · have : Pw n * (xs.getD n 0 + 1) ≤ Pw n * ys.getD n 0 := Int.mul_le_mul_of_nonneg_left (by omega) (Int.le_of_lt hP)
      rw [Int.mul_add] at this
      rw [if_pos h1, sgn, if_pos (by omega)]
    · by_cases h2 : ys.getD n 0 < xs.getD n 0
      · have : Pw n * (ys.getD n 0 + 1) ≤ Pw n * xs.getD n 0 := Int.mul_le_mul_of_nonneg_left (by omega) (Int.le_of_lt hP)
        rw [Int.mul_add] at this
        rw [if_neg h1, if_pos h2, sgn, if_neg (by omega), if_pos (by omega)]
      · have e : xs.getD n 0 = ys.getD n 0 := by omega
        rw [if_neg h1, if_neg h2, ih, e]
        simp only [sgn, Int.add_lt_add_iff_right]
theorem cmpN_val {xs ys : List Int} (hx : Can xs) (hy : Can ys) : cmpN xs ys = sgn (val xs) (val ys) := by
  have less : ∀ {xs ys : List Int}, Can xs → Can ys → xs.length < ys.length → val xs < val ys := fun {xs ys} hx hy h => by
    have h1 := val_lt hx.1
    have h2 := can_ge hy (by omega)
    have h3 := Pw_mono (show xs.length ≤ ys.length - 1 by omega)
    omega
  rw [cmpN]
  by_cases h1 : xs.length < ys.length
  · have := less hx hy h1
    rw [if_pos h1, sgn, if_pos this]
  · by_cases h2 : ys.length < xs.length
    · have := less hy hx h2
      rw [if_neg h1, if_pos h2, sgn, if_neg (by omega), if_pos this]
    · rw [if_neg h1, if_neg h2, cmpD_val hx.1 hy.1, List.take_of_length_le (Nat.le_refl _), List.take_of_length_le (by omega)]
theorem sgn_neg {x y : Int} : sgn x y < 0 ↔ x < y := by
  unfold sgn; split
  · omega
  · split <;> omega
theorem mul_fits {ps qs : List Int} (hp : Can ps) (hq : Can qs) : Can (canOf (val ps * val qs)) ∧ val (canOf (val ps * val qs)) = val ps * val qs ∧ (canOf (val ps * val qs)).length ≤ ps.length + qs.length := by
  obtain ⟨h1, h2⟩ := canOf_spec (Int.mul_nonneg (val_nonneg hp.1) (val_nonneg hq.1))
  refine ⟨h1, h2, can_len h1 ?_⟩
  rw [h2, Pw_add]
  exact mul_lt (val_nonneg hp.1) (val_lt hp.1) (val_nonneg hq.1) (val_lt hq.1)
theorem limbsF_can (f : Nat) : ∀ n : Int, 0 ≤ n → n ≤ f → Can (limbsF f n) ∧ val (limbsF f n) = n := by
  induction f with
  | zero => intro n h0 h1; exact ⟨can_nil, by simp only [limbsF, val]; omega⟩
  | succ f ih =>
    intro n h0 h1
    rw [limbsF]
    by_cases hn : 0 < n
    · obtain ⟨a, b⟩ := ih (n / 1000000) (by omega) (by omega)
      rw [if_pos hn]
      refine ⟨can_mk ⟨by omega, by omega⟩ a (fun h => ?_), by rw [val, b]; omega⟩
      rw [h] at b
      simp only [val] at b
      omega
    · rw [if_neg hn]
      exact ⟨can_nil, by simp only [val]; omega⟩
theorem limbs_can {n : Int} (h : 0 ≤ n) : Can (limbs n) ∧ val (limbs n) = n := limbsF_can _ n h (by omega)
end Go.Proofs.Ytcpipakpkmfhlaa.Ints
