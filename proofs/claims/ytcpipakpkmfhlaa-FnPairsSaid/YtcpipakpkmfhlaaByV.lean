/- Plain lemmas on dividing limbs by a small number, on valuations and on digits. -/
import Derived.Test.YtcpipakpkmfhlaaCan
namespace Go.Proofs.Ytcpipakpkmfhlaa.Ints
set_option linter.unusedVariables false

theorem val_drop (zs : List Int) (m : Nat) (h : m < zs.length) : val (zs.drop m) = zs.getD m 0 + 1000000 * val (zs.drop (m + 1)) := by
  rw [List.drop_eq_getElem_cons h, val]
  simp [List.getD_eq_getElem?_getD, h]
theorem drop_set (zs : List Int) (m : Nat) (x : Int) (h : m < zs.length) : (zs.set m x).drop m = x :: zs.drop (m + 1) := by
  rw [List.drop_eq_getElem_cons (by simpa using h)]
  simp [List.drop_set]
/-- What a division has made when the limbs from the last one down to m have come. -/
structure DI (ps Y : List Int) (b : Int) (m : Nat) (R : Int) : Prop where
  len : Y.length = ps.length
  dig : ∀ j, m ≤ j → j < Y.length → 0 ≤ Y.getD j 0 ∧ Y.getD j 0 < 1000000
  quo : val (Y.drop m) = val (ps.drop m) / b
  rem : R = val (ps.drop m) % b
theorem DI.start (ps : List Int) (b : Int) : DI ps (List.replicate ps.length 0) b ps.length 0 := by
  refine ⟨by simp, fun j h1 h2 => ?_, ?_, ?_⟩
  · simp at h2; omega
  · rw [List.drop_eq_nil_of_le (by simp), List.drop_eq_nil_of_le (by simp)]; simp [val]
  · rw [List.drop_eq_nil_of_le (by simp)]; simp [val]
theorem DI.rb {ps Y : List Int} {b R : Int} {m : Nat} (h : DI ps Y b m R) (b0 : 1 ≤ b) : 0 ≤ R ∧ R < b := by
  rw [h.rem]; exact ⟨Int.emod_nonneg _ (by omega), Int.emod_lt_of_pos _ (by omega)⟩
theorem div_parts (V b d : Int) (hb : 1 ≤ b) : (d + 1000000 * V) / b = (V % b * 1000000 + d) / b + 1000000 * (V / b) ∧ (d + 1000000 * V) % b = (V % b * 1000000 + d) % b := by
  have e : d + 1000000 * V = (V % b * 1000000 + d) + b * (1000000 * (V / b)) := by
    have h := Int.mul_ediv_add_emod V b
    have : 1000000 * V = 1000000 * (b * (V / b)) + 1000000 * (V % b) := by rw [← Int.mul_add, h]
    rw [this, Int.mul_left_comm 1000000 b (V / b)]
    omega
  rw [e, Int.add_mul_ediv_left _ _ (by omega), Int.add_mul_emod_self_left]
  exact ⟨rfl, rfl⟩
theorem DI.step {ps Y : List Int} {b R : Int} {m : Nat} (h : DI ps Y b (m + 1) R) (hm : m < ps.length) (hp : Dig 1000000 ps) (b0 : 1 ≤ b) (b1 : b ≤ 1000000) (s : Int) (hs : s = R * 1000000 + ps.getD m 0) :
    DI ps (Y.set m (s / b)) b m (s % b) ∧ 0 ≤ s ∧ s ≤ 999999999999 ∧ 0 ≤ s / b ∧ s / b < 1000000 := by
  obtain ⟨r0, r1⟩ := h.rb b0
  obtain ⟨d0, d1⟩ := hp m hm
  have hml : m < Y.length := by rw [h.len]; exact hm
  have q0 : 0 ≤ s / b := Int.ediv_nonneg (by omega) (by omega)
  have q1 : s / b < 1000000 := Int.ediv_lt_of_lt_mul (by omega) (by omega)
  obtain ⟨p1, p2⟩ := div_parts (val (ps.drop (m + 1))) b (ps.getD m 0) b0
  rw [← h.rem, ← hs] at p1 p2
  refine ⟨⟨by rw [List.length_set, h.len], fun j h1 h2 => ?_, ?_, ?_⟩, by omega, by omega, q0, q1⟩
  · rw [getD_set _ _ _ _ hml]
    by_cases e : m = j
    · rw [if_pos e]; exact ⟨q0, q1⟩
    · rw [if_neg e]; exact h.dig j (by omega) (by rwa [List.length_set] at h2)
  · rw [drop_set Y m _ hml, val, h.quo, val_drop ps m hm, p1]
  · rw [val_drop ps m hm, p2]
theorem DI.done {ps Y : List Int} {b R : Int} (h : DI ps Y b 0 R) : canOf (val ps / b) = trim Y ∧ R = val ps % b ∧ Y.length = ps.length ∧ Dig 1000000 Y := by
  have hd : Dig 1000000 Y := fun j hj => h.dig j (Nat.zero_le _) hj
  have hq := h.quo
  have hr := h.rem
  rw [List.drop_zero, List.drop_zero] at hq
  rw [List.drop_zero] at hr
  exact ⟨canOf_eq (trim_can hd) (by rw [trim_val]; exact hq), hr, h.len, hd⟩

/-- How often p divides m, with fuel. -/
def vlF : Nat → Int → Int → Nat
  | 0, _, _ => 0
  | f + 1, m, p => if m % p ≠ 0 then 0 else vlF f (m / p) p + 1
theorem div_less {m p : Int} (hm : 0 < m) (hp : 2 ≤ p) : 0 ≤ m / p ∧ m / p < m ∧ 2 * (m / p) ≤ m := by
  have h0 : 0 ≤ m / p := Int.ediv_nonneg (by omega) (by omega)
  have h1 : p * (m / p) ≤ m := Int.mul_ediv_self_le (by omega)
  have h2 : 2 * (m / p) ≤ p * (m / p) := Int.mul_le_mul_of_nonneg_right hp h0
  omega
theorem div_exact {m p : Int} (hm : 0 < m) (hp : 2 ≤ p) (h : m % p = 0) : 0 < m / p := by
  have h1 := Int.mul_ediv_add_emod m p
  have h0 := (div_less hm hp).1
  rcases Int.lt_or_eq_of_le h0 with h2 | h2
  · exact h2
  · rw [← h2, h] at h1; omega
theorem vlF_pow (f : Nat) : ∀ m p : Int, 0 < m → 2 ≤ p → ((2 ^ vlF f m p : Nat) : Int) ≤ m := by
  induction f with
  | zero => intro m p hm hp; simp [vlF]; omega
  | succ f ih =>
    intro m p hm hp
    rw [vlF]
    by_cases h : m % p ≠ 0
    · rw [if_pos h]; simp; omega
    · rw [if_neg h, Nat.pow_succ]
      have := ih (m / p) p (div_exact hm hp (by omega)) hp
      have := (div_less hm hp).2.2
      omega
theorem Pw_two (k : Nat) : Pw k ≤ ((2 ^ (20 * k) : Nat) : Int) := by
  induction k with
  | zero => simp [Pw]
  | succ k ih =>
    rw [Pw, Nat.mul_add, Nat.pow_add, Int.natCast_mul]
    have h2 : (1000000 : Int) ≤ ((2 ^ (20 * 1) : Nat) : Int) := by decide
    have h3 : Pw k * 1000000 ≤ Pw k * ((2 ^ (20 * 1) : Nat) : Int) := Int.mul_le_mul_of_nonneg_left h2 (Int.le_of_lt (Pw_pos k))
    have h4 : Pw k * ((2 ^ (20 * 1) : Nat) : Int) ≤ ((2 ^ (20 * k) : Nat) : Int) * ((2 ^ (20 * 1) : Nat) : Int) := Int.mul_le_mul_of_nonneg_right ih (by omega)
    exact Int.le_trans h3 h4
theorem pow_small {t k : Nat} {v : Int} (h : ((2 ^ t : Nat) : Int) ≤ v) (hv : v < ((2 ^ k : Nat) : Int)) : t < k := by
  rcases Nat.lt_or_ge t k with ht | ht
  · exact ht
  · have := Nat.pow_le_pow_right (n := 2) (by omega) ht
    have h2 : ((2 ^ k : Nat) : Int) ≤ ((2 ^ t : Nat) : Int) := Int.ofNat_le.2 this
    omega
theorem vl_small {ps : List Int} (h : Can ps) (hl : ps.length ≤ 40) (h0 : 0 < ps.length) (f : Nat) (p : Int) (hp : 2 ≤ p) : vlF f (val ps) p < 800 := by
  have h1 := val_lt h.1
  have h2 := Pw_two ps.length
  have := pow_small (vlF_pow f _ p (val_pos h h0) hp) (Int.lt_of_lt_of_le h1 h2)
  omega
/-- The digits of m to the base b, with fuel. -/
def dgF : Nat → Int → Int → List Int
  | 0, _, _ => []
  | f + 1, m, b => if 0 < m then (m % b) :: dgF f (m / b) b else []
theorem dgF_step {f : Nat} {m b : Int} (h : 0 < m) (hf : m ≤ f) : ∃ g, f = g + 1 ∧ dgF f m b = (m % b) :: dgF g (m / b) b := by
  cases f with
  | zero => simp at hf; omega
  | succ g => exact ⟨g, rfl, by simp [dgF, h]⟩
theorem dgF_stop {f : Nat} {m b : Int} (h : ¬ 0 < m) : dgF f m b = [] := by
  cases f with
  | zero => rfl
  | succ g => simp [dgF, h]
theorem dgF_pow (f : Nat) : ∀ m b : Int, 0 < m → 2 ≤ b → ((2 ^ (dgF f m b).length : Nat) : Int) ≤ 2 * m := by
  induction f with
  | zero => intro m b hm hb; simp [dgF]; omega
  | succ f ih =>
    intro m b hm hb
    rw [dgF, if_pos hm, List.length_cons, Nat.pow_succ]
    have h3 := (div_less hm hb)
    by_cases hq : 0 < m / b
    · have := ih (m / b) b hq hb
      omega
    · rw [dgF_stop hq]; simp; omega
theorem dgF_dig (f : Nat) : ∀ m b : Int, 2 ≤ b → Dig b (dgF f m b) := by
  induction f with
  | zero => intro m b hb i hi; simp [dgF] at hi
  | succ f ih =>
    intro m b hb
    rw [dgF]
    by_cases hm : 0 < m
    · rw [if_pos hm]
      intro i hi
      cases i with
      | zero => simpa using ⟨Int.emod_nonneg m (show b ≠ 0 by omega), Int.emod_lt_of_pos m (show 0 < b by omega)⟩
      | succ i => simpa using ih (m / b) b hb i (by simpa using hi)
    · rw [if_neg hm]
      intro i hi; simp at hi
theorem dg_small {ps : List Int} (h : Can ps) (hl : ps.length ≤ 40) (f : Nat) (b : Int) (hb : 2 ≤ b) : (dgF f (val ps) b).length ≤ 800 := by
  have h1 := val_lt h.1
  have h2 := Pw_two ps.length
  by_cases h0 : 0 < val ps
  · have h3 : 2 * val ps < ((2 ^ (20 * ps.length + 1) : Nat) : Int) := by
      rw [Nat.pow_succ, Int.natCast_mul]
      omega
    have := pow_small (dgF_pow f _ b h0 hb) h3
    omega
  · rw [dgF_stop h0]; simp
end Go.Proofs.Ytcpipakpkmfhlaa.Ints
