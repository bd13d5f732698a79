/- Plain lemmas on integers for the laws on powers, exponents and primes; nothing of the program is named here. -/
namespace Go.Proofs.Ytoppaipiibaocaa.Math

/-- How often b divides m, with fuel. -/
def ex (b : Int) : Nat → Int → Int
  | 0, _ => 0
  | f + 1, m => if m % b = 0 then 1 + ex b f (m / b) else 0

theorem div_facts (m b : Int) (h1 : 1 ≤ m) (h2 : 2 ≤ b) (h : m % b = 0) : 1 ≤ m / b ∧ m / b < m := by
  have e := Int.mul_ediv_add_emod m b
  rw [h] at e
  have hp : 0 < m / b := by
    rcases Int.lt_trichotomy (m / b) 0 with hl | hz | hg
    · have := Int.ediv_nonneg (a := m) (b := b) (by omega) (by omega); omega
    · rw [hz] at e; simp at e; omega
    · exact hg
  refine ⟨by omega, ?_⟩
  have : 2 * (m / b) ≤ b * (m / b) := Int.mul_le_mul_of_nonneg_right h2 (by omega)
  omega

theorem ex_step {b m : Int} {f : Nat} (h : m % b = 0) (h1 : 1 ≤ m) (hf : m ≤ f) : ∃ g, f = g + 1 ∧ ex b f m = 1 + ex b g (m / b) := by
  cases f with
  | zero => simp at hf; omega
  | succ g => exact ⟨g, rfl, by simp [ex, h]⟩

theorem ex_stop {b m : Int} {f : Nat} (h : ¬ m % b = 0) : ex b f m = 0 := by
  cases f with
  | zero => rfl
  | succ g => simp [ex, h]

/-- The power, and a code: the same loop on both sides. -/
def pwr (b : Int) : Nat → Int → Int × Int
  | 0, p => (p, 0)
  | k + 1, p => if 0 < b ∧ 1000000000000 / b < p then (0, 5) else pwr b k (p * b)
def pwV (b : Int) (e : Nat) (p : Int) : Int := (pwr b e p).1
def pwC (b : Int) (e : Nat) (p : Int) : Int := (pwr b e p).2

theorem pw_zero_left (k : Nat) : pwr 0 k 0 = (0, 0) := by
  induction k with
  | zero => rfl
  | succ k ih => rw [pwr]; simpa using ih
theorem pw_one (k : Nat) : pwr 1 k 1 = (1, 0) := by
  induction k with
  | zero => rfl
  | succ k ih => rw [pwr]; simpa using ih
theorem pw_zero (k : Nat) : pwr 0 (k + 1) 1 = (0, 0) := by rw [pwr]; simpa using pw_zero_left k

theorem pwV_full {b p : Int} {k : Nat} (hb : 0 < b) (h : 1000000000000 / b < p) : pwV b (k + 1) p = 0 ∧ pwC b (k + 1) p = 5 := by
  simp [pwV, pwC, pwr, hb, h]
theorem pwV_step {b p : Int} {k : Nat} (h : ¬ (0 < b ∧ 1000000000000 / b < p)) : pwV b (k + 1) p = pwV b k (p * b) ∧ pwC b (k + 1) p = pwC b k (p * b) := by
  constructor <;> simp only [pwV, pwC, pwr, if_neg h]
theorem pwV_end {b p : Int} : pwV b 0 p = p ∧ pwC b 0 p = 0 := ⟨rfl, rfl⟩
theorem pwC_or (b : Int) (k : Nat) (p : Int) : pwC b k p = 0 ∨ pwC b k p = 5 ∧ pwV b k p = 0 := by
  induction k generalizing p with
  | zero => exact .inl rfl
  | succ k ih =>
    by_cases h : 0 < b ∧ 1000000000000 / b < p
    · exact .inr ⟨(pwV_full h.1 h.2).2, (pwV_full h.1 h.2).1⟩
    · rw [(pwV_step h).1, (pwV_step h).2]; exact ih _
theorem mul_fits {b p : Int} (h0 : 0 ≤ p) (hb : 1 ≤ b) (h : ¬ 1000000000000 / b < p) : 0 ≤ p * b ∧ p * b ≤ 1000000000000 :=
  ⟨Int.mul_nonneg h0 (by omega), Int.mul_le_of_le_ediv (by omega) (by omega)⟩

/-- No divisor from 2 up to the root. -/
def NoDiv (n : Int) : Prop := ∀ d : Int, 2 ≤ d → d * d ≤ n → n % d ≠ 0
open Classical in
noncomputable def primeB (n : Int) : Bool := decide (NoDiv n)
theorem primeB_true {n : Int} (h : NoDiv n) : primeB n = true := by simp [primeB, h]
theorem primeB_false {n : Int} (h : ¬ NoDiv n) : primeB n = false := by simp [primeB, h]

theorem sq_mono {a b : Int} (h0 : 0 ≤ a) (h : a ≤ b) : a * a ≤ b * b := Int.mul_le_mul h h h0 (by omega)
theorem root_le {d : Int} (h : d * d ≤ 1000000000000) : d ≤ 1000000 := by
  rcases Int.lt_or_le 1000000 d with hl | hl
  · have := sq_mono (a := 1000001) (b := d) (by omega) (by omega); omega
  · exact hl
theorem sq_facts {d : Int} (h0 : 0 ≤ d) (h : d ≤ 1000010) : 0 ≤ d * d ∧ d * d ≤ 1000020000100 :=
  ⟨Int.mul_nonneg h0 h0, by have := sq_mono h0 h; omega⟩

theorem none_left {n d : Int} (hd : 2 ≤ d) (hn : n < d * d) (h : ∀ x : Int, 2 ≤ x → x < d → n % x ≠ 0) : NoDiv n := by
  intro x hx hxx hm
  refine h x hx ?_ hm
  rcases Int.lt_or_le x d with hl | hl
  · exact hl
  · have := sq_mono (a := d) (b := x) (by omega) hl; omega
theorem one_found {n d : Int} (hd : 2 ≤ d) (hn : d * d ≤ n) (h : n % d = 0) : ¬ NoDiv n := fun H => H d hd hn h
/-- A proper factor makes n no prime. -/
theorem factor {n a : Int} (ha : 2 ≤ a) (hlt : a < n) (h : n % a = 0) : ¬ NoDiv n := by
  have e := Int.mul_ediv_add_emod n a
  rw [h] at e
  have hq : 2 ≤ n / a := by
    rcases Int.lt_or_le (n / a) 2 with hl | hl
    · have h3 : a * (n / a) ≤ a * 1 := Int.mul_le_mul_of_nonneg_left (by omega) (by omega)
      omega
    · exact hl
  intro H
  rcases Int.le_total a (n / a) with hl | hl
  · have : a * a ≤ a * (n / a) := Int.mul_le_mul_of_nonneg_left hl (by omega)
    exact H a ha (by omega) h
  · have h1 : n / a * (n / a) ≤ a * (n / a) := Int.mul_le_mul_of_nonneg_right hl (by omega)
    refine H (n / a) hq (by omega) ?_
    exact Int.emod_eq_zero_of_dvd ⟨a, by rw [Int.mul_comm]; omega⟩
theorem of_multiple {n x c : Int} (hc : c ∣ x) (h : n % x = 0) : n % c = 0 :=
  Int.emod_eq_zero_of_dvd (Int.dvd_trans hc (Int.dvd_of_emod_eq_zero h))

theorem wheel {n d : Int} {k : Nat} (hk : d = 6 * k + 5) (h2 : n % 2 ≠ 0) (h3 : n % 3 ≠ 0) (ha : n % d ≠ 0) (hb : n % (d + 2) ≠ 0)
    (h : ∀ x : Int, 2 ≤ x → x < d → n % x ≠ 0) : ∀ x : Int, 2 ≤ x → x < d + 6 → n % x ≠ 0 := by
  intro x hx hlt hm
  have hc : x < d ∨ x = d ∨ x = d + 1 ∨ x = d + 2 ∨ x = d + 3 ∨ x = d + 4 ∨ x = d + 5 := by omega
  rcases hc with hc | rfl | rfl | rfl | rfl | rfl | rfl
  · exact h x hx hc hm
  · exact ha hm
  · exact h2 (of_multiple ⟨3 * k + 3, by omega⟩ hm)
  · exact hb hm
  · exact h2 (of_multiple ⟨3 * k + 4, by omega⟩ hm)
  · exact h3 (of_multiple ⟨2 * k + 3, by omega⟩ hm)
  · exact h2 (of_multiple ⟨3 * k + 5, by omega⟩ hm)

theorem small_prime {n : Int} (h : 2 ≤ n) (h3 : n ≤ 3) : NoDiv n := by
  intro x hx hxx hm
  have := sq_mono (a := 2) (b := x) (by omega) hx
  omega
theorem start {n : Int} (h2 : n % 2 ≠ 0) (h3 : n % 3 ≠ 0) : ∀ x : Int, 2 ≤ x → x < 5 → n % x ≠ 0 := by
  intro x hx hlt hm
  have hc : x = 2 ∨ x = 3 ∨ x = 4 := by omega
  rcases hc with rfl | rfl | rfl
  · exact h2 hm
  · exact h3 hm
  · exact h2 (of_multiple ⟨2, by omega⟩ hm)
theorem even_none {n : Int} (h4 : 3 < n) (h : n % 2 = 0) : ¬ NoDiv n := factor (by omega) (by omega) h
theorem third_none {n : Int} (h4 : 3 < n) (h : n % 3 = 0) : ¬ NoDiv n := factor (by omega) (by omega) h
/-- d + 2 divides n, and d * d is at most n: then n is no prime. -/
theorem wheel_none {n d : Int} (hd : 5 ≤ d) (hn : d * d ≤ n) (h : n % (d + 2) = 0) : ¬ NoDiv n := by
  have : 5 * d ≤ d * d := Int.mul_le_mul_of_nonneg_right hd (by omega)
  exact factor (by omega) (by omega) h

end Go.Proofs.Ytoppaipiibaocaa.Math
