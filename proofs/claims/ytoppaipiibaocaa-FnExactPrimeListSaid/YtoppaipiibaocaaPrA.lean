/- The first 24 primes: the model counts by trial division, the program sieves in a map. Values and plain lemmas. -/
import Derived.Test.YtoppaipiibaocaaPrm
import Derived.Maps.OwnSet
import Derived.Maps.OwnOps
import Derived.Lib.Hide
namespace Go.Proofs.Ytoppaipiibaocaa.Math
open Go.RowKit
open Go.Maps (Keyed)
set_option linter.unusedVariables false
set_option linter.unusedSimpArgs false

/-- No divisor among the first four primes up to the root: for numbers up to 89 all that matters. -/
def isP (n : Nat) : Bool := (n % 2 != 0 || n < 4) && (n % 3 != 0 || n < 9) && (n % 5 != 0 || n < 25) && (n % 7 != 0 || n < 49)
theorem primeB_isP {n : Nat} (h2 : 2 ≤ n) (h : n ≤ 90) : primeB n = isP n := by
  by_cases hP : isP n = true
  · rw [hP]
    apply primeB_true
    intro d h0 h1 hm
    have h9 : d < 10 := by
      rcases Int.lt_or_le d 10 with hl | hl
      · exact hl
      · have := sq_mono (a := 10) (b := d) (by omega) hl; omega
    simp [isP] at hP
    have hc : d = 2 ∨ d = 3 ∨ d = 4 ∨ d = 5 ∨ d = 6 ∨ d = 7 ∨ d = 8 ∨ d = 9 := by omega
    rcases hc with rfl | rfl | rfl | rfl | rfl | rfl | rfl | rfl <;> omega
  · have hf : isP n = false := by simpa using hP
    rw [hf]
    apply primeB_false
    intro H
    apply hP
    have a2 := H 2 (by omega)
    have a3 := H 3 (by omega)
    have a5 := H 5 (by omega)
    have a7 := H 7 (by omega)
    simp [isP]
    omega

/-- How many primes are less than a number. -/
def piN : Nat → Nat
  | 0 => 0
  | n + 1 => piN n + (if 2 ≤ n ∧ isP n = true then 1 else 0)
theorem piN_two : piN 2 = 0 := by decide
theorem piN_yes {n : Nat} (h2 : 2 ≤ n) (h : isP n = true) : piN (n + 1) = piN n + 1 := by simp [piN, h, h2]
theorem piN_no {n : Nat} (h : isP n = false) : piN (n + 1) = piN n := by simp [piN, h]
/-- The primes in a row. -/
def prA (k : Nat) : Nat := [2, 3, 5, 7, 11, 13, 17, 19, 23, 29, 31, 37, 41, 43, 47, 53, 59, 61, 67, 71, 73, 79, 83, 89].getD k 0
set_option maxRecDepth 100000 in
set_option maxHeartbeats 4000000 in
theorem prA_all : ∀ n : Fin 91, 2 ≤ n.val → (piN n.val ≤ 23 → n.val ≤ 89) ∧ (isP n.val = true → n.val ≤ 89 → prA (piN n.val) = n.val) := by decide +kernel
theorem piN_end {n : Nat} (h2 : 2 ≤ n) (h : n ≤ 90) (hp : piN n ≤ 23) : n ≤ 89 := (prA_all ⟨n, by omega⟩ h2).1 hp
theorem prA_hit {n : Nat} (h2 : 2 ≤ n) (h : n ≤ 89) (hp : isP n = true) : prA (piN n) = n := (prA_all ⟨n, by omega⟩ h2).2 hp h
set_option maxRecDepth 100000 in
theorem prA_in : ∀ k : Fin 24, 2 ≤ prA k.val ∧ prA k.val ≤ 89 ∧ isP (prA k.val) = true := by decide +kernel

/-- What is crossed out when all numbers below n have been treated. -/
def crO (n m : Nat) : Bool := (2 < n && 4 ≤ m && m % 2 == 0) || (3 < n && 9 ≤ m && m % 3 == 0) || (5 < n && 25 ≤ m && m % 5 == 0) || (7 < n && 49 ≤ m && m % 7 == 0)
theorem crO_start (m : Nat) : crO 2 m = false := by simp [crO]
theorem crO_self {n : Nat} (h2 : 2 ≤ n) (h : n ≤ 89) : crO n n = !isP n := by
  rw [Bool.eq_iff_iff]
  simp [crO, isP]
  omega
/-- Up to a multiple, n's own are crossed out besides. -/
def crU (n q m : Nat) : Bool := crO n m || (n * n ≤ m && m < q && m % n == 0)
theorem crU_start (n m : Nat) : crU n (n * n) m = crO n m := by
  have : ¬ (n * n ≤ m ∧ m < n * n) := by omega
  simp [crU]; omega
theorem crU_step {n q m : Nat} (h2 : 2 ≤ n) (hq : q % n = 0) (hn : n * n ≤ q) : crU n (q + n) m = (crU n q m || m == q) := by
  rw [Bool.eq_iff_iff]
  simp only [crU, Bool.or_eq_true, Bool.and_eq_true, decide_eq_true_eq, beq_iff_eq]
  constructor
  · rintro (h | ⟨⟨h1, h3⟩, h4⟩)
    · exact .inl (.inl h)
    · by_cases hlt : m < q
      · exact .inl (.inr ⟨⟨h1, hlt⟩, h4⟩)
      · refine .inr ?_
        have hd : (m - q) % n = 0 := by
          have hdm := Nat.dvd_of_mod_eq_zero h4
          have hdq := Nat.dvd_of_mod_eq_zero hq
          exact Nat.mod_eq_zero_of_dvd (Nat.dvd_sub hdm hdq)
        have hs : m - q < n := by omega
        rw [Nat.mod_eq_of_lt hs] at hd
        omega
  · rintro ((h | ⟨⟨h1, h3⟩, h4⟩) | rfl)
    · exact .inl h
    · exact .inr ⟨⟨h1, by omega⟩, h4⟩
    · exact .inr ⟨⟨hn, by omega⟩, hq⟩
theorem crO_no {n m : Nat} (h2 : 2 ≤ n) (hp : isP n = false) (h : n ≤ 89) (hm : m ≤ 89) : crO (n + 1) m = crO n m := by
  have h0 : n ≠ 2 ∧ n ≠ 3 ∧ n ≠ 5 ∧ n ≠ 7 := by
    refine ⟨?_, ?_, ?_, ?_⟩ <;> rintro rfl <;> revert hp <;> decide
  rw [Bool.eq_iff_iff]
  simp [crO]
  omega
theorem crU_end {n q m : Nat} (h2 : 2 ≤ n) (hp : isP n = true) (h : n ≤ 89) (hm : m ≤ 89) (hq : 89 < q) : crU n q m = crO (n + 1) m := by
  rcases Nat.lt_or_ge 9 n with h9 | h9
  · have : 10 * 10 ≤ n * n := Nat.mul_le_mul h9 h9
    rw [Bool.eq_iff_iff]
    simp [crU, crO]
    omega
  · have hc : n = 2 ∨ n = 3 ∨ n = 5 ∨ n = 7 := by
      have h1 : n = 2 ∨ n = 3 ∨ n = 4 ∨ n = 5 ∨ n = 6 ∨ n = 7 ∨ n = 8 ∨ n = 9 := by omega
      rcases h1 with rfl | rfl | rfl | rfl | rfl | rfl | rfl | rfl <;> revert hp <;> decide
    rw [Bool.eq_iff_iff]
    rcases hc with rfl | rfl | rfl | rfl <;> simp [crU, crO] <;> omega

/-! ### a map of bools -/
theorem plainBool_inv {H : Type} {P : Program} {e : TypeId} (he : P.underlying e = some .bool) {v : Value} {x : Bool} {ps : List MemPlace} (h : plainElem (H := H) P e v = some (.lit (.bool x), ps)) : v = .bool x := by
  unfold plainElem at h
  rw [he] at h
  cases v <;> simp at h
  rw [h.1]
theorem wpList_lookup_own_bool {H : Type} {P : Program} (w : World) {ops : Array Oper} {rest : List Oper} {o : Oper} {a : Act} {Q : Exit → Act → World → Prop}
    (hg : o.guard = none) (m x : Operand) (t : TypeId) (hop : o.op = Op.lookup t m x false)
    (k e : TypeId) (K : Keyed P k) (ht : P.underlying t = some (.map k e)) (he : P.underlying e = some .bool) (hz : (zeroValue e).run P w = .ok (.bool false) w) (b n : Nat) (D : DataW H)
    (hm : a.eval m = .map (some b)) (hown : w.ownsMap P k (plainElem P e) b n D) (key : Value) (kl : Lit) (hx : a.eval x = key) (hkey : keyOf P k key = some kl) (c : Bool) (hat : D.atKey kl (.lit (.bool false)) = .lit (.bool c))
    (hK : wpList P ops Q rest (a.put o.dst (.bool c)) w) :
    wpList P ops Q (o :: rest) a w := by
  refine wpList_plain hg fun K' hK' => ?_
  obtain ⟨v, ps, hrun, hv⟩ := hown.lookup K ht hz (plainElem_bool he false) hkey
  rw [hat] at hv
  obtain rfl := plainBool_inv he hv
  unfold Oper.wp
  simp [execOp, hop, hm, hx, hrun, Result.andThen]
  exact hK' _ _ hK
/-- A map in which the numbers up to 89 stand with what says so. -/
def Crs {H : Type} (D : DataW H) (f : Nat → Bool) : Prop := Go.Maps.IsMap D ∧ ∀ m : Nat, m ≤ 89 → D.atKey (.int .i64 (m : Int)) (.lit (.bool false)) = .lit (.bool (f m))
theorem Crs.start {H : Type} : Crs (H := H) (.map []) (fun _ => false) := ⟨⟨[], rfl⟩, fun m hm => by rfl⟩
theorem Crs.same {H : Type} {D : DataW H} {f g : Nat → Bool} (h : Crs D f) (he : ∀ m, m ≤ 89 → g m = f m) : Crs D g := ⟨h.1, fun m hm => by rw [h.2 m hm, he m hm]⟩
theorem Crs.put {H : Type} {D : DataW H} {f g : Nat → Bool} (h : Crs D f) (q : Nat) (he : ∀ m, m ≤ 89 → g m = (f m || m == q)) : Crs (D.put (.int .i64 (q : Int)) (.lit (.bool true))) g := by
  refine ⟨h.1.put _ _, fun m hm => ?_⟩
  rw [he m hm]
  by_cases hq : m = q
  · subst hq
    rw [Go.Maps.atKey_put_same h.1 (by trivial)]
    simp
  · rw [Go.Maps.atKey_put_other (by intro e; injection e with _ e2; omega), h.2 m hm]
    have : (m == q) = false := by simp [hq]
    simp [this]
end Go.Proofs.Ytoppaipiibaocaa.Math
