/- Products of powers of primes: values and plain lemmas. -/
import Derived.Test.YtoppaipiibaocaaPrI
import Derived.Test.YtoppaipiibaocaaPow
import Derived.Test.YtoppaipiibaocaaDig
import Derived.Test.YtoppaipiibaocaaMbs
namespace Go.Proofs.Ytoppaipiibaocaa.Ints
open Go.RowKit
open Math (prA prA_in)
set_option linter.unusedVariables false
set_option linter.unusedSimpArgs false
def pnP : Nat → List Int → Int → Int
  | _, [], acc => acc
  | k, e :: es, acc => pnP (k + 1) es (acc * (prA k : Int) ^ (e.toNat + 1))
theorem prA_two {k : Nat} (h : k < 24) : 2 ≤ (prA k : Int) ∧ (prA k : Int) ≤ 89 := by
  have h0 : 2 ≤ prA k ∧ prA k ≤ 89 ∧ Math.isP (prA k) = true := prA_in ⟨k, h⟩
  have h1 := h0.1
  have h2 := h0.2.1
  exact ⟨by omega, by omega⟩
theorem pow_one_le {p : Int} (h : 1 ≤ p) : ∀ j : Nat, 1 ≤ p ^ j
  | 0 => by simp
  | j + 1 => by
    rw [Int.pow_succ]
    have h1 := pow_one_le h j
    have := Int.mul_le_mul h1 h (by omega) (by omega)
    omega
theorem pow_le_pow' {p : Int} (h : 1 ≤ p) {i j : Nat} (hij : i ≤ j) : p ^ i ≤ p ^ j := by
  obtain ⟨d, rfl⟩ : ∃ d, j = i + d := ⟨j - i, by omega⟩
  rw [Int.pow_add]
  have h1 := pow_one_le h d
  have h0 := pow_one_le h i
  have := Int.mul_le_mul_of_nonneg_left h1 (show 0 ≤ p ^ i by omega)
  omega
theorem mul_one_le {a b : Int} (ha : 1 ≤ a) (hb : 1 ≤ b) : 1 ≤ a * b ∧ a ≤ a * b ∧ b ≤ a * b := by
  have h1 := Int.mul_le_mul_of_nonneg_left hb (show 0 ≤ a by omega)
  have h2 := Int.mul_le_mul_of_nonneg_right ha (show 0 ≤ b by omega)
  omega
theorem pnP_ge : ∀ (zs : List Int) (k : Nat) (acc : Int), k + zs.length ≤ 24 → 1 ≤ acc → acc ≤ pnP k zs acc
  | [], _, acc, _, _ => Int.le_refl _
  | e :: es, k, acc, hk, ha => by
    simp only [List.length_cons] at hk
    have hp := prA_two (k := k) (by omega)
    have h1 := pow_one_le (p := (prA k : Int)) (by omega) (e.toNat + 1)
    obtain ⟨m0, m1, _⟩ := mul_one_le ha h1
    have := pnP_ge es (k + 1) _ (by omega) m0
    rw [pnP]
    omega
theorem pnP_step {zs : List Int} {k : Nat} (h : k < zs.length) (acc : Int) : pnP k (zs.drop k) acc = pnP (k + 1) (zs.drop (k + 1)) (acc * (prA k : Int) ^ ((zs.getD k 0).toNat + 1)) := by
  rw [List.drop_eq_getElem_cons h, pnP, List.getD_eq_getElem?_getD, List.getElem?_eq_getElem h]
  rfl
theorem pnP_end {zs : List Int} {k : Nat} (h : zs.length ≤ k) (acc : Int) : pnP k (zs.drop k) acc = acc := by
  rw [List.drop_eq_nil_of_le h, pnP]
theorem len_full {v : Int} (h : 0 ≤ v) : (canOf v).length ≤ 40 ↔ v < Pw 40 := by
  obtain ⟨hc, hv⟩ := canOf_spec h
  constructor
  · intro hl
    have h1 := val_lt hc.1
    rw [hv] at h1
    exact Int.lt_of_lt_of_le h1 (Pw_mono hl)
  · intro hl
    exact can_len hc (by rw [hv]; exact hl)

noncomputable def pnOk (zs : List Int) : Bool := decide (zs.length ≤ 24) && digB 801 zs
noncomputable def pnL (zs : List Int) : List Int := if pnOk zs = true ∧ pnP 0 zs 1 < Pw 40 then canOf (pnP 0 zs 1) else []
noncomputable def pnC (zs : List Int) : Int := if pnOk zs = true then (if pnP 0 zs 1 < Pw 40 then 0 else 5) else 2
theorem pn_bad {zs : List Int} (h : pnOk zs = false) : pnL zs = [] ∧ pnC zs = 2 := by simp [pnL, pnC, h]
theorem pn_full {zs : List Int} (h : pnOk zs = true) (hp : Pw 40 ≤ pnP 0 zs 1) : pnL zs = [] ∧ pnC zs = 5 := by
  have : ¬ pnP 0 zs 1 < Pw 40 := by omega
  simp [pnL, pnC, h, this]
theorem pn_good {zs : List Int} (h : pnOk zs = true) (hp : pnP 0 zs 1 < Pw 40) : pnL zs = canOf (pnP 0 zs 1) ∧ pnC zs = 0 := by
  simp [pnL, pnC, h, hp]
theorem pnOk_yes {zs : List Int} (h : zs.length ≤ 24) (hd : Dig 801 zs) : pnOk zs = true := by
  have : digB 801 zs = true := digB_true hd
  simp [pnOk, h, this]
theorem pnOk_long {zs : List Int} (h : ¬ zs.length ≤ 24) : pnOk zs = false := by simp [pnOk, h]
theorem pnOk_dig {zs : List Int} (h : digB 801 zs = false) : pnOk zs = false := by simp [pnOk, h]
theorem pnOk_inv {zs : List Int} (h : pnOk zs = true) : zs.length ≤ 24 ∧ Dig 801 zs := by
  simp only [pnOk, Bool.and_eq_true, decide_eq_true_eq] at h
  exact ⟨h.1, by simpa [digB] using h.2⟩
/-- The state of both loops. -/
structure PnS (zs : List Int) (k : Nat) (acc : Int) : Prop where
  le : k ≤ zs.length
  pos : 1 ≤ acc
  fit : acc < Pw 40
  eq : pnP k (zs.drop k) acc = pnP 0 zs 1
theorem PnS.start (zs : List Int) : PnS zs 0 1 := ⟨Nat.zero_le _, by omega, by decide, by simp⟩
theorem PnS.mid {zs : List Int} {k : Nat} {acc : Int} (h : PnS zs k acc) (hl : zs.length ≤ 24) (hk : k < zs.length) (j : Nat) : 1 ≤ acc * (prA k : Int) ^ j := by
  have hp := prA_two (k := k) (by omega)
  exact (mul_one_le h.pos (pow_one_le (by omega) j)).1
/-- A part that is too great makes the whole too great. -/
theorem PnS.full {zs : List Int} {k j : Nat} {acc : Int} (h : PnS zs k acc) (hl : zs.length ≤ 24) (hk : k < zs.length) (hj : j ≤ (zs.getD k 0).toNat + 1) (hf : Pw 40 ≤ acc * (prA k : Int) ^ j) : Pw 40 ≤ pnP 0 zs 1 := by
  have hp := prA_two (k := k) (by omega)
  have h1 := pow_le_pow' (p := (prA k : Int)) (by omega) hj
  have h2 := Int.mul_le_mul_of_nonneg_left h1 (show 0 ≤ acc by have := h.pos; omega)
  have h3 := pnP_ge (zs.drop (k + 1)) (k + 1) (acc * (prA k : Int) ^ ((zs.getD k 0).toNat + 1)) (by rw [List.length_drop]; omega) (h.mid hl hk _)
  rw [← pnP_step hk, h.eq] at h3
  omega
theorem PnS.full2 {zs : List Int} {k j : Nat} {acc : Int} (h : PnS zs k acc) (hl : zs.length ≤ 24) (hk : k < zs.length) (hj : j ≤ (zs.getD k 0).toNat + 1) (hf : Pw 40 ≤ (prA k : Int) ^ j) : Pw 40 ≤ pnP 0 zs 1 := by
  have hp := prA_two (k := k) (by omega)
  exact h.full hl hk hj (Int.le_trans hf (mul_one_le h.pos (pow_one_le (p := (prA k : Int)) (by omega) j)).2.2)
theorem PnS.step {zs : List Int} {k : Nat} {acc : Int} (h : PnS zs k acc) (hl : zs.length ≤ 24) (hk : k < zs.length) (hf : acc * (prA k : Int) ^ ((zs.getD k 0).toNat + 1) < Pw 40) : PnS zs (k + 1) (acc * (prA k : Int) ^ ((zs.getD k 0).toNat + 1)) :=
  ⟨by omega, h.mid hl hk _, hf, by rw [← pnP_step hk]; exact h.eq⟩
theorem PnS.done {zs : List Int} {acc : Int} (h : PnS zs zs.length acc) : pnP 0 zs 1 = acc ∧ pnP 0 zs 1 < Pw 40 := by
  have := h.eq
  rw [pnP_end (Nat.le_refl _)] at this
  exact ⟨this.symm, by rw [← this]; exact h.fit⟩
theorem powP_val {ps : List Int} (h : Can ps) : ∀ k : Nat, val (powP ps k) = val ps ^ k
  | 0 => by simp [powP, val]
  | k + 1 => by
    rw [powP, (mul_fits (powP_can h k) h).2.1, powP_val h k, Int.pow_succ]
theorem powP_canOf {ps : List Int} (h : Can ps) (k : Nat) : powP ps k = canOf (val ps ^ k) := by
  rw [← powP_val h k, canOf_val (powP_can h k)]
theorem powB_no {ps : List Int} {e : Nat} (h : powB ps e = false) : ∃ j, j ≤ e ∧ ¬ (powP ps j).length ≤ 40 := by
  have h2 : ¬ PowOk ps e := by simpa [powB] using h
  rcases Classical.em (∃ j, j ≤ e ∧ ¬ (powP ps j).length ≤ 40) with hj | hj
  · exact hj
  · exact absurd (fun j hje => Classical.byContradiction fun hc => hj ⟨j, hje, hc⟩) h2
end Go.Proofs.Ytoppaipiibaocaa.Ints
