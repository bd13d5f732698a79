/- Lists in products of powers of primes: values and plain lemmas. -/
import Derived.Test.YtoppaipiibaocaaPrI
import Derived.Test.YtoppaipiibaocaaEx1
import Derived.Test.YtoppaipiibaocaaDg
namespace Go.Proofs.Ytoppaipiibaocaa.Ints
open Go.RowKit
open Math (prA prA_in)
set_option linter.unusedVariables false
set_option linter.unusedSimpArgs false
theorem prA_two2 {k : Nat} (h : k < 24) : 2 ≤ (prA k : Int) ∧ (prA k : Int) ≤ 89 := by
  have h0 : 2 ≤ prA k ∧ prA k ≤ 89 ∧ Math.isP (prA k) = true := prA_in ⟨k, h⟩
  have h1 := h0.1
  have h2 := h0.2.1
  exact ⟨by omega, by omega⟩
noncomputable def plF : Nat → Nat → List Int → List Int × List Int
  | 0, _, xs => ([], xs)
  | c + 1, k, xs => if vlN xs (prA k : Int) = 0 then ([], xs) else (((vlN xs (prA k : Int) : Int) - 1) :: (plF c (k + 1) (canOf (rsN xs (prA k : Int)))).1, (plF c (k + 1) (canOf (rsN xs (prA k : Int)))).2)
noncomputable def plR (n : List Int) : List Int × List Int := plF 24 0 n
noncomputable def plV (n : List Int) : List Int := if natB n = true ∧ 0 < n.length ∧ (plR n).2 = [1] then (plR n).1 else []
noncomputable def plC (n : List Int) : Int := if natB n = true then (if 0 < n.length ∧ (plR n).2 = [1] then 0 else 3) else 1
theorem pl_bad {n : List Int} (h : natB n = false) : plV n = [] ∧ plC n = 1 := by simp [plV, plC, h]
theorem pl_none {n : List Int} (h : natB n = true) (k : ¬ (0 < n.length ∧ (plR n).2 = [1])) : plV n = [] ∧ plC n = 3 := by
  rw [plV, plC, if_neg (fun H => k H.2), if_pos h, if_neg k]; exact ⟨rfl, rfl⟩
theorem pl_good {n : List Int} (h : natB n = true) (k : 0 < n.length) (q : (plR n).2 = [1]) : plV n = (plR n).1 ∧ plC n = 0 := by
  rw [plV, plC, if_pos ⟨h, k, q⟩, if_pos h, if_pos ⟨k, q⟩]; exact ⟨rfl, rfl⟩
structure PlS (n : List Int) (k : Nat) (done xs : List Int) : Prop where
  le : k ≤ 24
  len : done.length = k
  one : done ++ (plF (24 - k) k xs).1 = (plR n).1
  two : (plF (24 - k) k xs).2 = (plR n).2
  nat : natB xs = true
  pos : 0 < xs.length
theorem PlS.start {n : List Int} (h : natB n = true) (k : 0 < n.length) : PlS n 0 [] n := ⟨by omega, rfl, rfl, rfl, h, k⟩
theorem PlS.step {n done xs : List Int} {k : Nat} (h : PlS n k done xs) (hk : k < 24) (he : vlN xs (prA k : Int) ≠ 0) : PlS n (k + 1) (done ++ [(vlN xs (prA k : Int) : Int) - 1]) (canOf (rsN xs (prA k : Int))) := by
  have hp := prA_two2 hk
  obtain ⟨f1, f2, _, _⟩ := rs_fits h.nat h.pos (p := (prA k : Int)) (by omega)
  have e : 24 - k = (24 - (k + 1)) + 1 := by omega
  have h1 := h.one
  have h2 := h.two
  rw [e, plF, if_neg he] at h1 h2
  exact ⟨by omega, by simp [h.len], by rw [← h1]; simp, h2, f1, f2⟩
theorem PlS.stop {n done xs : List Int} {k : Nat} (h : PlS n k done xs) (hk : k < 24) (he : vlN xs (prA k : Int) = 0) : (plR n).1 = done ∧ (plR n).2 = xs := by
  have e : 24 - k = (24 - (k + 1)) + 1 := by omega
  have h1 := h.one
  have h2 := h.two
  rw [e, plF, if_pos he] at h1 h2
  exact ⟨by rw [← h1]; simp, h2.symm⟩
theorem PlS.last {n done xs : List Int} (h : PlS n 24 done xs) : (plR n).1 = done ∧ (plR n).2 = xs := by
  have h1 := h.one
  have h2 := h.two
  simp only [Nat.sub_self, plF, List.append_nil] at h1 h2
  exact ⟨h1.symm, h2.symm⟩
/-- With no factor nothing is taken. -/
theorem rs_none {xs : List Int} {p : Int} (h : natB xs = true) (h0 : 0 < xs.length) (he : vlN xs p = 0) : canOf (rsN xs p) = xs := by
  obtain ⟨hc, hl⟩ := natB_can h
  have hv := val_pos hc h0
  have := vl_zero (f := (val xs).toNat) (m := val xs) (p := p) hv (by omega) he
  rw [rsN, rsF_stop this]
  exact canOf_val hc
end Go.Proofs.Ytoppaipiibaocaa.Ints
