/- StepCounters: the model's and the program's. -/
import Derived.Test.YtkjoakdepjpkhaaDoorBhC
namespace Go.Proofs.YtkjoakdepjpkhaaDoor.Ints
open Go.RowKit
set_option linter.unusedVariables false
set_option linter.unusedSimpArgs false
noncomputable def scC (rs : List Ins) (at' a b : Int) : Int :=
  if vcB rs at' a b = true then (if at' = (rs.length : Int) then 6 else if cnV (rs.getD at'.toNat zIns) a b ≤ 1000000000000 then 0 else 5) else 1
noncomputable def scAt (rs : List Ins) (at' a b : Int) : Int := if scC rs at' a b = 0 then cnAt (rs.getD at'.toNat zIns) a b else 0
noncomputable def scA (rs : List Ins) (at' a b : Int) : Int := if scC rs at' a b = 0 then cnA (rs.getD at'.toNat zIns) a b else 0
noncomputable def scB (rs : List Ins) (at' a b : Int) : Int := if scC rs at' a b = 0 then cnB (rs.getD at'.toNat zIns) a b else 0
theorem sc_bad {rs : List Ins} {at' a b : Int} (h : vcB rs at' a b = false) : scC rs at' a b = 1 ∧ scAt rs at' a b = 0 ∧ scA rs at' a b = 0 ∧ scB rs at' a b = 0 := by
  have : scC rs at' a b = 1 := by simp [scC, h]
  simp [scAt, scA, scB, this]
theorem sc_halt {rs : List Ins} {at' a b : Int} (h : vcB rs at' a b = true) (k : at' = (rs.length : Int)) : scC rs at' a b = 6 ∧ scAt rs at' a b = 0 ∧ scA rs at' a b = 0 ∧ scB rs at' a b = 0 := by
  have : scC rs at' a b = 6 := by rw [scC, if_pos h, if_pos k]
  simp [scAt, scA, scB, this]
theorem sc_full {rs : List Ins} {at' a b : Int} (h : vcB rs at' a b = true) (k : at' ≠ (rs.length : Int)) (q : ¬ cnV (rs.getD at'.toNat zIns) a b ≤ 1000000000000) : scC rs at' a b = 5 ∧ scAt rs at' a b = 0 ∧ scA rs at' a b = 0 ∧ scB rs at' a b = 0 := by
  have : scC rs at' a b = 5 := by rw [scC, if_pos h, if_neg k, if_neg q]
  simp [scAt, scA, scB, this]
theorem sc_next {rs : List Ins} {at' a b : Int} (h : vcB rs at' a b = true) (k : at' ≠ (rs.length : Int)) (q : cnV (rs.getD at'.toNat zIns) a b ≤ 1000000000000) :
    scC rs at' a b = 0 ∧ scAt rs at' a b = cnAt (rs.getD at'.toNat zIns) a b ∧ scA rs at' a b = cnA (rs.getD at'.toNat zIns) a b ∧ scB rs at' a b = cnB (rs.getD at'.toNat zIns) a b := by
  have : scC rs at' a b = 0 := by rw [scC, if_pos h, if_neg k, if_pos q]
  simp [scAt, scA, scB, this]
/-- The step of the run is that of the counters. -/
theorem st_cn (rs : List Ins) (k : Nat) (a b : Int) (hp : Pok rs) (hl : ∀ i, i < rs.length → (rs.getD i zIns).rg ≤ 1) (hk : k < rs.length) (ha : 0 ≤ a) (hb : 0 ≤ b) :
    stAt rs k [a, b] = cnAt (rs.getD k zIns) a b ∧ stCs rs k [a, b] = [cnA (rs.getD k zIns) a b, cnB (rs.getD k zIns) a b] := by
  obtain ⟨⟨h0, _⟩, _, hkd⟩ := hp.all k hk
  have h1 := hl k hk
  unfold stAt stCs cnAt cnA cnB cnV
  obtain ⟨r, hr⟩ : ∃ r, r = rs.getD k zIns := ⟨_, rfl⟩
  rw [← hr] at h0 h1 hkd ⊢
  obtain ⟨x, y, th, el⟩ := r
  dsimp only at h0 h1 hkd ⊢
  have hx : x = 0 ∨ x = 1 := by omega
  have hy : y = 0 ∨ y = 1 := by omega
  rcases hy with rfl | rfl
  · by_cases hz : a = 0
    · subst hz; rcases hx with rfl | rfl <;> simp
    · have : 0 < a := by omega
      rcases hx with rfl | rfl <;> simp [hz, this]
  · by_cases hz : b = 0
    · subst hz; rcases hx with rfl | rfl <;> simp
    · have : 0 < b := by omega
      rcases hx with rfl | rfl <;> simp [hz, this]
theorem full_cn (rs : List Ins) (k : Nat) (a b : Int) (hp : Pok rs) (hl : ∀ i, i < rs.length → (rs.getD i zIns).rg ≤ 1) (hk : k < rs.length) (ha : 0 ≤ a ∧ a ≤ 1000000000000) (hb : 0 ≤ b ∧ b ≤ 1000000000000) :
    ((rs.getD k zIns).kd = 0 ∧ [a, b].getD (rs.getD k zIns).rg.toNat 0 = 1000000000000) ↔ ¬ cnV (rs.getD k zIns) a b ≤ 1000000000000 := by
  obtain ⟨⟨h0, _⟩, _, hkd⟩ := hp.all k hk
  have h1 := hl k hk
  unfold cnV
  obtain ⟨r, hr⟩ : ∃ r, r = rs.getD k zIns := ⟨_, rfl⟩
  rw [← hr] at h0 h1 hkd ⊢
  obtain ⟨x, y, th, el⟩ := r
  dsimp only at h0 h1 hkd ⊢
  have hx : x = 0 ∨ x = 1 := by omega
  have hy : y = 0 ∨ y = 1 := by omega
  rcases hy with rfl | rfl
  · rcases hx with rfl | rfl
    · simp; omega
    · simp; split <;> omega
  · rcases hx with rfl | rfl
    · simp; omega
    · simp; split <;> omega
end Go.Proofs.YtkjoakdepjpkhaaDoor.Ints
