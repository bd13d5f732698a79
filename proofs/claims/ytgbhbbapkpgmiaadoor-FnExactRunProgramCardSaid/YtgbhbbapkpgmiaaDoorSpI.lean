/- StepProgram: the values; the program's. -/
import Derived.Test.YtgbhbbapkpgmiaaDoorBhS
namespace Go.Proofs.YtgbhbbapkpgmiaaDoor.Ints
open Go.RowKit
set_option linter.unusedVariables false
set_option linter.unusedSimpArgs false
/-- A content would be too great. -/
def fullP (rs : List Ins) (k : Nat) (cs : List Int) : Prop := (rs.getD k zIns).kd = 0 ∧ cs.getD (rs.getD k zIns).rg.toNat 0 = 1000000
open Classical in
noncomputable def spC (rs : List Ins) (at' : Int) (cs : List Int) : Int :=
  if vsB rs at' cs = true then (if at' = (rs.length : Int) then 6 else if fullP rs at'.toNat cs then 5 else 0) else 1
noncomputable def spAt (rs : List Ins) (at' : Int) (cs : List Int) : Int := if spC rs at' cs = 0 then stAt rs at'.toNat cs else 0
noncomputable def spL (rs : List Ins) (at' : Int) (cs : List Int) : List Int := if spC rs at' cs = 0 then stCs rs at'.toNat cs else []
theorem sp_bad {rs : List Ins} {at' : Int} {cs : List Int} (h : vsB rs at' cs = false) : spC rs at' cs = 1 ∧ spAt rs at' cs = 0 ∧ spL rs at' cs = [] := by
  have : spC rs at' cs = 1 := by simp [spC, h]
  simp [spAt, spL, this]
theorem sp_halt {rs : List Ins} {at' : Int} {cs : List Int} (h : vsB rs at' cs = true) (k : at' = (rs.length : Int)) : spC rs at' cs = 6 ∧ spAt rs at' cs = 0 ∧ spL rs at' cs = [] := by
  have : spC rs at' cs = 6 := by rw [spC, if_pos h, if_pos k]
  simp [spAt, spL, this]
theorem sp_full {rs : List Ins} {at' : Int} {cs : List Int} (h : vsB rs at' cs = true) (k : at' ≠ (rs.length : Int)) (q : fullP rs at'.toNat cs) : spC rs at' cs = 5 ∧ spAt rs at' cs = 0 ∧ spL rs at' cs = [] := by
  have : spC rs at' cs = 5 := by rw [spC, if_pos h, if_neg k, if_pos q]
  simp [spAt, spL, this]
theorem sp_next {rs : List Ins} {at' : Int} {cs : List Int} (h : vsB rs at' cs = true) (k : at' ≠ (rs.length : Int)) (q : ¬ fullP rs at'.toNat cs) : spC rs at' cs = 0 ∧ spAt rs at' cs = stAt rs at'.toNat cs ∧ spL rs at' cs = stCs rs at'.toNat cs := by
  have : spC rs at' cs = 0 := by rw [spC, if_pos h, if_neg k, if_neg q]
  simp [spAt, spL, this]
theorem vsB_ok {rs : List Ins} {at' : Int} {cs : List Int} (h : vsB rs at' cs = true) : Pok rs ∧ (0 ≤ at' ∧ at' ≤ (rs.length : Int)) ∧ cs.length = 24 ∧ Dig 1000001 cs := by
  simp only [vsB, stoB, Bool.and_eq_true, decide_eq_true_eq] at h
  exact ⟨progB_ok h.1, h.2.1, h.2.2.1, by have := h.2.2.2; simpa [digB] using this⟩
theorem dig_all {cs : List Int} (h : Dig 1000001 cs) : ∀ i, 0 ≤ cs.getD i 0 ∧ cs.getD i 0 ≤ 1000000 := fun i => by
  by_cases hi : i < cs.length
  · have := h i hi; omega
  · have h0 : cs.getD i 0 = 0 := by simp [List.getD, List.getElem?_eq_none (show cs.length ≤ i by omega)]
    rw [h0]; omega
theorem rg_lt {rs : List Ins} {cs : List Int} {k : Nat} (hp : Pok rs) (hl : cs.length = 24) (hk : k < rs.length) : 0 ≤ (rs.getD k zIns).rg ∧ (rs.getD k zIns).rg < (cs.length : Int) := by
  have h0 := (hp.all k hk).1
  rw [hl]
  omega
theorem Ow.nilAt {w : World} {B T : Nat} (h : B ≤ w.heap.size) : Ow w B w.heap.size (.slice none 0 0) [] := Ow.emptyUp h
end Go.Proofs.YtgbhbbapkpgmiaaDoor.Ints
