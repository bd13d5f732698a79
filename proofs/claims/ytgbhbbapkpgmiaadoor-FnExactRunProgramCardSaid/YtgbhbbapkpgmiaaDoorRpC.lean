/- The run of a store (plain lemmas). -/
import Derived.Test.YtgbhbbapkpgmiaaDoorSpI
namespace Go.Proofs.YtgbhbbapkpgmiaaDoor.Ints
open Go.RowKit
set_option linter.unusedVariables false
set_option linter.unusedSimpArgs false
/-- A store of a program of n instructions. -/
def SOk (n : Nat) (at' : Int) (cs : List Int) : Prop := (0 ≤ at' ∧ at' ≤ (n : Int)) ∧ cs.length = 24 ∧ Dig 1000001 cs
theorem dig_set {cs : List Int} (h : Dig 1000001 cs) (m : Nat) {x : Int} (hx : 0 ≤ x ∧ x ≤ 1000000) : Dig 1000001 (cs.set m x) := by
  intro i hi
  rw [List.length_set] at hi
  by_cases e : m = i
  · subst e
    have : (cs.set m x).getD m 0 = x := by simp [List.getD, hi]
    rw [this]; omega
  · have : (cs.set m x).getD i 0 = cs.getD i 0 := by simp [List.getD, List.getElem?_set_ne e]
    rw [this]; exact h i hi
theorem sp_ok {rs : List Ins} {k : Nat} {cs : List Int} (hp : Pok rs) (hk : k < rs.length) (hc : SOk rs.length (k : Int) cs) (hv : ¬ fullP rs k cs) : SOk rs.length (stAt rs k cs) (stCs rs k cs) := by
  obtain ⟨⟨h0, _⟩, ⟨t0, t1⟩, hkd⟩ := hp.all k hk
  obtain ⟨_, hl, hd⟩ := hc
  have hcb := dig_all hd (rs.getD k zIns).rg.toNat
  unfold fullP at hv
  unfold SOk stAt stCs
  obtain ⟨c, hcc⟩ : ∃ c, c = cs.getD (rs.getD k zIns).rg.toNat 0 := ⟨_, rfl⟩
  rw [← hcc] at hcb hv ⊢
  obtain ⟨r, hr⟩ : ∃ r, r = rs.getD k zIns := ⟨_, rfl⟩
  rw [← hr] at h0 hkd hv t0 t1 ⊢
  obtain ⟨x, y, th, el⟩ := r
  dsimp only at h0 hkd hv t0 t1 ⊢
  rcases hkd with ⟨rfl, rfl⟩ | ⟨rfl, e0, e1⟩
  · rw [if_pos rfl, if_pos rfl]
    exact ⟨⟨t0, t1⟩, by simp [hl], dig_set hd _ ⟨by omega, by have : ¬ c = 1000000 := fun q => hv ⟨rfl, q⟩; omega⟩⟩
  · simp only [show ((1 : Int) = 0) = False by simp, if_false]
    by_cases hz : 0 < c
    · rw [if_pos hz, if_pos hz]
      exact ⟨⟨t0, t1⟩, by simp [hl], dig_set hd _ ⟨by omega, by omega⟩⟩
    · rw [if_neg hz, if_neg hz]
      exact ⟨⟨by omega, by omega⟩, hl, hd⟩
/-- What a run ends in. -/
structure Rse where
  code : Int
  at' : Int
  cs : List Int
  n : Int
  h : Bool
open Classical in
noncomputable def rpF (rs : List Ins) : Nat → Int → List Int → Int → Rse
  | 0, at', cs, n => ⟨0, at', cs, n, at' == (rs.length : Int)⟩
  | f + 1, at', cs, n => if at' = (rs.length : Int) then ⟨0, at', cs, n, true⟩
      else if fullP rs at'.toNat cs then ⟨5, 0, [], 0, false⟩
      else rpF rs f (stAt rs at'.toNat cs) (stCs rs at'.toNat cs) (n + 1)
theorem rpF_halt (rs : List Ins) (f : Nat) (cs : List Int) (n : Int) : rpF rs f (rs.length : Int) cs n = ⟨0, (rs.length : Int), cs, n, true⟩ := by
  cases f with
  | zero => simp [rpF]
  | succ f => simp [rpF]
theorem rpF_zero {rs : List Ins} {k : Nat} (cs : List Int) (n : Int) (hk : k < rs.length) : rpF rs 0 (k : Int) cs n = ⟨0, (k : Int), cs, n, false⟩ := by
  have : ¬ ((k : Int) = (rs.length : Int)) := by omega
  simp [rpF]; omega
theorem rpF_next {rs : List Ins} {k : Nat} (f : Nat) (cs : List Int) (n : Int) (hk : k < rs.length) (hv : ¬ fullP rs k cs) :
    rpF rs (f + 1) (k : Int) cs n = rpF rs f (stAt rs k cs) (stCs rs k cs) (n + 1) := by
  have : ¬ ((k : Int) = (rs.length : Int)) := by omega
  rw [rpF, if_neg this, if_neg (by simpa using hv)]; rfl
theorem rpF_full {rs : List Ins} {k : Nat} (f : Nat) (cs : List Int) (n : Int) (hk : k < rs.length) (hv : fullP rs k cs) :
    rpF rs (f + 1) (k : Int) cs n = ⟨5, 0, [], 0, false⟩ := by
  have : ¬ ((k : Int) = (rs.length : Int)) := by omega
  rw [rpF, if_neg this, if_pos (by simpa using hv)]
/-- What RunProgram returns. -/
noncomputable def rpR (rs : List Ins) (at' : Int) (cs : List Int) (bu : Int) : Rse :=
  if vsB rs at' cs = true then (if 1 ≤ bu ∧ bu ≤ 20000 then rpF rs bu.toNat at' cs 0 else ⟨2, 0, [], 0, false⟩) else ⟨1, 0, [], 0, false⟩
theorem rp_bad {rs : List Ins} {at' : Int} {cs : List Int} {bu : Int} (h : vsB rs at' cs = false) : rpR rs at' cs bu = ⟨1, 0, [], 0, false⟩ := by simp [rpR, h]
theorem rp_range {rs : List Ins} {at' : Int} {cs : List Int} {bu : Int} (h : vsB rs at' cs = true) (k : ¬ (1 ≤ bu ∧ bu ≤ 20000)) : rpR rs at' cs bu = ⟨2, 0, [], 0, false⟩ := by rw [rpR, if_pos h, if_neg k]
theorem rp_good {rs : List Ins} {at' : Int} {cs : List Int} {bu : Int} (h : vsB rs at' cs = true) (k : 1 ≤ bu ∧ bu ≤ 20000) : rpR rs at' cs bu = rpF rs bu.toNat at' cs 0 := by rw [rpR, if_pos h, if_pos k]
end Go.Proofs.YtgbhbbapkpgmiaaDoor.Ints
