/- The run of counters (plain lemmas). -/
import Derived.Test.YtkjoakdepjpkhaaDoorStC
namespace Go.Proofs.YtkjoakdepjpkhaaDoor.Ints
open Go.RowKit
set_option linter.unusedVariables false
set_option linter.unusedSimpArgs false
theorem cn_ok {rs : List Ins} {k : Nat} {a b : Int} (hp : Pok rs) (hl : ∀ i, i < rs.length → (rs.getD i zIns).rg ≤ 1) (hk : k < rs.length) (hc : CntOk rs.length (k : Int) a b) (hv : cnV (rs.getD k zIns) a b ≤ 1000000000000) :
    CntOk rs.length (cnAt (rs.getD k zIns) a b) (cnA (rs.getD k zIns) a b) (cnB (rs.getD k zIns) a b) := by
  obtain ⟨⟨h0, _⟩, ⟨t0, t1⟩, hkd⟩ := hp.all k hk
  have h1 := hl k hk
  obtain ⟨_, ⟨a0, a1⟩, ⟨b0, b1⟩⟩ := hc
  obtain ⟨r, hr⟩ : ∃ r, r = rs.getD k zIns := ⟨_, rfl⟩
  rw [← hr] at h0 h1 hkd hv t0 t1 ⊢
  obtain ⟨x, y, th, el⟩ := r
  unfold cnV at hv
  unfold CntOk cnAt cnA cnB cnV
  dsimp only at h0 h1 hkd hv t0 t1 ⊢
  have hy : y = 0 ∨ y = 1 := by omega
  rcases hy with rfl | rfl
  · rcases hkd with ⟨rfl, rfl⟩ | ⟨rfl, e0, e1⟩
    · simp at hv ⊢; omega
    · by_cases hz : a = 0
      · subst hz; simp; omega
      · simp [hz] at hv ⊢; omega
  · rcases hkd with ⟨rfl, rfl⟩ | ⟨rfl, e0, e1⟩
    · simp at hv ⊢; omega
    · by_cases hz : b = 0
      · subst hz; simp; omega
      · simp [hz] at hv ⊢; omega
/-- What a run ends in. -/
structure Rce where
  code : Int
  at' : Int
  a : Int
  b : Int
  n : Int
  h : Bool
def rcF (rs : List Ins) : Nat → Int → Int → Int → Int → Rce
  | 0, at', a, b, n => ⟨0, at', a, b, n, at' == (rs.length : Int)⟩
  | f + 1, at', a, b, n => if at' = (rs.length : Int) then ⟨0, at', a, b, n, true⟩
      else if cnV (rs.getD at'.toNat zIns) a b ≤ 1000000000000 then rcF rs f (cnAt (rs.getD at'.toNat zIns) a b) (cnA (rs.getD at'.toNat zIns) a b) (cnB (rs.getD at'.toNat zIns) a b) (n + 1)
      else ⟨5, 0, 0, 0, 0, false⟩
theorem rcF_halt (rs : List Ins) (f : Nat) (a b n : Int) : rcF rs f (rs.length : Int) a b n = ⟨0, (rs.length : Int), a, b, n, true⟩ := by
  cases f with
  | zero => simp [rcF]
  | succ f => simp [rcF]
theorem rcF_zero {rs : List Ins} {k : Nat} (a b n : Int) (hk : k < rs.length) : rcF rs 0 (k : Int) a b n = ⟨0, (k : Int), a, b, n, false⟩ := by
  have : ¬ ((k : Int) = (rs.length : Int)) := by omega
  simp [rcF]; omega
theorem rcF_next {rs : List Ins} {k : Nat} (f : Nat) (a b n : Int) (hk : k < rs.length) (hv : cnV (rs.getD k zIns) a b ≤ 1000000000000) :
    rcF rs (f + 1) (k : Int) a b n = rcF rs f (cnAt (rs.getD k zIns) a b) (cnA (rs.getD k zIns) a b) (cnB (rs.getD k zIns) a b) (n + 1) := by
  have : ¬ ((k : Int) = (rs.length : Int)) := by omega
  rw [rcF, if_neg this, if_pos (by simpa using hv)]; rfl
theorem rcF_full {rs : List Ins} {k : Nat} (f : Nat) (a b n : Int) (hk : k < rs.length) (hv : ¬ cnV (rs.getD k zIns) a b ≤ 1000000000000) :
    rcF rs (f + 1) (k : Int) a b n = ⟨5, 0, 0, 0, 0, false⟩ := by
  have : ¬ ((k : Int) = (rs.length : Int)) := by omega
  rw [rcF, if_neg this, if_neg (by simpa using hv)]
/-- What RunCounters returns. -/
noncomputable def rcR (rs : List Ins) (at' a b bu : Int) : Rce :=
  if vcB rs at' a b = true then (if 1 ≤ bu ∧ bu ≤ 20000 then rcF rs bu.toNat at' a b 0 else ⟨2, 0, 0, 0, 0, false⟩) else ⟨1, 0, 0, 0, 0, false⟩
theorem rc_bad {rs : List Ins} {at' a b bu : Int} (h : vcB rs at' a b = false) : rcR rs at' a b bu = ⟨1, 0, 0, 0, 0, false⟩ := by simp [rcR, h]
theorem rc_range {rs : List Ins} {at' a b bu : Int} (h : vcB rs at' a b = true) (k : ¬ (1 ≤ bu ∧ bu ≤ 20000)) : rcR rs at' a b bu = ⟨2, 0, 0, 0, 0, false⟩ := by rw [rcR, if_pos h, if_neg k]
theorem rc_good {rs : List Ins} {at' a b bu : Int} (h : vcB rs at' a b = true) (k : 1 ≤ bu ∧ bu ≤ 20000) : rcR rs at' a b bu = rcF rs bu.toNat at' a b 0 := by rw [rcR, if_pos h, if_pos k]
end Go.Proofs.YtkjoakdepjpkhaaDoor.Ints
