/- What is reached in a program of a register machine: the predicate, and what the two searches leave at their ends. -/
import Derived.Test.YteihfohjmjlanaaDoorPrg
namespace Go.Proofs.YteihfohjmjlanaaDoor.Ints
open Go.RowKit
set_option linter.unusedVariables false
set_option linter.unusedSimpArgs false
/-- Where an instruction leads on to. -/
def nxI (r : Ins) : List Int := if r.kd = 1 then [r.th, r.el] else [r.th]
inductive Rch (rs : List Ins) : Nat → Prop
  | zero : 0 < rs.length → Rch rs 0
  | step {i j : Nat} : Rch rs i → (j : Int) ∈ nxI (rs.getD i zIns) → j < rs.length → Rch rs j
theorem Rch.lt {rs : List Ins} {i : Nat} (h : Rch rs i) : i < rs.length := by cases h <;> assumption
/-- The program's search: marks bs, found numbers fs, those before k looked at. -/
structure Fnd (rs : List Ins) (bs : List Bool) (fs : List Int) (k : Nat) : Prop where
  len : bs.length = rs.length
  zero : 0 ∈ fs
  sound : ∀ m, bs.getD m false = true → Rch rs m ∧ ∀ x ∈ nxI (rs.getD m zIns), x ∈ fs
  from' : ∀ x ∈ fs, x = 0 ∨ ∃ m, bs.getD m false = true ∧ x ∈ nxI (rs.getD m zIns)
  seen : ∀ i, i < k → ∀ j : Nat, fs.getD i 0 = (j : Int) → j < rs.length → bs.getD j false = true
theorem Fnd.done {rs : List Ins} {bs : List Bool} {fs : List Int} (h : Fnd rs bs fs fs.length) (i : Nat) : bs.getD i false = true ↔ Rch rs i := by
  have hin : ∀ j : Nat, (j : Int) ∈ fs → j < rs.length → bs.getD j false = true := fun j hj hl => by
    obtain ⟨p, hp, hpx⟩ := List.getElem_of_mem hj
    exact h.seen p hp j (by rw [List.getD_eq_getElem?_getD, List.getElem?_eq_getElem hp, hpx]; rfl) hl
  constructor
  · exact fun hb => (h.sound i hb).1
  · intro hr
    induction hr with
    | zero h0 => exact hin 0 (by simpa using h.zero) h0
    | step _ hx hl ih => exact hin _ ((h.sound _ ih).2 _ hx) hl
theorem Fnd.skip {rs : List Ins} {bs : List Bool} {fs : List Int} {k : Nat} (h : Fnd rs bs fs k) (hs : ∀ j : Nat, fs.getD k 0 = (j : Int) → j < rs.length → bs.getD j false = true) : Fnd rs bs fs (k + 1) :=
  ⟨h.len, h.zero, h.sound, h.from', fun i hi j hj hl => by
    by_cases e : i = k
    · subst e; exact hs j hj hl
    · exact h.seen i (by omega) j hj hl⟩
theorem Fnd.mark {rs : List Ins} {bs : List Bool} {fs : List Int} {k n : Nat} (h : Fnd rs bs fs k) (hk : k < fs.length) (hn : fs.getD k 0 = (n : Int)) (hl : n < rs.length) :
    Fnd rs (bs.set n true) (fs ++ nxI (rs.getD n zIns)) (k + 1) := by
  have hset : ∀ m, (bs.set n true).getD m false = true ↔ m = n ∨ bs.getD m false = true := fun m => by
    have := h.len
    simp only [List.getD_eq_getElem?_getD, List.getElem?_set]
    by_cases e : n = m
    · subst e; simp [show n < bs.length by omega]
    · simp [e, show m ≠ n from fun h => e h.symm]
  have hrn : Rch rs n := by
    have hm : (n : Int) ∈ fs := by
      rw [← hn, List.getD_eq_getElem?_getD, List.getElem?_eq_getElem hk]
      exact List.getElem_mem hk
    rcases h.from' _ hm with h0 | ⟨m, hm, hx⟩
    · have : n = 0 := by omega
      subst this; exact .zero hl
    · exact .step (h.sound m hm).1 hx hl
  have hold : ∀ i, i < fs.length → (fs ++ nxI (rs.getD n zIns)).getD i 0 = fs.getD i 0 := fun i hi => by
    simp [List.getD_eq_getElem?_getD, List.getElem?_append_left hi]
  refine ⟨by simp [h.len], by simp [h.zero], fun m hm => ?_, fun x hx => ?_, fun i hi j hj hl' => ?_⟩
  · rcases (hset m).1 hm with rfl | hm
    · exact ⟨hrn, fun x hx => List.mem_append_right _ hx⟩
    · exact ⟨(h.sound m hm).1, fun x hx => List.mem_append_left _ ((h.sound m hm).2 x hx)⟩
  · rcases List.mem_append.1 hx with hx | hx
    · rcases h.from' x hx with h0 | ⟨m, hm, hx'⟩
      · exact .inl h0
      · exact .inr ⟨m, (hset m).2 (.inr hm), hx'⟩
    · exact .inr ⟨n, (hset n).2 (.inl rfl), hx⟩
  · by_cases e : i = k
    · subst e
      rw [hold i hk, hn] at hj
      exact (hset j).2 (.inl (by omega))
    · rw [hold i (by omega)] at hj
      exact (hset j).2 (.inr (h.seen i (by omega) j hj hl'))
/-- The model's search: a list without doubles, what is before k looked at. -/
structure Mdl (rs : List Ins) (fs : List Int) (k : Nat) : Prop where
  nodup : fs.Nodup
  sound : ∀ x ∈ fs, ∃ j : Nat, x = (j : Int) ∧ Rch rs j
  zero : 0 < rs.length → 0 ∈ fs
  seen : ∀ i, i < k → ∀ j m : Nat, fs.getD i 0 = (m : Int) → (j : Int) ∈ nxI (rs.getD m zIns) → j < rs.length → (j : Int) ∈ fs
theorem Mdl.done {rs : List Ins} {fs : List Int} (h : Mdl rs fs fs.length) (j : Nat) : (j : Int) ∈ fs ↔ Rch rs j := by
  constructor
  · intro hj
    obtain ⟨i, hi, hr⟩ := h.sound _ hj
    have : j = i := by omega
    subst this; exact hr
  · intro hr
    induction hr with
    | zero h0 => simpa using h.zero h0
    | @step i j _ hx hl ih =>
      obtain ⟨p, hp, hpx⟩ := List.getElem_of_mem ih
      exact h.seen p hp j i (by rw [List.getD_eq_getElem?_getD, List.getElem?_eq_getElem hp, hpx]; rfl) hx hl
theorem Mdl.put {rs : List Ins} {fs : List Int} {k j m : Nat} (h : Mdl rs fs k) (hk : k < fs.length) (hm : fs.getD k 0 = (m : Int)) (hx : (j : Int) ∈ nxI (rs.getD m zIns)) (hl : j < rs.length) (hn : (j : Int) ∉ fs) : Mdl rs (fs ++ [(j : Int)]) k := by
  have hold : ∀ i, i < fs.length → (fs ++ [(j : Int)]).getD i 0 = fs.getD i 0 := fun i hi => by
    simp [List.getD_eq_getElem?_getD, List.getElem?_append_left hi]
  have hrm : Rch rs m := by
    have hmm : (m : Int) ∈ fs := by
      rw [← hm, List.getD_eq_getElem?_getD, List.getElem?_eq_getElem hk]
      exact List.getElem_mem hk
    obtain ⟨i, hi, hr⟩ := h.sound _ hmm
    have : m = i := by omega
    subst this; exact hr
  refine ⟨?_, fun x hx' => ?_, fun h0 => List.mem_append_left _ (h.zero h0), fun i hi j' m' hm' hx' hl' => ?_⟩
  · rw [List.nodup_append]
    refine ⟨h.nodup, by simp, fun a ha b hb => ?_⟩
    simp at hb
    subst hb
    exact fun e => hn (e ▸ ha)
  · rcases List.mem_append.1 hx' with hx' | hx'
    · exact h.sound x hx'
    · simp at hx'
      exact ⟨j, hx', .step hrm hx hl⟩
  · rw [hold i (by omega)] at hm'
    exact List.mem_append_left _ (h.seen i hi j' m' hm' hx' hl')
theorem Mdl.next {rs : List Ins} {fs : List Int} {k m : Nat} (h : Mdl rs fs k) (hm : fs.getD k 0 = (m : Int)) (hs : ∀ j : Nat, (j : Int) ∈ nxI (rs.getD m zIns) → j < rs.length → (j : Int) ∈ fs) : Mdl rs fs (k + 1) :=
  ⟨h.nodup, h.sound, h.zero, fun i hi j m' hm' hx hl => by
    by_cases e : i = k
    · subst e
      have : m' = m := by omega
      subst this; exact hs j hx hl
    · exact h.seen i (by omega) j m' hm' hx hl⟩
end Go.Proofs.YteihfohjmjlanaaDoor.Ints
