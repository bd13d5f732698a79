/- A part that stands in a word at a place: the model's l03At and l03Find, the program's startsWith and placeOf. -/
import Derived.Test.YtfnopnaaahkklaaSame
namespace Go.Proofs.Ytfnopnaaahkklaa.Ints
open Go.RowKit
set_option linter.unusedVariables false

def occB (zs : List Int) (k : Nat) (ps : List Int) : Bool := decide ((zs.drop k).take ps.length = ps)
theorem occ_no {zs ps : List Int} {k : Nat} (h : ¬ k + ps.length ≤ zs.length) (hk : k ≤ zs.length) : occB zs k ps = false := by
  simp only [occB, decide_eq_false_iff_not]
  intro e
  have := congrArg List.length e
  simp at this
  omega
theorem occ_cut (zs ps : List Int) (k : Nat) : (zs.take (k + ps.length)).drop k = (zs.drop k).take ps.length := by
  rw [List.drop_take]; congr 1; omega
theorem Rd.cut {w : World} {a : Option Addr} {n c : Nat} {zs : List Int} (h : Rd w (.slice a n c) zs) (l m : Nat) (hl : l ≤ m) (hm : m ≤ zs.length) :
    Rd w (.slice (if c = l then a else a.map (·.add l)) (m - l) (c - l)) ((zs.take m).drop l) := by
  obtain ⟨hlen, hf, a', c', hv, hcap, hr⟩ := h
  simp only [Value.slice.injEq] at hv
  obtain ⟨rfl, rfl, rfl⟩ := hv
  have e : ((zs.take m).drop l).length = m - l := by simp; omega
  refine ⟨by rw [e]; omega, fun z hz => hf z (List.mem_of_mem_take (List.mem_of_mem_drop hz)), _, _, by rw [e], by rw [e]; omega, fun hne => ?_⟩
  have hlt : l < m := by
    rcases Nat.lt_or_ge l m with h | h
    · exact h
    · exact absurd (List.eq_nil_of_length_eq_zero (by rw [e]; omega)) hne
  obtain ⟨b, o, rfl, hb, hc⟩ := hr (by intro h0; subst h0; simp at hm; omega)
  have hcl : ¬ c = l := by omega
  rw [if_neg hcl]
  refine ⟨b, o + l, by simp [Addr.add_lit], hb, fun i hi => ?_⟩
  rw [e] at hi
  rw [Nat.add_assoc, hc (l + i) (by omega)]
  congr 2
  simp only [List.getD_eq_getElem?_getD, List.getElem?_drop, List.getElem?_take]
  rw [if_pos (by omega)]
theorem Rd.front {w : World} {a : Option Addr} {n c : Nat} {zs : List Int} (h : Rd w (.slice a n c) zs) (m : Nat) (hm : m ≤ zs.length) : Rd w (.slice a m c) (zs.take m) := by
  obtain ⟨hlen, hf, a', c', hv, hcap, hr⟩ := h
  simp only [Value.slice.injEq] at hv
  obtain ⟨rfl, rfl, rfl⟩ := hv
  have e : (zs.take m).length = m := by simp; omega
  refine ⟨by rw [e]; omega, fun z hz => hf z (List.mem_of_mem_take hz), _, _, by rw [e], by rw [e]; omega, fun hne => ?_⟩
  have hlt : 0 < m := by
    rcases Nat.eq_zero_or_pos m with h | h
    · subst h; simp at hne
    · exact h
  obtain ⟨b, o, rfl, hb, hc⟩ := hr (by intro h0; subst h0; simp at hm; omega)
  refine ⟨b, o, rfl, hb, fun i hi => ?_⟩
  rw [e] at hi
  rw [hc i (by omega)]
  congr 2
  simp only [List.getD_eq_getElem?_getD, List.getElem?_take]
  rw [if_pos (by omega)]
theorem take_none {xs ps : List Int} (h : ¬ ps.length ≤ xs.length) : decide (xs.take ps.length = ps) = false := by
  simp only [decide_eq_false_iff_not]
  intro e
  have := congrArg List.length e
  simp at this
  omega
/-- The first place from s on, with the number of candidates as fuel. -/
def findF (zs ps : List Int) : Nat → Nat → Int
  | 0, _ => -1
  | f + 1, s => if occB zs s ps = true then (s : Int) else findF zs ps f (s + 1)
def findL (zs ps : List Int) (s : Nat) : Int := findF zs ps (zs.length + 1 - ps.length - s) s
theorem findL_stop {zs ps : List Int} {s : Nat} (h : ¬ s + ps.length ≤ zs.length) : findL zs ps s = -1 := by
  rw [findL, show zs.length + 1 - ps.length - s = 0 by omega, findF]
theorem findL_hit {zs ps : List Int} {s : Nat} (h : s + ps.length ≤ zs.length) (ho : occB zs s ps = true) : findL zs ps s = s := by
  rw [findL, show zs.length + 1 - ps.length - s = (zs.length + 1 - ps.length - (s + 1)) + 1 by omega, findF, if_pos ho]
theorem findL_next {zs ps : List Int} {s : Nat} (h : s + ps.length ≤ zs.length) (ho : occB zs s ps = false) : findL zs ps s = findL zs ps (s + 1) := by
  rw [findL, show zs.length + 1 - ps.length - s = (zs.length + 1 - ps.length - (s + 1)) + 1 by omega, findF, if_neg (by rw [ho]; simp), findL]
theorem findF_range (zs ps : List Int) (f : Nat) : ∀ s, findF zs ps f s = -1 ∨ ∃ k : Nat, findF zs ps f s = k ∧ s ≤ k ∧ k < s + f ∧ occB zs k ps = true := by
  induction f with
  | zero => intro s; exact .inl rfl
  | succ f ih =>
    intro s
    rw [findF]
    by_cases ho : occB zs s ps = true
    · rw [if_pos ho]; exact .inr ⟨s, rfl, Nat.le_refl _, by omega, ho⟩
    · rw [if_neg ho]
      rcases ih (s + 1) with h | ⟨k, h, h1, h2, h3⟩
      · exact .inl h
      · exact .inr ⟨k, h, by omega, by omega, h3⟩
theorem findL_range (zs ps : List Int) (s : Nat) : findL zs ps s = -1 ∨ ∃ k : Nat, findL zs ps s = k ∧ s ≤ k ∧ k + ps.length ≤ zs.length ∧ occB zs k ps = true := by
  rcases findF_range zs ps (zs.length + 1 - ps.length - s) s with h | ⟨k, h, h1, h2, h3⟩
  · exact .inl h
  · exact .inr ⟨k, h, h1, by omega, h3⟩
end Go.Proofs.Ytfnopnaaahkklaa.Ints
