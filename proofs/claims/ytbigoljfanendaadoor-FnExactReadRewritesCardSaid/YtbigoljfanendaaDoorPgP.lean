/- Instructions read from texts: plain lemmas. -/
import Derived.Test.YtbigoljfanendaaDoorCut
import Derived.Test.YtbigoljfanendaaDoorRkV
import Derived.Test.YtbigoljfanendaaDoorPrg
namespace Go.Proofs.YtbigoljfanendaaDoor.Ints
open Go.RowKit
set_option linter.unusedVariables false
set_option linter.unusedSimpArgs false
theorem cut_unique {c : UInt8} {a b a' b' : List UInt8} (h : a ++ c :: b = a' ++ c :: b') (ha : c ∉ a) (ha' : c ∉ a') : a = a' ∧ b = b' := by
  induction a generalizing a' with
  | nil =>
    cases a' with
    | nil => simp at h; exact ⟨rfl, h⟩
    | cons x a' => simp at h; exact absurd (by simp [h.1]) ha'
  | cons x a ih =>
    cases a' with
    | nil => simp at h; exact absurd (by simp [h.1]) ha
    | cons y a' =>
      simp only [List.cons_append, List.cons.injEq] at h
      obtain ⟨rfl, h⟩ := h
      obtain ⟨rfl, rfl⟩ := ih h (fun hm => ha (by simp [hm])) (fun hm => ha' (by simp [hm]))
      exact ⟨rfl, rfl⟩
theorem cut_at (c : UInt8) (a b : List UInt8) (h : c ∉ a) : Lib.cut (a ++ c :: b) [c] = (a, b, true) := by
  rcases cut_pcs c (a ++ c :: b) with ⟨hn, _, _⟩ | ⟨a', b', hn, e, _, e2⟩
  · exact absurd (by simp) hn
  · obtain ⟨rfl, rfl⟩ := cut_unique e h hn
    exact e2
theorem pcs_two_eq {c : UInt8} {t p o : List UInt8} (h : pcs c t = [p, o]) : t = p ++ c :: o ∧ c ∉ p ∧ c ∉ o := by
  rcases cut_pcs c t with ⟨_, e, _⟩ | ⟨a, b, hn, e, e1, _⟩
  · rw [e] at h; simp at h
  · rw [e1] at h
    simp only [List.cons.injEq] at h
    obtain ⟨rfl, h⟩ := h
    have hb : c ∉ b := fun hm => by have := pcs_two c b hm; rw [h] at this; simp at this
    rw [pcs_no c b hb] at h
    simp only [List.cons.injEq, and_true] at h
    subst h
    exact ⟨e, hn, hb⟩
theorem pcs_of_two {c : UInt8} {p o : List UInt8} (hp : c ∉ p) (ho : c ∉ o) : pcs c (p ++ c :: o) = [p, o] := by
  rw [pcs_cut _ _ _ hp, pcs_no _ _ ho]
/-- Two numbers with a sign between. -/
def prOk (c : UInt8) (t : List UInt8) : Prop := (pcs c t).length = 2 ∧ NumOk ((pcs c t).getD 0 []) ∧ NumOk ((pcs c t).getD 1 [])
def prA (c : UInt8) (t : List UInt8) : Int := valL ((pcs c t).getD 0 [])
def prB (c : UInt8) (t : List UInt8) : Int := valL ((pcs c t).getD 1 [])
theorem prOk.parts {c : UInt8} {t : List UInt8} (h : prOk c t) : ∃ a b, pcs c t = [a, b] ∧ NumOk a ∧ NumOk b ∧ prA c t = valL a ∧ prB c t = valL b := by
  obtain ⟨h1, h2, h3⟩ := h
  obtain ⟨a, b, e⟩ : ∃ a b, pcs c t = [a, b] := by
    match pcs c t, h1 with
    | [a, b], _ => exact ⟨a, b, rfl⟩
  refine ⟨a, b, e, by simpa [e] using h2, by simpa [e] using h3, by simp [prA, e], by simp [prB, e]⟩
theorem prOk_of {c : UInt8} {t a b : List UInt8} (e : pcs c t = [a, b]) (ha : NumOk a) (hb : NumOk b) : prOk c t ∧ prA c t = valL a ∧ prB c t = valL b := ⟨⟨by rw [e]; rfl, by simpa [e] using ha, by simpa [e] using hb⟩, by simp [prA, e], by simp [prB, e]⟩
theorem num_not {l : List UInt8} {c : UInt8} (h : NumOk l) (h1 : c ≠ 45) (h2 : ¬ (48 ≤ c.toNat ∧ c.toNat ≤ 57)) : c ∉ l := fun hm => by
  rcases num_mem h hm with h | h
  · exact h1 h
  · exact h2 h
/-- A text of one instruction. -/
def insOne (t : List UInt8) : Prop := (t.head? = some 43 ∧ prOk 62 t.tail) ∨ (t.head? = some 45 ∧ (pcs 58 t).length = 2 ∧ prOk 62 ((pcs 58 t).getD 0 []).tail ∧ NumOk ((pcs 58 t).getD 1 []))
def insV (t : List UInt8) : Ins := if t.head? = some 43 then ⟨0, prA 62 t.tail, prB 62 t.tail, 0⟩ else ⟨1, prA 62 ((pcs 58 t).getD 0 []).tail, prB 62 ((pcs 58 t).getD 0 []).tail, valL ((pcs 58 t).getD 1 [])⟩
/-- How the program reads two numbers: cut at the sign. -/
theorem pr_cut (c : UInt8) (t : List UInt8) (hc : c ≠ 45) (hc2 : ¬ (48 ≤ c.toNat ∧ c.toNat ≤ 57)) : prOk c t ↔ NumOk (Lib.cut t [c]).1 ∧ NumOk (Lib.cut t [c]).2.1 := by
  constructor
  · intro h
    obtain ⟨a, b, e, ha, hb, _⟩ := h.parts
    obtain ⟨e1, h1, h2⟩ := pcs_two_eq e
    rw [e1, cut_at c a b h1]; exact ⟨ha, hb⟩
  · rintro ⟨ha, hb⟩
    rcases cut_pcs c t with ⟨_, _, e⟩ | ⟨a, b, hn, e, e1, e2⟩
    · rw [e] at hb; exact absurd hb num_empty
    · rw [e2] at ha hb
      rw [pcs_no c b (num_not hb hc hc2)] at e1
      exact (prOk_of e1 ha hb).1
theorem pr_val (c : UInt8) (t : List UInt8) (h : prOk c t) : prA c t = valL (Lib.cut t [c]).1 ∧ prB c t = valL (Lib.cut t [c]).2.1 := by
  obtain ⟨a, b, e, ha, hb, h1, h2⟩ := h.parts
  obtain ⟨e1, h3, _⟩ := pcs_two_eq e
  rw [h1, h2, e1, cut_at c a b h3]
  exact ⟨rfl, rfl⟩
/-- How the program reads an instruction with three numbers. -/
theorem insd_cut (r : List UInt8) : insOne (45 :: r) ↔ NumOk (Lib.cut r [62]).1 ∧ NumOk (Lib.cut (Lib.cut r [62]).2.1 [58]).1 ∧ NumOk (Lib.cut (Lib.cut r [62]).2.1 [58]).2.1 := by
  constructor
  · rintro (⟨h, _⟩ | ⟨_, h1, h2, h3⟩)
    · simp at h
    · obtain ⟨p, o, e⟩ : ∃ p o, pcs 58 (45 :: r) = [p, o] := by
        match pcs 58 (45 :: r), h1 with
        | [a, b], _ => exact ⟨a, b, rfl⟩
      rw [e] at h2 h3
      simp only [List.getD_cons_zero, List.getD_cons_succ] at h2 h3
      obtain ⟨e1, hp, ho⟩ := pcs_two_eq e
      obtain ⟨a, b, e2, ha, hb, _⟩ := h2.parts
      obtain ⟨e3, ha2, hb2⟩ := pcs_two_eq e2
      cases p with
      | nil => simp at e1
      | cons x p =>
        simp only [List.cons_append, List.cons.injEq] at e1
        obtain ⟨rfl, e1⟩ := e1
        simp only [List.tail_cons] at e3
        subst e3
        have er : r = a ++ 62 :: (b ++ 58 :: o) := by rw [e1]; simp
        rw [er, cut_at 62 a _ ha2]
        have hb3 : (58 : UInt8) ∉ b := fun hm => hp (by simp [hm])
        rw [cut_at 58 b o hb3]
        exact ⟨ha, hb, h3⟩
  · rintro ⟨ha, hb, ho⟩
    rcases cut_pcs 62 r with ⟨_, _, e⟩ | ⟨a, pl, hn, e, _, e2⟩
    · rw [e] at hb
      rw [show (Lib.cut ((r, ([] : List UInt8), false) : List UInt8 × List UInt8 × Bool).2.1 [58]) = ([], [], false) from rfl] at hb
      exact absurd hb num_empty
    · rw [e2] at ha hb ho
      rcases cut_pcs 58 pl with ⟨_, _, e3⟩ | ⟨b, o, hn2, e3, _, e4⟩
      · rw [e3] at ho; exact absurd ho num_empty
      · rw [e4] at hb ho
        have h1 : (58 : UInt8) ∉ a := num_not ha (by decide) (by decide)
        have h2 : (58 : UInt8) ∉ o := num_not ho (by decide) (by decide)
        have h3 : (62 : UInt8) ∉ b := num_not hb (by decide) (by decide)
        have et : (45 : UInt8) :: r = (45 :: (a ++ 62 :: b)) ++ 58 :: o := by rw [e, e3]; simp
        have hp : (58 : UInt8) ∉ (45 :: (a ++ 62 :: b)) := by
          intro hm
          simp at hm
          rcases hm with hm | hm
          · exact h1 hm
          · exact hn2 hm
        have ep : pcs 58 ((45 : UInt8) :: r) = [45 :: (a ++ 62 :: b), o] := by rw [et]; exact pcs_of_two hp h2
        refine .inr ⟨rfl, by rw [ep]; rfl, ?_, by rw [ep]; exact ho⟩
        rw [ep]
        exact (prOk_of (pcs_of_two hn h3) ha hb).1
theorem insd_val (r : List UInt8) (h : insOne (45 :: r)) : insV (45 :: r) = ⟨1, valL (Lib.cut r [62]).1, valL (Lib.cut (Lib.cut r [62]).2.1 [58]).1, valL (Lib.cut (Lib.cut r [62]).2.1 [58]).2.1⟩ := by
  rcases h with ⟨h, _⟩ | ⟨_, h1, h2, h3⟩
  · simp at h
  · obtain ⟨p, o, e⟩ : ∃ p o, pcs 58 (45 :: r) = [p, o] := by
      match pcs 58 (45 :: r), h1 with
      | [a, b], _ => exact ⟨a, b, rfl⟩
    rw [e] at h2 h3
    simp only [List.getD_cons_zero, List.getD_cons_succ] at h2 h3
    obtain ⟨e1, hp, ho⟩ := pcs_two_eq e
    obtain ⟨a, b, e2, ha, hb, v1, v2⟩ := h2.parts
    obtain ⟨e3, ha2, hb2⟩ := pcs_two_eq e2
    unfold insV
    rw [if_neg (by simp), e]
    simp only [List.getD_cons_zero, List.getD_cons_succ]
    rw [v1, v2]
    cases p with
    | nil => simp at e1
    | cons x p =>
      simp only [List.cons_append, List.cons.injEq] at e1
      obtain ⟨rfl, e1⟩ := e1
      simp only [List.tail_cons] at e3
      subst e3
      have er : r = a ++ 62 :: (b ++ 58 :: o) := by rw [e1]; simp
      have hb3 : (58 : UInt8) ∉ b := fun hm => hp (by simp [hm])
      rw [er, cut_at 62 a _ ha2]
      dsimp only
      rw [cut_at 58 b o hb3]
theorem inc_one (r : List UInt8) : insOne (43 :: r) ↔ prOk 62 r := by
  constructor
  · rintro (⟨_, h⟩ | ⟨h, _⟩)
    · exact h
    · simp at h
  · intro h; exact .inl ⟨rfl, h⟩
theorem inc_val (r : List UInt8) : insV (43 :: r) = ⟨0, prA 62 r, prB 62 r, 0⟩ := by simp [insV]
theorem ins_head {t : List UInt8} (h : insOne t) : t.head? = some 43 ∨ t.head? = some 45 := by
  rcases h with ⟨h, _⟩ | ⟨h, _⟩
  · exact .inl h
  · exact .inr h
theorem ins_fit {t : List UInt8} (h : insOne t) : (insV t).fit := by
  have small : ∀ {x : List UInt8}, NumOk x → fit64 (valL x) := fun hx => by
    have := valL_small hx
    exact ⟨by omega, by omega⟩
  unfold insV
  rcases h with ⟨h1, h2⟩ | ⟨h1, h2, h3, h4⟩
  · rw [if_pos h1]
    obtain ⟨a, b, _, ha, hb, e1, e2⟩ := h2.parts
    rw [e1, e2]
    exact ⟨⟨by show _ ≤ (0 : Int); decide, by show (0 : Int) ≤ _; decide⟩, small ha, small hb, ⟨by show _ ≤ (0 : Int); decide, by show (0 : Int) ≤ _; decide⟩⟩
  · rw [if_neg (by rw [h1]; simp)]
    obtain ⟨a, b, _, ha, hb, e1, e2⟩ := h3.parts
    rw [e1, e2]
    exact ⟨⟨by show _ ≤ (1 : Int); decide, by show (1 : Int) ≤ _; decide⟩, small ha, small hb, small h4⟩
def AllIns (ts : List (List UInt8)) : Prop := ∀ j, j < ts.length → insOne (ts.getD j [])
def rpOk (ts : List (List UInt8)) : Prop := AllIns ts ∧ progB (ts.map insV) = true
open Classical in
noncomputable def rpB (l : List UInt8) : Bool := decide (l = [46] ∨ rpOk (pcs 59 l))
open Classical in
noncomputable def rpV (l : List UInt8) : List Ins := if l = [46] then [] else if rpOk (pcs 59 l) then (pcs 59 l).map insV else []
theorem rp_dot {l : List UInt8} (h : l = [46]) : rpB l = true ∧ rpV l = [] := by simp [rpB, rpV, h]
theorem rp_bad {l : List UInt8} (h : l ≠ [46]) (k : ¬ rpOk (pcs 59 l)) : rpB l = false ∧ rpV l = [] := by simp [rpB, rpV, h, k]
theorem rp_good {l : List UInt8} (h : l ≠ [46]) (k : rpOk (pcs 59 l)) : rpB l = true ∧ rpV l = (pcs 59 l).map insV := by simp [rpB, rpV, h, k]
theorem rpV_len (l : List UInt8) : (rpV l).length ≤ 400 := by
  unfold rpV
  split
  · simp
  · split
    · rename_i h; exact (progB_ok h.2).len
    · simp
end Go.Proofs.YtbigoljfanendaaDoor.Ints
