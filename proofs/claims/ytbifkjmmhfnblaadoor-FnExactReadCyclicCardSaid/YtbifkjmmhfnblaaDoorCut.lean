/- A text cut at a byte: the library's strings.Cut, and the pieces. -/
import Derived.Test.YtbifkjmmhfnblaaDoorSplI
import Derived.Test.YtbifkjmmhfnblaaDoorNum
namespace Go.Proofs.YtbifkjmmhfnblaaDoor.Ints
open Go.RowKit
set_option linter.unusedVariables false
set_option linter.unusedSimpArgs false
theorem pcs_two (c : UInt8) (l : List UInt8) (h : c ∈ l) : 2 ≤ (pcs c l).length := by
  obtain ⟨a, b, rfl, hn⟩ : ∃ a b, l = a ++ c :: b ∧ c ∉ a := by
    induction l with
    | nil => cases h
    | cons x l ih =>
      by_cases hx : x = c
      · exact ⟨[], l, by rw [hx]; rfl, by simp⟩
      · have h2 : c ∈ l := by
          rcases List.mem_cons.1 h with h | h
          · exact absurd h.symm hx
          · exact h
        obtain ⟨a, b, e, hn⟩ := ih h2
        exact ⟨x :: a, b, by rw [e]; rfl, fun hm => by
          rcases List.mem_cons.1 hm with hm | hm
          · exact hx hm.symm
          · exact hn hm⟩
  rw [pcs_cut _ _ _ hn, List.length_cons]
  have := pcs_pos c b
  omega
/-- What strings.Cut finds, by the pieces. -/
theorem cut_pcs (c : UInt8) (l : List UInt8) :
    (c ∉ l ∧ pcs c l = [l] ∧ Lib.cut l [c] = (l, [], false)) ∨ (∃ a b, c ∉ a ∧ l = a ++ c :: b ∧ pcs c l = a :: pcs c b ∧ Lib.cut l [c] = (a, b, true)) := by
  rcases Lib.index_spec l [c] with ⟨hn, _⟩ | ⟨i, hi, hle, _⟩
  · have hn2 := hn
    rw [Lib.index_one] at hn2
    have hno : c ∉ l := fun hm => by
      obtain ⟨j, hj, e⟩ := List.getElem_of_mem hm
      exact Lib.indexByte_none hn2 j (by rw [List.getElem?_eq_getElem hj, e])
    refine .inl ⟨hno, pcs_no c l hno, ?_⟩
    unfold Lib.cut
    rw [hn, if_neg (by omega)]
  · have hi2 := hi
    rw [Lib.index_one] at hi2
    obtain ⟨h1, h2⟩ := Lib.indexByte_some hi2
    have hlt : i < l.length := by
      rcases Nat.lt_or_ge i l.length with h | h
      · exact h
      · rw [List.getElem?_eq_none h] at h1; cases h1
    have e1 : l[i] = c := by rw [List.getElem?_eq_getElem hlt] at h1; exact Option.some.inj h1
    have hsplit : l = l.take i ++ c :: l.drop (i + 1) := by
      rw [← e1, ← List.drop_eq_getElem_cons hlt, List.take_append_drop]
    have hno : c ∉ l.take i := fun hm => by
      obtain ⟨j, hj, e⟩ := List.getElem_of_mem hm
      have hj2 : j < i := by rw [List.length_take] at hj; omega
      refine h2 j hj2 ?_
      rw [List.getElem_take] at e
      rw [List.getElem?_eq_getElem (by omega), e]
    refine .inr ⟨l.take i, l.drop (i + 1), hno, hsplit, ?_, ?_⟩
    · conv => lhs; rw [hsplit]
      exact pcs_cut _ _ _ hno
    · unfold Lib.cut
      rw [hi, if_pos (by omega)]
      simp
theorem num_mem {l : List UInt8} {c : UInt8} (h : NumOk l) (hc : c ∈ l) : c = 45 ∨ (48 ≤ c.toNat ∧ c.toNat ≤ 57) := by
  cases hn : negL l with
  | true =>
    rw [neg_cons hn] at hc
    rcases List.mem_cons.1 hc with hc | hc
    · exact .inl hc
    · exact .inr (h.dg c hc)
  | false =>
    have := pos_same hn
    exact .inr (h.dg c (by rw [this]; exact hc))
theorem pcs_small (c : UInt8) (s : ByteArray) (hs : s.size ≤ 1048576) : (∀ j, j < (pcs c s.data.toList).length → ((pcs c s.data.toList).getD j []).length ≤ 1048576) ∧ (pcs c s.data.toList).length ≤ 1048577 := by
  have h2 := Lib.size_eq s
  refine ⟨fun j hj => ?_, by have := pcs_len c s.data.toList; omega⟩
  have := pcs_piece c s.data.toList ((pcs c s.data.toList).getD j []) (by rw [List.getD_eq_getElem?_getD, List.getElem?_eq_getElem hj]; exact List.getElem_mem hj)
  omega
theorem num_empty : ¬ NumOk [] := fun h => h.ne rfl
theorem implCut (s : ByteArray) (c : UInt8) (sep : ByteArray) (w : World) (hs : s.size ≤ 1048576) (hp : sep = bs [c]) (hm : MaxV w) :
    Calls Tryd.prog 56 #[.string s, .string sep] w fun e w' => e = .returned (.tuple #[.string (bs (Lib.cut s.data.toList [c]).1), .string (bs (Lib.cut s.data.toList [c]).2.1), .bool (Lib.cut s.data.toList [c]).2.2]) ∧ Below w.heap.size w w' := by
  subst hp
  obtain ⟨m, hm⟩ := hm
  refine (Tryd.strings_Cut s (bs [c]) m w (by omega) hm).mono ?_
  rintro e w' ⟨rfl, n, rfl⟩
  rw [bs_list]
  exact ⟨rfl, below_drewN (Below.refl _ _) n⟩
end Go.Proofs.YtbifkjmmhfnblaaDoor.Ints
