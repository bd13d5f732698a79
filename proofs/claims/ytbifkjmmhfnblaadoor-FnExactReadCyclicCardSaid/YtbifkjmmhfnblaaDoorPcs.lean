/- Texts parted at a byte: the pieces. -/
import Derived.Lib.SplitLaws
import Derived.Lib.IndexBytes
import Derived.Lib.IndexLaws
import Derived.Test.YtbifkjmmhfnblaaDoorItoa
import Derived.Test.YtbifkjmmhfnblaaDoorNum
namespace Go.Proofs.YtbifkjmmhfnblaaDoor.Ints
open Go.RowKit
set_option linter.unusedVariables false
set_option linter.unusedSimpArgs false
/-- One byte more: the pieces that are whole, and the one at work. -/
def pcStep (c : UInt8) (s : List (List UInt8) × List UInt8) (x : UInt8) : List (List UInt8) × List UInt8 := if x = c then (s.1 ++ [s.2], []) else (s.1, s.2 ++ [x])
def pcRun (c : UInt8) (l : List UInt8) : List (List UInt8) × List UInt8 := l.foldl (pcStep c) ([], [])
/-- The pieces of a text. -/
def pcs (c : UInt8) (l : List UInt8) : List (List UInt8) := (pcRun c l).1 ++ [(pcRun c l).2]
theorem pcRun_snoc (c : UInt8) (l : List UInt8) (x : UInt8) : pcRun c (l ++ [x]) = pcStep c (pcRun c l) x := by simp [pcRun]
theorem pc_from (c : UInt8) (l : List UInt8) : ∀ (ds : List (List UInt8)) (cur : List UInt8),
    l.foldl (pcStep c) (ds, cur) = (ds ++ (l.foldl (pcStep c) ([], cur)).1, (l.foldl (pcStep c) ([], cur)).2) := by
  induction l with
  | nil => intro ds cur; simp
  | cons x l ih =>
    intro ds cur
    simp only [List.foldl_cons, pcStep]
    by_cases h : x = c
    · simp only [if_pos h, List.nil_append]
      rw [ih (ds ++ [cur]) [], ih [cur] []]
      simp
    · simp only [if_neg h]
      rw [ih ds (cur ++ [x])]
theorem pc_no (c : UInt8) (l : List UInt8) (h : c ∉ l) : ∀ (ds : List (List UInt8)) (cur : List UInt8), l.foldl (pcStep c) (ds, cur) = (ds, cur ++ l) := by
  induction l with
  | nil => intro ds cur; simp
  | cons x l ih =>
    intro ds cur
    have hx : x ≠ c := fun e => h (by simp [e])
    rw [List.foldl_cons, pcStep, if_neg hx, ih (fun k => h (by simp [k]))]
    simp
theorem pcs_no (c : UInt8) (l : List UInt8) (h : c ∉ l) : pcs c l = [l] := by
  unfold pcs pcRun; rw [pc_no c l h]; simp
theorem pcs_cut (c : UInt8) (a b : List UInt8) (h : c ∉ a) : pcs c (a ++ c :: b) = a :: pcs c b := by
  unfold pcs pcRun
  rw [List.foldl_append, pc_no c a h, List.foldl_cons, pcStep, if_pos rfl, pc_from]
  simp
theorem pcs_ne (c : UInt8) (l : List UInt8) : pcs c l ≠ [] := by simp [pcs]
theorem pcs_pos (c : UInt8) (l : List UInt8) : 0 < (pcs c l).length := by simp [pcs]
theorem pcRun_le (c : UInt8) (l : List UInt8) : (pcRun c l).1.length + (pcRun c l).2.length ≤ l.length := by
  refine snocRec (P := fun l => (pcRun c l).1.length + (pcRun c l).2.length ≤ l.length) ?_ ?_ l
  · simp [pcRun]
  · intro l x ih
    rw [pcRun_snoc, pcStep]
    split
    · simp; omega
    · simp; omega
theorem pcs_len (c : UInt8) (l : List UInt8) : (pcs c l).length ≤ l.length + 1 := by
  have := pcRun_le c l
  simp [pcs]; omega
theorem pcRun_mem (c : UInt8) (l : List UInt8) : (∀ t ∈ (pcRun c l).1, t.length ≤ l.length) ∧ (pcRun c l).2.length ≤ l.length := by
  refine snocRec (P := fun l => (∀ t ∈ (pcRun c l).1, t.length ≤ l.length) ∧ (pcRun c l).2.length ≤ l.length) ?_ ?_ l
  · simp [pcRun]
  · rintro l x ⟨h1, h2⟩
    rw [pcRun_snoc, pcStep]
    split
    · refine ⟨fun t ht => ?_, by simp⟩
      rcases List.mem_append.1 ht with ht | ht
      · have := h1 t ht; simp; omega
      · simp at ht; subst ht; simp; omega
    · exact ⟨fun t ht => by have := h1 t ht; simp; omega, by simp; omega⟩
theorem pcs_piece (c : UInt8) (l t : List UInt8) (h : t ∈ pcs c l) : t.length ≤ l.length := by
  rcases List.mem_append.1 h with h | h
  · exact (pcRun_mem c l).1 t h
  · simp at h; subst h; exact (pcRun_mem c l).2
/-- The piece at work ends the text read so far. -/
theorem pcRun_tail (c : UInt8) (l : List UInt8) : ∃ p, l = p ++ (pcRun c l).2 := by
  refine snocRec (P := fun l => ∃ p, l = p ++ (pcRun c l).2) ?_ ?_ l
  · exact ⟨[], by simp [pcRun]⟩
  · rintro l x ⟨p, ih⟩
    rw [pcRun_snoc, pcStep]
    split
    · exact ⟨l ++ [x], by simp⟩
    · exact ⟨p, by rw [← List.append_assoc, ← ih]⟩
theorem splitK_pcs (c : UInt8) : ∀ (k : Nat) (l : List UInt8), l.count c = k → Lib.splitK [c] 0 k l = pcs c l := by
  intro k
  induction k with
  | zero =>
    intro l h
    rw [pcs_no c l (List.count_eq_zero.1 h)]; rfl
  | succ k ih =>
    intro l h
    have hm : c ∈ l := by
      rcases Classical.em (c ∈ l) with hm | hm
      · exact hm
      · rw [List.count_eq_zero.2 hm] at h; omega
    rcases Lib.index_spec l [c] with ⟨hn, _⟩ | ⟨i, hi, hle, _⟩
    · exfalso
      rw [Lib.index_one] at hn
      obtain ⟨j, hj, e⟩ := List.getElem_of_mem hm
      exact Lib.indexByte_none hn j (by rw [List.getElem?_eq_getElem hj, e])
    · have hi2 := hi
      rw [Lib.index_one] at hi2
      obtain ⟨h1, h2⟩ := Lib.indexByte_some hi2
      have hlt : i < l.length := by
        rcases Nat.lt_or_ge i l.length with h | h
        · exact h
        · rw [List.getElem?_eq_none h] at h1; cases h1
      have e1 : l[i] = c := by rw [List.getElem?_eq_getElem hlt] at h1; exact Option.some.inj h1
      have hsplit : l = l.take i ++ c :: l.drop (i + 1) := by
        rw [← e1, ← List.drop_eq_getElem_cons hlt, List.take_append_drop]
      have hno : c ∉ l.take i := fun hm => by
        obtain ⟨j, hj, e⟩ := List.getElem_of_mem hm
        have hj2 : j < i := by rw [List.length_take] at hj; omega
        refine h2 j hj2 ?_
        rw [List.getElem_take] at e
        rw [List.getElem?_eq_getElem (by omega), e]
      have hc : (l.drop (i + 1)).count c = k := by
        have h3 := h
        rw [hsplit, List.count_append, List.count_eq_zero.2 hno, List.count_cons_self] at h3
        omega
      have hne : ¬ (Lib.index l [c] == -1) = true := fun e => by have := beq_iff_eq.1 e; omega
      rw [Lib.splitK, if_neg hne, hi]
      show l.take ((i : Int).toNat + 0) :: Lib.splitK [c] 0 k (l.drop ((i : Int).toNat + 1)) = _
      rw [Int.toNat_natCast, Nat.add_zero, ih _ hc]
      conv => rhs; rw [hsplit]
      rw [pcs_cut _ _ _ hno]
theorem split_pcs (c : UInt8) (s : ByteArray) : (Lib.splitB (bs [c]) 0 (Lib.countB s (bs [c])) s).map (·.data.toList) = pcs c s.data.toList := by
  rw [Lib.splitB_data]
  have e1 : (bs [c]).data.toList = [c] := bs_list [c]
  have e2 : Lib.countB s (bs [c]) = s.data.toList.count c := by
    show Lib.count s.data.toList (bs [c]).data.toList = _
    rw [e1, Lib.count_one]
  rw [e1, e2]
  exact splitK_pcs c _ _ rfl
theorem bs_of (s : ByteArray) : bs s.data.toList = s := by
  show (⟨s.data.toList.toArray⟩ : ByteArray) = s
  rw [Array.toArray_toList]
theorem split_vals (c : UInt8) (s : ByteArray) : (Lib.splitB (bs [c]) 0 (Lib.countB s (bs [c])) s).map Value.string = (pcs c s.data.toList).map (fun l => Value.string (bs l)) := by
  rw [← split_pcs, List.map_map]
  refine List.map_congr_left fun x _ => ?_
  show Value.string x = Value.string (bs x.data.toList)
  rw [bs_of]
theorem extract_cur (c : UInt8) (s : ByteArray) (k : Nat) (hk : k ≤ s.size) : s.extract (k - (pcRun c (s.data.toList.take k)).2.length) k = bs (pcRun c (s.data.toList.take k)).2 := by
  obtain ⟨p, hp⟩ := pcRun_tail c (s.data.toList.take k)
  have hl : (s.data.toList.take k).length = k := by rw [List.length_take]; have := Lib.size_eq s; omega
  have hpl : p.length = k - (pcRun c (s.data.toList.take k)).2.length := by
    have h2 := congrArg List.length hp
    rw [List.length_append, hl] at h2
    omega
  rw [← bs_of (s.extract _ _), Lib.extract_data]
  congr 1
  rw [← List.drop_take]
  generalize (pcRun c (s.data.toList.take k)).2 = cur at hp hpl ⊢
  rw [hp, ← hpl, List.drop_left]
end Go.Proofs.YtbifkjmmhfnblaaDoor.Ints
