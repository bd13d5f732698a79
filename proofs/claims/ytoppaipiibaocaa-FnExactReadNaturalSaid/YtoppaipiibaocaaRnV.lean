/- Naturals read from texts: values and plain lemmas. -/
import Derived.Test.YtoppaipiibaocaaRdW
import Derived.Test.YtoppaipiibaocaaVl
namespace Go.Proofs.Ytoppaipiibaocaa.Ints
open Go.RowKit
set_option linter.unusedVariables false
set_option linter.unusedSimpArgs false
/-- The number of c digits from a place on. -/
def fvN (s : ByteArray) (a : Nat) : Nat → Int
  | 0 => 0
  | c + 1 => fvN s a c * 10 + ((bt s (a + c) : Int) - 48)
/-- Where a limb's digits begin and end. -/
def lbA (s : ByteArray) (l : Nat) : Nat := s.size - 6 * (l + 1)
def lbE (s : ByteArray) (l : Nat) : Nat := s.size - 6 * l
/-- A limb when so many digits have been read. -/
def lbV (s : ByteArray) (p l : Nat) : Int := fvN s (lbA s l) (min p (lbE s l) - lbA s l)
def lbN (s : ByteArray) : Nat := (s.size + 5) / 6
def rnRow (s : ByteArray) (p : Nat) : List Int := (List.range (lbN s)).map (lbV s p)
def rnL (s : ByteArray) : List Int := rnRow s s.size
theorem rnRow_length (s : ByteArray) (p : Nat) : (rnRow s p).length = lbN s := by simp [rnRow]
theorem rnRow_get (s : ByteArray) (p l : Nat) (h : l < lbN s) : (rnRow s p)[l]'(by rw [rnRow_length]; exact h) = lbV s p l := by simp [rnRow]
theorem rnRow_getD (s : ByteArray) (p l : Nat) (h : l < lbN s) : (rnRow s p).getD l 0 = lbV s p l := by
  rw [List.getD_eq_getElem?_getD, List.getElem?_eq_getElem (by rw [rnRow_length]; exact h)]
  simp [rnRow_get s p l h]
theorem fvN_range {s : ByteArray} {a : Nat} : ∀ {c : Nat}, (∀ i, a ≤ i → i < a + c → Dgt (bt s i)) → 0 ≤ fvN s a c ∧ fvN s a c + 1 ≤ (10 : Int) ^ c
  | 0, _ => by simp [fvN]
  | c + 1, h => by
    obtain ⟨h0, h1⟩ := fvN_range (c := c) (fun i a b => h i a (by omega))
    have hd := h (a + c) (by omega) (by omega)
    unfold Dgt at hd
    rw [fvN, Int.pow_succ]
    omega
theorem fvN_pos {s : ByteArray} {a : Nat} : ∀ {c : Nat}, (∀ i, a ≤ i → i < a + c → Dgt (bt s i)) → 0 < c → bt s a ≠ 48 → 0 < fvN s a c
  | 0, _, h, _ => by omega
  | c + 1, h, _, hb => by
    have h0 := (fvN_range (c := c) (fun i a b => h i a (by omega))).1
    have hd := h (a + c) (by omega) (by omega)
    unfold Dgt at hd
    rw [fvN]
    by_cases hc : c = 0
    · subst hc
      simp only [Nat.add_zero] at hd ⊢
      omega
    · have := fvN_pos (c := c) (fun i a b => h i a (by omega)) (by omega) hb
      omega
theorem pow_six {c : Nat} (h : c ≤ 6) : (10 : Int) ^ c ≤ 1000000 := by
  have hc : c = 0 ∨ c = 1 ∨ c = 2 ∨ c = 3 ∨ c = 4 ∨ c = 5 ∨ c = 6 := by omega
  rcases hc with rfl | rfl | rfl | rfl | rfl | rfl | rfl <;> decide
theorem lbV_range {s : ByteArray} (p l : Nat) (hp : p ≤ s.size) (hb : ∀ i, i < p → Dgt (bt s i)) : 0 ≤ lbV s p l ∧ lbV s p l ≤ 999999 := by
  have h6 : min p (lbE s l) - lbA s l ≤ 6 := by unfold lbE lbA; omega
  have := fvN_range (s := s) (a := lbA s l) (c := min p (lbE s l) - lbA s l) (fun i a b => hb i (by omega))
  have h7 := pow_six h6
  unfold lbV
  omega
theorem rnRow_dig {s : ByteArray} (p : Nat) (hp : p ≤ s.size) (hb : ∀ i, i < p → Dgt (bt s i)) : Dig 1000000 (rnRow s p) := fun i hi => by
  rw [rnRow_length] at hi
  rw [rnRow_getD s p i hi]
  have := lbV_range (s := s) p i hp hb
  omega
theorem rnRow_fit {s : ByteArray} (p : Nat) (hp : p ≤ s.size) (hb : ∀ i, i < p → Dgt (bt s i)) : Fit (rnRow s p) := fun z hz => by
  simp only [rnRow, List.mem_map] at hz
  obtain ⟨l, _, rfl⟩ := hz
  have := lbV_range (s := s) p l hp hb
  omega
theorem rnRow_zero (s : ByteArray) : rnRow s 0 = List.replicate (lbN s) 0 := by
  apply List.ext_getElem
  · simp [rnRow]
  · intro i h1 h2
    simp [rnRow, lbV, fvN]
/-- A digit belongs to one limb. -/
theorem rnRow_step {s : ByteArray} {p : Nat} (hp : p < s.size) : rnRow s (p + 1) = (rnRow s p).set ((s.size - 1 - p) / 6) (lbV s p ((s.size - 1 - p) / 6) * 10 + ((bt s p : Int) - 48)) := by
  apply List.ext_getElem
  · simp [rnRow]
  · intro i h1 h2
    rw [List.getElem_set]
    simp only [rnRow, List.length_map, List.length_range, lbN] at h1
    by_cases hi : (s.size - 1 - p) / 6 = i
    · rw [if_pos hi]
      subst hi
      simp only [rnRow, List.getElem_map, List.getElem_range, lbV]
      have e1 : min (p + 1) (lbE s ((s.size - 1 - p) / 6)) - lbA s ((s.size - 1 - p) / 6) = (min p (lbE s ((s.size - 1 - p) / 6)) - lbA s ((s.size - 1 - p) / 6)) + 1 := by
        unfold lbE lbA; omega
      have e2 : lbA s ((s.size - 1 - p) / 6) + (min p (lbE s ((s.size - 1 - p) / 6)) - lbA s ((s.size - 1 - p) / 6)) = p := by
        unfold lbE lbA; omega
      rw [e1, fvN, e2]
    · rw [if_neg hi]
      simp only [rnRow, List.getElem_map, List.getElem_range, lbV]
      have e1 : min (p + 1) (lbE s i) - lbA s i = min p (lbE s i) - lbA s i := by
        unfold lbE lbA; omega
      rw [e1]
theorem rnL_succ {s : ByteArray} {l : Nat} (h : l < lbN s) : (rnL s).take (l + 1) = (rnL s).take l ++ [lbV s s.size l] := by
  rw [List.take_succ_eq_append_getElem (by rw [rnL, rnRow_length]; exact h)]
  simp [rnL, rnRow_get s s.size l h]
theorem lbV_full (s : ByteArray) (l : Nat) : lbV s s.size l = fvN s (lbA s l) (lbE s l - lbA s l) := by
  unfold lbV
  congr 1
  have : lbE s l ≤ s.size := Nat.sub_le _ _
  omega

def NOk (s : ByteArray) : Prop := s.size ≠ 0 ∧ s.size ≤ 240 ∧ (1 < s.size → bt s 0 ≠ 48) ∧ AllD s
open Classical in
noncomputable def rnB (s : ByteArray) : Bool := decide (NOk s)
open Classical in
noncomputable def rnV (s : ByteArray) : List Int := if NOk s then canOf (val (rnL s)) else []
theorem rn_bad {s : ByteArray} (h : ¬ NOk s) : rnB s = false ∧ rnV s = [] := by simp [rnB, rnV, h]
theorem rn_good {s : ByteArray} (h : NOk s) : rnB s = true ∧ rnV s = canOf (val (rnL s)) := by simp [rnB, rnV, h]
/-- The row is a natural as it stands, unless the text is 0. -/
theorem rnL_can {s : ByteArray} (h : NOk s) (h0 : bt s 0 ≠ 48) : Can (rnL s) := by
  refine ⟨rnRow_dig _ (Nat.le_refl _) h.2.2.2, .inr ?_⟩
  have hn : 0 < lbN s := by have := h.1; unfold lbN; omega
  have hs := h.1
  show (rnRow s s.size).getD ((rnRow s s.size).length - 1) 0 ≠ 0
  rw [rnRow_length, rnRow_getD s s.size _ (by omega), lbV_full]
  have e : lbA s (lbN s - 1) = 0 := by unfold lbA lbN; omega
  have e2 : 0 < lbE s (lbN s - 1) := by unfold lbE lbN; omega
  have e3 : lbE s (lbN s - 1) ≤ s.size := Nat.sub_le _ _
  rw [e]
  have := fvN_pos (s := s) (a := 0) (c := lbE s (lbN s - 1) - 0) (fun i a b => h.2.2.2 i (by omega)) (by omega) h0
  omega
theorem rn_zero {s : ByteArray} (h : s.toList = [48]) : NOk s ∧ canOf (val (rnL s)) = [] := by
  have hz : s.size = 1 := by have := congrArg List.length h; rw [ByteArray.toList_eq] at this; simpa using this
  have hb : bt s 0 = 48 := by
    rw [ByteArray.toList_eq] at h
    have e : s.data = #[48] := Array.toList_inj.1 (by simpa using h)
    have e2 : s = ⟨#[48]⟩ := ByteArray.ext e
    rw [e2]
    rfl
  have hd : AllD s := fun i hi => by
    have : i = 0 := by omega
    subst this
    rw [hb]; exact ⟨by omega, by omega⟩
  refine ⟨⟨by omega, by omega, fun h => by omega, hd⟩, ?_⟩
  have e : rnL s = [0] := by
    have hn : lbN s = 1 := by unfold lbN; omega
    have h1 : (rnL s).length = 1 := by rw [rnL, rnRow_length, hn]
    have h2 := rnL_succ (s := s) (l := 0) (by omega)
    rw [List.take_of_length_le (by omega)] at h2
    rw [h2]
    have ev : lbV s s.size 0 = 0 := by
      rw [lbV_full]
      have a0 : lbA s 0 = 0 := by unfold lbA; omega
      have a1 : lbE s 0 = 1 := by unfold lbE; omega
      rw [a0, a1]
      simp [fvN, hb]
    rw [ev]; rfl
  rw [e]
  have : val [0] = 0 := by simp [val]
  rw [this]
  exact canOf_eq ⟨fun i hi => by simp at hi, .inl rfl⟩ (by simp [val])
theorem bt_zero {s : ByteArray} (h1 : s.size = 1) (hb : bt s 0 = 48) : s.toList = [48] := by
  rw [bt_at (by omega)] at hb
  rw [ByteArray.toList_eq]
  apply List.ext_getElem
  · simp [h1]
  · intro i h2 h3
    have : i = 0 := by simp at h3; omega
    subst this
    simp
    exact UInt8.toNat_inj.1 hb
theorem rnV_len (s : ByteArray) : (rnV s).length ≤ 40 := by
  unfold rnV
  split
  · rename_i h
    have hl : (rnL s).length ≤ 40 := by rw [rnL, rnRow_length]; have := h.2.1; unfold lbN; omega
    by_cases h0 : bt s 0 = 48
    · by_cases h1 : s.size = 1
      · rw [(rn_zero (bt_zero h1 h0)).2]; simp
      · have := h.2.2.1 (by have := h.1; omega); exact absurd h0 this
    · rw [canOf_eq (rnL_can h h0) rfl]; exact hl
  · simp
end Go.Proofs.Ytoppaipiibaocaa.Ints
