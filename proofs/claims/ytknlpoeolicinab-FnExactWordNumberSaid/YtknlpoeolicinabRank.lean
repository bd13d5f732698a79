/- Contracts of RankWord, of the model and of the program. -/
import Derived.Test.YtknlpoeolicinabWord
namespace Go.Proofs.Ytknlpoeolicinab.Ints
open Go.RowKit
set_option linter.unusedVariables false
def rankGo (letters : Int) : List Int → Int → Int × Int
  | [], r => (r, 0)
  | x :: xs, r => if 1000000000000 < r * letters + x + 1 then (0, 5) else rankGo letters xs (r * letters + x + 1)
noncomputable def rankOf (zs : List Int) (letters : Int) : Int × Int :=
  if wordB zs = false then (0, 1) else if (decide (1 ≤ letters ∧ letters ≤ 10) && digB letters zs) = false then (0, 2) else rankGo letters zs 0
theorem rankGo_end {letters r : Int} {zs : List Int} {k : Nat} (h : zs.length ≤ k) : rankGo letters (zs.drop k) r = (r, 0) := by rw [List.drop_eq_nil_of_le h, rankGo]
theorem rankGo_full {letters r : Int} {zs : List Int} {k : Nat} (h : k < zs.length) (hb : 1000000000000 < r * letters + zs.getD k 0 + 1) : rankGo letters (zs.drop k) r = (0, 5) := by
  rw [List.drop_eq_getElem_cons h, rankGo]
  have e : zs[k] = zs.getD k 0 := by simp [List.getD_eq_getElem?_getD, List.getElem?_eq_getElem h]
  rw [e, if_pos hb]
theorem rankGo_step {letters r : Int} {zs : List Int} {k : Nat} (h : k < zs.length) (hb : ¬ 1000000000000 < r * letters + zs.getD k 0 + 1) : rankGo letters (zs.drop k) r = rankGo letters (zs.drop (k + 1)) (r * letters + zs.getD k 0 + 1) := by
  rw [List.drop_eq_getElem_cons h, rankGo]
  have e : zs[k] = zs.getD k 0 := by simp [List.getD_eq_getElem?_getD, List.getElem?_eq_getElem h]
  rw [e, if_neg hb]
theorem mul_le10 {r l : Int} (r0 : 0 ≤ r) (r1 : r ≤ 1000000000000) (l0 : 1 ≤ l) (l1 : l ≤ 10) : 0 ≤ r * l ∧ r * l ≤ 10000000000000 := by
  have a : r * l ≤ r * 10 := Int.mul_le_mul_of_nonneg_left l1 r0
  have b : 0 ≤ r * l := Int.mul_nonneg r0 (by omega)
  omega
noncomputable def overB (zs : List Int) (letters : Int) : Bool := decide (1 ≤ letters ∧ letters ≤ 10) && (wordB zs && digB letters zs)
set_option maxHeartbeats 2000000 in
theorem implOver (v : Value) (zs : List Int) (letters : Int) (w : World) (h : Rd w v zs) :
    Calls Try.prog 61 #[v, .int .i64 letters] w fun e w' => e = .returned (.bool (overB zs letters)) ∧ Below w.heap.size w w' := by
  have H := Lib.hid h
  have HSZ := Lib.hid (Nat.le_refl w.heap.size)
  clear h
  by_cases h1 : 1 ≤ letters
  rotate_left
  · have HV : Hid (overB zs letters = false) := Lib.hid (by simp [overB, h1])
    go_enter Try.func61, Try.ntmps61
    go_wp2_with go_in
    go_ret
    exact ⟨by rw [HV.out] <;> rfl, Below.refl _ _⟩
  by_cases h2 : letters ≤ 10
  rotate_left
  · have HV : Hid (overB zs letters = false) := Lib.hid (by simp [overB, h1, h2])
    go_enter Try.func61, Try.ntmps61
    go_wp2_with go_in
    go_ret
    exact ⟨by rw [HV.out] <;> rfl, Below.refl _ _⟩
  cases hn : wordB zs with
  | false =>
    have HN := Lib.hid hn
    have HV : Hid (overB zs letters = false) := Lib.hid (by simp [overB, hn])
    clear hn
    go_enter Try.func61, Try.ntmps61
    go_wp2_with (first | (go_at_call 87; refine (implWord _ zs _ H.out).mono ?_; rintro e w' ⟨rfl, hb⟩; rw [HN.out]; have HB := Lib.hid hb; clear hb) | go_in)
    go_ret
    exact ⟨by rw [HV.out] <;> rfl, HB.out⟩
  | true =>
    have HN := Lib.hid hn
    have HV : Hid (overB zs letters = digB letters zs) := Lib.hid (by simp [overB, hn, h1, h2])
    clear hn
    go_enter Try.func61, Try.ntmps61
    go_wp2_with (first | (go_at_call 87; refine (implWord _ zs _ H.out).mono ?_; rintro e w' ⟨rfl, hb⟩; rw [HN.out]; have HB := Lib.hid hb; clear hb) | (go_at_call 71; refine (areBelow_any _ zs _ _ (H.out.below HB.out (Nat.le_refl _))).mono ?_; rintro e w2 ⟨rfl, hb⟩; have HB2 := Lib.hid (HB.out.trans (hb.mono HB.out.size)); clear hb) | go_in)
    go_ret
    exact ⟨by rw [HV.out] <;> rfl, HB2.out⟩
theorem rankOf_over {zs : List Int} {letters : Int} (h : wordB zs = true) : rankOf zs letters = if overB zs letters = false then (0, 2) else rankGo letters zs 0 := by
  simp [rankOf, overB, h]
end Go.Proofs.Ytknlpoeolicinab.Ints
