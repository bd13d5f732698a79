/- Contracts of RankWord, of the model and of the program. -/
import Derived.Test.YtefdjdkcmaonmaaWord
namespace Go.Proofs.Ytefdjdkcmaonmaa.Ints
open Go.RowKit
set_option linter.unusedVariables false
def rankGo (letters : Int) : List Int → Int → Int × Int
  | [], r => (r, 0)
  | x :: xs, r => if 1000000000000 < r * letters + x + 1 then (0, 5) else rankGo letters xs (r * letters + x + 1)
noncomputable def rankOf (zs : List Int) (letters : Int) : Int × Int :=
  if wordB zs = false then (0, 1) else if (decide (1 ≤ letters ∧ letters ≤ 10) && digB letters zs) = false then (0, 2) else rankGo letters zs 0
theorem rankGo_end {letters r : Int} {zs : List Int} {k : Nat} (h : zs.length ≤ k) : rankGo letters (zs.drop k) r = (r, 0) := by rw [List.drop_eq_nil_of_le h, rankGo]
theorem rankGo_full {letters r : Int} {zs : List Int} {k : Nat} (h : k < zs.length) (hb : 1000000000000 < r * letters + zs.getD k 0 + 1) : rankGo letters (zs.drop k) r = (0, 5) := by
  rw [List.drop_eq_getElem_cons h, rankGo]
  have e : zs[k] = zs.getD k 0 := by simp [List.getD_eq_getElem?_getD, List.getElem?_eq_getElem h]
  rw [e, if_pos hb]
theorem rankGo_step {letters r : Int} {zs : List Int} {k : Nat} (h : k < zs.length) (hb : ¬ 1000000000000 < r * letters + zs.getD k 0 + 1) : rankGo letters (zs.drop k) r = rankGo letters (zs.drop (k + 1)) (r * letters + zs.getD k 0 + 1) := by
  rw [List.drop_eq_getElem_cons h, rankGo]
  have e : zs[k] = zs.getD k 0 := by simp [List.getD_eq_getElem?_getD, List.getElem?_eq_getElem h]
  rw [e, if_neg hb]
theorem mul_le10 {r l : Int} (r0 : 0 ≤ r) (r1 : r ≤ 1000000000000) (l0 : 1 ≤ l) (l1 : l ≤ 10) : 0 ≤ r * l ∧ r * l ≤ 10000000000000 := by
  have a : r * l ≤ r * 10 := Int.mul_le_mul_of_nonneg_left l1 r0
  have b : 0 ≤ r * l := Int.mul_nonneg r0 (by omega)
  omega
noncomputable def overB (zs : List Int) (letters : Int) : Bool := decide (1 ≤ letters ∧ letters ≤ 10) && (wordB zs && digB letters zs)
set_option maxHeartbeats 2000000 in
theorem implOver (v : Value) (zs : List Int) (letters : Int) (w : World) (h : Rd w v zs) :
    Calls Try.prog 13 #[v, .int .i64 letters] w fun e w' => e = .returned (.bool (overB zs letters)) ∧ Below w.heap.size w w' := by
  have H := Lib.hid h
  have HSZ := Lib.hid (Nat.le_refl w.heap.size)
  clear h
  by_cases h1 : 1 ≤ letters
  rotate_left
  · have HV : Hid (overB zs letters = false) := Lib.hid (by simp [overB, h1])
    go_enter Try.func13, Try.ntmps13
    go_wp2_with go_in
    go_ret
    exact ⟨by rw [HV.out] <;> rfl, Below.refl _ _⟩
  by_cases h2 : letters ≤ 10
  rotate_left
  · have HV : Hid (overB zs letters = false) := Lib.hid (by simp [overB, h1, h2])
    go_enter Try.func13, Try.ntmps13
    go_wp2_with go_in
    go_ret
    exact ⟨by rw [HV.out] <;> rfl, Below.refl _ _⟩
  cases hn : wordB zs with
  | false =>
    have HN := Lib.hid hn
    have HV : Hid (overB zs letters = false) := Lib.hid (by simp [overB, hn])
    clear hn
    go_enter Try.func13, Try.ntmps13
    go_wp2_with (first | (go_at_call 12; refine (implWord _ zs _ H.out).mono ?_; rintro e w' ⟨rfl, hb⟩; rw [HN.out]; have HB := Lib.hid hb; clear hb) | go_in)
    go_ret
    exact ⟨by rw [HV.out] <;> rfl, HB.out⟩
  | true =>
    have HN := Lib.hid hn
    have HV : Hid (overB zs letters = digB letters zs) := Lib.hid (by simp [overB, hn, h1, h2])
    clear hn
    go_enter Try.func13, Try.ntmps13
    go_wp2_with (first | (go_at_call 12; refine (implWord _ zs _ H.out).mono ?_; rintro e w' ⟨rfl, hb⟩; rw [HN.out]; have HB := Lib.hid hb; clear hb) | (go_at_call 19; refine (areBelow_any _ zs _ _ (H.out.below HB.out (Nat.le_refl _))).mono ?_; rintro e w2 ⟨rfl, hb⟩; have HB2 := Lib.hid (HB.out.trans (hb.mono HB.out.size)); clear hb) | go_in)
    go_ret
    exact ⟨by rw [HV.out] <;> rfl, HB2.out⟩
theorem rankOf_over {zs : List Int} {letters : Int} (h : wordB zs = true) : rankOf zs letters = if overB zs letters = false then (0, 2) else rankGo letters zs 0 := by
  simp [rankOf, overB, h]
set_option maxHeartbeats 2000000 in
theorem implRank (v : Value) (zs : List Int) (letters : Int) (w : World) (h : Rd w v zs) :
    Calls Try.prog 6 #[v, .int .i64 letters] w fun e w' => e = .returned (.tuple #[.int .i64 (rankOf zs letters).1, .int .i64 (rankOf zs letters).2]) ∧ Below w.heap.size w w' := by
  have H := Lib.hid h
  cases hn : wordB zs with
  | false =>
    have HN := Lib.hid hn
    have HV : Hid (rankOf zs letters = (0, 1)) := Lib.hid (by simp [rankOf, hn])
    clear hn h
    go_enter Try.func6, Try.ntmps6
    go_wp2_with (go_at_call 12; refine (implWord _ zs _ H.out).mono ?_; rintro e w' ⟨rfl, hb⟩; rw [HN.out]; have HB := Lib.hid hb; clear hb)
    go_ret2
    exact ⟨by rw [HV.out] <;> rfl, HB.out⟩
  | true =>
    have HN := Lib.hid hn
    have HW := Lib.hid (wordB_iff hn)
    have HR := Lib.hid (rankOf_over (letters := letters) hn)
    cases ho : (overB zs letters) with
    | false =>
      have HO := Lib.hid ho
      have HV : Hid (rankOf zs letters = (0, 2)) := Lib.hid (by rw [HR.out, if_pos ho])
      clear hn h ho
      go_enter Try.func6, Try.ntmps6
      go_wp2_with (first | (go_at_call 12; refine (implWord _ zs _ H.out).mono ?_; rintro e w' ⟨rfl, hb⟩; rw [HN.out]; have HB := Lib.hid hb; clear hb) | (go_at_call 13; refine (implOver _ zs _ _ (H.out.below HB.out (Nat.le_refl _))).mono ?_; rintro e w2 ⟨rfl, hb⟩; rw [HO.out]; have HB2 := Lib.hid (HB.out.trans (hb.mono HB.out.size)); clear hb))
      go_ret2
      exact ⟨by rw [HV.out] <;> rfl, HB2.out⟩
    | true =>
      have HO := Lib.hid ho
      have HV : Hid (rankOf zs letters = rankGo letters zs 0) := Lib.hid (by rw [HR.out, if_neg (by rw [ho]; simp)])
      obtain ⟨h1, h2⟩ : 1 ≤ letters ∧ letters ≤ 10 := by
        simp only [overB, Bool.and_eq_true, decide_eq_true_eq] at ho
        exact ho.1
      clear hn ho
      obtain ⟨hl, hf, a, c, rfl, hcap, hr⟩ := h
      go_enter Try.func6, Try.ntmps6
      go_wp2_with (first | (go_at_call 12; refine (implWord _ zs _ H.out).mono ?_; rintro e w' ⟨rfl, hb⟩; rw [HN.out]; have HB := Lib.hid hb; clear hb) | (go_at_call 13; refine (implOver _ zs _ _ (H.out.below HB.out (Nat.le_refl _))).mono ?_; rintro e w2 ⟨rfl, hb⟩; rw [HO.out]; have HB2 := Lib.hid (HB.out.trans (hb.mono HB.out.size)); clear hb))
      have HR2 : Hid (zs ≠ [] → ∃ b o, a = some ⟨b, o, none⟩ ∧ ∀ i, i < zs.length → w2.cell? ⟨b, o + i, none⟩ = some (.int .i64 (zs.getD i 0))) := Lib.hid (fun hne => by
        obtain ⟨b, o, h, hb, hc⟩ := hr hne
        exact ⟨b, o, h, fun i hi => (HB2.out.cell hb).trans (hc i hi)⟩)
      clear hr
      go_loop [6, 18] (fun o s => ∃ (k : Nat) (r : Int), k ≤ zs.length ∧ s = .int .i64 k ∧ o = .int .i64 r ∧ 0 ≤ r ∧ r ≤ 1000000000000 ∧ rankGo letters zs 0 = rankGo letters (zs.drop k) r) (fun _ s => zs.length - (intOf s).toNat)
      case atStart => exact ⟨0, 0, Nat.zero_le _, rfl, rfl, by omega, by omega, rfl⟩
      case round =>
        obtain ⟨k, r, hk, rfl, rfl, r0, r1, hE⟩ := hrel
        have HE := Lib.hid hE
        clear hE
        by_cases hlt : k < zs.length
        · obtain ⟨b, o, rfl, hcell⟩ := HR2.out (by intro h0; rw [h0] at hlt; simp at hlt)
          have hc := hcell k hlt
          obtain ⟨x, hx⟩ : ∃ x, x = zs.getD k 0 := ⟨_, rfl⟩
          obtain ⟨x0, x1⟩ := HW.out.2 k hlt
          rw [← hx] at hc x0 x1
          obtain ⟨m0, m1⟩ := mul_le10 r0 r1 h1 h2
          by_cases hfull : 1000000000000 < r * letters + x + 1
          · have HF := Lib.hid (rankGo_full (letters := letters) (r := r) hlt (by rw [← hx]; exact hfull))
            clear hcell hx
            go_wp2
            go_ret2
            exact ⟨by rw [HV.out, HE.out, HF.out] <;> rfl, HB2.out⟩
          · have HF := Lib.hid (rankGo_step (letters := letters) (r := r) hlt (by rw [← hx]; exact hfull))
            rw [← hx] at HF
            clear hcell hx
            go_wp2
            go_round
            case rel => exact ⟨k + 1, r * letters + x + 1, by omega, by go_num, by go_num, by omega, by omega, by rw [HE.out, HF.out]⟩
            case measure => simp [intOf]; omega
        · have HF := Lib.hid (rankGo_end (letters := letters) (r := r) (zs := zs) (k := k) (by omega))
          go_wp2
          go_ret2
          exact ⟨by rw [HV.out, HE.out, HF.out] <;> rfl, HB2.out⟩
end Go.Proofs.Ytefdjdkcmaonmaa.Ints
