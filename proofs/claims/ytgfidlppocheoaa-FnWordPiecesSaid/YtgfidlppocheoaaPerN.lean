/- Least periods: the model's loop and the program's table; contracts of PeriodOf. -/
import Derived.Test.YtgfidlppocheoaaPer
import Derived.Test.YtgfidlppocheoaaWord
namespace Go.Proofs.Ytgfidlppocheoaa.Ints
open Go.RowKit
set_option linter.unusedVariables false

noncomputable def perV (zs : List Int) : Int := zs.length - mb zs zs.length
noncomputable def ppV (zs : List Int) : Int := if wordB zs = true ∧ 0 < zs.length then perV zs else 0
noncomputable def ppC (zs : List Int) : Int := if wordB zs = true then (if 0 < zs.length then 0 else 3) else 1
theorem perV_hit {zs : List Int} {p : Nat} (h1 : 1 ≤ p) (hp : p < zs.length) (hs : zs.drop p = zs.take (zs.length - p)) (hq : ∀ q, 1 ≤ q → q < p → ¬ isB zs zs.length (zs.length - q)) : perV zs = p := by
  have hb : isB zs zs.length (zs.length - p) := (isB_same (by omega)).2 (by rw [← hs]; congr 1; omega)
  rw [perV, mb_eq hb fun j hj => by
    rcases Nat.lt_or_ge (zs.length - p) j with h | h
    · have := hj.1
      exact absurd (by rw [show zs.length - (zs.length - j) = j by omega]; exact hj) (hq (zs.length - j) (by omega) (by omega))
    · exact h]
  omega
theorem perV_end {zs : List Int} (h0 : 0 < zs.length) (hq : ∀ q, 1 ≤ q → q < zs.length → ¬ isB zs zs.length (zs.length - q)) : perV zs = zs.length := by
  rw [perV, mb_eq (isB_zero h0) fun j hj => by
    rcases Nat.eq_zero_or_pos j with h | h
    · omega
    · have := hj.1
      exact absurd (by rw [show zs.length - (zs.length - j) = j by omega]; exact hj) (hq (zs.length - j) (by omega) (by omega))]
  simp
theorem perV_range {zs : List Int} (h0 : 0 < zs.length) : 1 ≤ perV zs ∧ perV zs ≤ zs.length := by
  obtain ⟨k, h1, h2, _⟩ := mb_spec zs zs.length h0
  rw [perV, h1]; omega
theorem implLeast (v : Value) (zs : List Int) (w : World) (h : Rd w v zs) (hz : zs.length ≤ 400) (h0 : 0 < zs.length) :
    Calls Try.prog 27 #[v] w fun e w' => e = .returned (.int .i64 (perV zs)) ∧ Below w.heap.size w w' := by
  have HV := Lib.hid h
  obtain ⟨_, _, a, c, rfl, hcap, _⟩ := h
  go_enter Try.func27, Try.ntmps27
  go_wp2_with fail
  refine (implTable _ zs _ HV.out hz).mono ?_
  rintro e w1 ⟨r, rfl, ho, hb⟩
  have HB := Lib.hid hb
  obtain ⟨g, rfl, hg1, hg2, hown⟩ := ho.ex
  obtain ⟨m, hm⟩ : ∃ m, m = mb zs zs.length := ⟨_, rfl⟩
  rw [tabL_length] at hown ⊢
  have hc : w1.cell? ⟨g, zs.length, none⟩ = some (.int .i64 m) := by
    rw [hown.cellAt zs.length (by omega)]
    exact mapAt' (by rw [tabL_length]; omega) (by rw [tabL_at _ _ _ (by omega), hm])
  have hmr := mb_range zs zs.length
  rw [← hm] at hmr
  have HV2 : Hid (perV zs = (zs.length : Int) - m) := Lib.hid (by rw [perV, hm])
  have i1 : (zs.length : Int) < (zs.length : Int) + 1 := by omega
  clear ho hb hown hm
  go_wp2
  go_ret
  exact ⟨by rw [HV2.out] <;> rfl, HB.out⟩
theorem pp_bad {zs : List Int} (h : wordB zs = false) : ppV zs = 0 ∧ ppC zs = 1 := by simp [ppV, ppC, h]
theorem pp_empty {zs : List Int} (h : wordB zs = true) (h0 : ¬ 0 < zs.length) : ppV zs = 0 ∧ ppC zs = 3 := by
  rw [ppV, ppC, if_neg (fun g => h0 g.2), if_pos h, if_neg h0]; exact ⟨rfl, rfl⟩
theorem pp_good {zs : List Int} (h : wordB zs = true) (h0 : 0 < zs.length) : ppV zs = perV zs ∧ ppC zs = 0 := by
  rw [ppV, ppC, if_pos ⟨h, h0⟩, if_pos h, if_pos h0]; exact ⟨rfl, rfl⟩
theorem implPeriodOf (v : Value) (zs : List Int) (w : World) (h : Rd w v zs) :
    Calls Try.prog 11 #[v] w fun e w' => e = .returned (.tuple #[.int .i64 (ppV zs), .int .i64 (ppC zs)]) ∧ Below w.heap.size w w' := by
  have HV := Lib.hid h
  obtain ⟨_, _, a, c, rfl, _, _⟩ := h
  rcases eqOr (wordB zs) with hn | hn
  · have HN := Lib.hid hn
    have e := Lib.hid (pp_bad hn)
    clear hn
    go_enter Try.func11, Try.ntmps11
    go_wp2_with (go_at_call 26; refine (implWord _ zs _ HV.out).mono ?_; rintro e2 w' ⟨rfl, hb⟩; rw [HN.out]; have HB := Lib.hid hb; clear hb)
    go_ret2
    exact ⟨by rw [e.out.1, e.out.2] <;> rfl, HB.out⟩
  have HN := Lib.hid hn
  by_cases h0 : 0 < zs.length
  · have e := Lib.hid (pp_good hn h0)
    have hz := (wordB_iff hn).1
    have hb0 : ((zs.length : Int) == 0) = false := beq_eq_false_iff_ne.2 (by omega)
    clear hn
    go_enter Try.func11, Try.ntmps11
    go_wp2_with (first | (go_at_call 26; refine (implWord _ zs _ HV.out).mono ?_; rintro e2 w' ⟨rfl, hb⟩; rw [HN.out]; have HB := Lib.hid hb; clear hb) | (go_at_call 27; refine (implLeast _ zs _ (HV.out.below HB.out (Nat.le_refl _)) hz h0).mono ?_; rintro e2 w2 ⟨rfl, hb⟩; have HB2 := Lib.hid (HB.out.trans (hb.mono HB.out.size)); clear hb))
    go_ret2
    exact ⟨by rw [e.out.1, e.out.2] <;> rfl, HB2.out⟩
  · have e := Lib.hid (pp_empty hn h0)
    have hb0 : ((zs.length : Int) == 0) = true := by simp; exact List.eq_nil_of_length_eq_zero (by omega)
    clear hn h0
    go_enter Try.func11, Try.ntmps11
    go_wp2_with (go_at_call 26; refine (implWord _ zs _ HV.out).mono ?_; rintro e2 w' ⟨rfl, hb⟩; rw [HN.out]; have HB := Lib.hid hb; clear hb)
    go_ret2
    exact ⟨by rw [e.out.1, e.out.2] <;> rfl, HB.out⟩
end Go.Proofs.Ytgfidlppocheoaa.Ints
