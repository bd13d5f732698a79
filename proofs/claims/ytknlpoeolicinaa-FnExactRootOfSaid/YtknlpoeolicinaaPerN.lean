/- Least periods: the model's loop and the program's table; contracts of PeriodOf. -/
import Derived.Test.YtknlpoeolicinaaPer
import Derived.Test.YtknlpoeolicinaaWord
namespace Go.Proofs.Ytknlpoeolicinaa.Ints
open Go.RowKit
set_option linter.unusedVariables false

noncomputable def perV (zs : List Int) : Int := zs.length - mb zs zs.length
noncomputable def ppV (zs : List Int) : Int := if wordB zs = true ∧ 0 < zs.length then perV zs else 0
noncomputable def ppC (zs : List Int) : Int := if wordB zs = true then (if 0 < zs.length then 0 else 3) else 1
theorem perV_hit {zs : List Int} {p : Nat} (h1 : 1 ≤ p) (hp : p < zs.length) (hs : zs.drop p = zs.take (zs.length - p)) (hq : ∀ q, 1 ≤ q → q < p → ¬ isB zs zs.length (zs.length - q)) : perV zs = p := by
  have hb : isB zs zs.length (zs.length - p) := (isB_same (by omega)).2 (by rw [← hs]; congr 1; omega)
  rw [perV, mb_eq hb fun j hj => by
    rcases Nat.lt_or_ge (zs.length - p) j with h | h
    · have := hj.1
      exact absurd (by rw [show zs.length - (zs.length - j) = j by omega]; exact hj) (hq (zs.length - j) (by omega) (by omega))
    · exact h]
  omega
theorem perV_end {zs : List Int} (h0 : 0 < zs.length) (hq : ∀ q, 1 ≤ q → q < zs.length → ¬ isB zs zs.length (zs.length - q)) : perV zs = zs.length := by
  rw [perV, mb_eq (isB_zero h0) fun j hj => by
    rcases Nat.eq_zero_or_pos j with h | h
    · omega
    · have := hj.1
      exact absurd (by rw [show zs.length - (zs.length - j) = j by omega]; exact hj) (hq (zs.length - j) (by omega) (by omega))]
  simp
theorem perV_range {zs : List Int} (h0 : 0 < zs.length) : 1 ≤ perV zs ∧ perV zs ≤ zs.length := by
  obtain ⟨k, h1, h2, _⟩ := mb_spec zs zs.length h0
  rw [perV, h1]; omega
set_option maxHeartbeats 2000000 in
theorem specPeriod (v : Value) (zs : List Int) (w : World) (h : Rd w v zs) (hz : zs.length ≤ 400) (h0 : 0 < zs.length) :
    Calls Try.prog 56 #[v] w fun e w' => e = .returned (.int .i64 (perV zs)) ∧ Below w.heap.size w w' := by
  have HV := Lib.hid h
  obtain ⟨_, _, a, c, rfl, hcap, _⟩ := h
  go_enter Try.func56, Try.ntmps56
  go_wp2
  go_loopw [3] (fun s wr => ∃ p : Nat, s = .int .i64 p ∧ 1 ≤ p ∧ p ≤ zs.length ∧ (∀ q, 1 ≤ q → q < p → ¬ isB zs zs.length (zs.length - q)) ∧ Below w.heap.size w wr) (fun s _ => zs.length + 1 - (intOf s).toNat)
  case atStart => exact ⟨1, rfl, by omega, by omega, fun q h1 h2 => by omega, Below.refl _ _⟩
  case round =>
    obtain ⟨p, rfl, h1, hp, hall, hbel⟩ := hrel
    have HA := Lib.hid hall
    have HW := Lib.hid hbel
    by_cases hlt : p < zs.length
    · have hv' := HV.out.below hbel (Nat.le_refl _)
      have hc0 := hv'.cut p zs.length (by omega) (Nat.le_refl _)
      rw [List.take_length] at hc0
      have hf0 := hv'.front (zs.length - p) (by omega)
      obtain ⟨wd, hwd⟩ : ∃ x, x = wr.drew := ⟨_, rfl⟩
      have hbd : Below wr.heap.size wr wd := by rw [hwd]; exact (Below.refl _ _).drew
      obtain ⟨ad, had⟩ : ∃ ad, ad = (if c = p then a else Option.map (fun x => x.add p) a) := ⟨_, rfl⟩
      have hc1 : Rd wd (.slice ad (zs.length - p) (c - p)) (zs.drop p) := by rw [had]; exact hc0.below hbd (Nat.le_refl _)
      have hf1 : Rd wd (.slice a (zs.length - p) c) (zs.take (zs.length - p)) := hf0.below hbd (Nat.le_refl _)
      obtain ⟨xs, hxs⟩ : ∃ xs, xs = zs.drop p := ⟨_, rfl⟩
      obtain ⟨ys, hys⟩ : ∃ ys, ys = zs.take (zs.length - p) := ⟨_, rfl⟩
      rw [← hxs] at hc1
      rw [← hys] at hf1
      have HC := Lib.hid hc1
      have HF := Lib.hid hf1
      have HAD := Lib.hid had
      have HWD := Lib.hid hwd
      have HBD := Lib.hid ((HW.out.trans (hbd.mono HW.out.size)))
      have hsz := HBD.out.size
      have i1 : (p : Int) ≤ (zs.length : Int) := by omega
      have i2 : (p : Int) < (zs.length : Int) := by omega
      have i3 : (0 : Int) ≤ (zs.length : Int) - (p : Int) := by omega
      have i4 : ((zs.length : Int) - (p : Int)).toNat = zs.length - p := by omega
      have i5 : IntKind.i64.wrap ((zs.length : Int) - (p : Int)) = (zs.length : Int) - (p : Int) := by rw [IntKind.wrap_i64]; omega
      have i6 : (zs.length : Int) - (p : Int) ≤ (c : Int) := by omega
      have i7 : (p : Int) ≤ (c : Int) := by omega
      have i8 : (0 : Int) ≤ (p : Int) := by omega
      by_cases hs : xs = ys
      · have HS : Hid (decide (xs = ys) = true) := Lib.hid (decide_eq_true hs)
        have HV2 := Lib.hid (perV_hit h1 hlt (by rw [← hxs, ← hys]; exact hs) hall)
        clear hs hxs hys hall hbel hv' hc0 hf0 hc1 hf1 had hwd hbd
        go_wp2_with fail
        go_still_tail 9, (by kernel_rfl)
        change wpList _ _ _ _ _ wr.drew
        rw [← HWD.out, ← HAD.out]
        go_wp2_with fail
        refine (specSame _ _ xs ys _ HC.out HF.out).mono ?_
        rintro e w2 ⟨rfl, hb⟩
        rw [HS.out]
        have HB2 := Lib.hid (HBD.out.trans (hb.mono HBD.out.size))
        clear hb
        go_wp2
        go_ret
        exact ⟨by rw [HV2.out] <;> rfl, HB2.out⟩
      · have HS : Hid (decide (xs = ys) = false) := Lib.hid (decide_eq_false hs)
        have HN : Hid (∀ q, 1 ≤ q → q < p + 1 → ¬ isB zs zs.length (zs.length - q)) := Lib.hid (fun q g1 g2 => by
          by_cases e : q = p
          · subst e
            intro hb
            have := (isB_same (by omega)).1 hb
            rw [show zs.length - (zs.length - q) = q by omega] at this
            exact hs (by rw [hxs, hys, this])
          · exact hall q g1 (by omega))
        clear hs hxs hys hall hbel hv' hc0 hf0 hc1 hf1 had hwd hbd
        go_wp2_with fail
        go_still_tail 9, (by kernel_rfl)
        change wpList _ _ _ _ _ wr.drew
        rw [← HWD.out, ← HAD.out]
        go_wp2_with fail
        refine (specSame _ _ xs ys _ HC.out HF.out).mono ?_
        rintro e w2 ⟨rfl, hb⟩
        rw [HS.out]
        have HB2 := Lib.hid (HBD.out.trans (hb.mono HBD.out.size))
        clear hb
        go_wp2
        go_roundw
        case rel => exact ⟨p + 1, by go_num, by omega, by omega, HN.out, HB2.out⟩
        case measure => simp [intOf]; omega
    · have hpe : p = zs.length := by omega
      have HV2 := Lib.hid (perV_end h0 (by rw [← hpe]; rw [hpe] at hall ⊢; exact hall))
      have i1 : ¬ (p : Int) < (zs.length : Int) := by omega
      clear hall hbel hpe
      go_wp2
      go_ret
      exact ⟨by rw [HV2.out] <;> rfl, HW.out⟩
theorem implLeast (v : Value) (zs : List Int) (w : World) (h : Rd w v zs) (hz : zs.length ≤ 400) (h0 : 0 < zs.length) :
    Calls Try.prog 57 #[v] w fun e w' => e = .returned (.int .i64 (perV zs)) ∧ Below w.heap.size w w' := by
  have HV := Lib.hid h
  obtain ⟨_, _, a, c, rfl, hcap, _⟩ := h
  go_enter Try.func57, Try.ntmps57
  go_wp2_with fail
  refine (implTable _ zs _ HV.out hz).mono ?_
  rintro e w1 ⟨r, rfl, ho, hb⟩
  have HB := Lib.hid hb
  obtain ⟨g, rfl, hg1, hg2, hown⟩ := ho.ex
  obtain ⟨m, hm⟩ : ∃ m, m = mb zs zs.length := ⟨_, rfl⟩
  rw [tabL_length] at hown ⊢
  have hc : w1.cell? ⟨g, zs.length, none⟩ = some (.int .i64 m) := by
    rw [hown.cellAt zs.length (by omega)]
    exact mapAt' (by rw [tabL_length]; omega) (by rw [tabL_at _ _ _ (by omega), hm])
  have hmr := mb_range zs zs.length
  rw [← hm] at hmr
  have HV2 : Hid (perV zs = (zs.length : Int) - m) := Lib.hid (by rw [perV, hm])
  have i1 : (zs.length : Int) < (zs.length : Int) + 1 := by omega
  clear ho hb hown hm
  go_wp2
  go_ret
  exact ⟨by rw [HV2.out] <;> rfl, HB.out⟩
theorem pp_bad {zs : List Int} (h : wordB zs = false) : ppV zs = 0 ∧ ppC zs = 1 := by simp [ppV, ppC, h]
theorem pp_empty {zs : List Int} (h : wordB zs = true) (h0 : ¬ 0 < zs.length) : ppV zs = 0 ∧ ppC zs = 3 := by
  rw [ppV, ppC, if_neg (fun g => h0 g.2), if_pos h, if_neg h0]; exact ⟨rfl, rfl⟩
theorem pp_good {zs : List Int} (h : wordB zs = true) (h0 : 0 < zs.length) : ppV zs = perV zs ∧ ppC zs = 0 := by
  rw [ppV, ppC, if_pos ⟨h, h0⟩, if_pos h, if_pos h0]; exact ⟨rfl, rfl⟩
theorem specPeriodOf (v : Value) (zs : List Int) (w : World) (h : Rd w v zs) :
    Calls Try.prog 29 #[v] w fun e w' => e = .returned (.tuple #[.int .i64 (ppV zs), .int .i64 (ppC zs)]) ∧ Below w.heap.size w w' := by
  have HV := Lib.hid h
  obtain ⟨_, _, a, c, rfl, _, _⟩ := h
  rcases eqOr (wordB zs) with hn | hn
  · have HN := Lib.hid hn
    have e := Lib.hid (pp_bad hn)
    clear hn
    go_enter Try.func29, Try.ntmps29
    go_wp2_with (go_at_call 44; refine (specWord _ zs _ HV.out).mono ?_; rintro e2 w' ⟨rfl, rfl⟩; rw [HN.out])
    go_ret2
    exact ⟨by rw [e.out.1, e.out.2] <;> rfl, Below.refl _ _⟩
  have HN := Lib.hid hn
  by_cases h0 : 0 < zs.length
  · have e := Lib.hid (pp_good hn h0)
    have hz := (wordB_iff hn).1
    have hb0 : ((zs.length : Int) == 0) = false := beq_eq_false_iff_ne.2 (by omega)
    clear hn
    go_enter Try.func29, Try.ntmps29
    go_wp2_with (first | (go_at_call 44; refine (specWord _ zs _ HV.out).mono ?_; rintro e2 w' ⟨rfl, rfl⟩; rw [HN.out]) | (go_at_call 56; refine (specPeriod _ zs _ HV.out hz h0).mono ?_; rintro e2 w2 ⟨rfl, hb⟩; have HB := Lib.hid hb; clear hb))
    go_ret2
    exact ⟨by rw [e.out.1, e.out.2] <;> rfl, HB.out⟩
  · have e := Lib.hid (pp_empty hn h0)
    have hb0 : ((zs.length : Int) == 0) = true := by simp; exact List.eq_nil_of_length_eq_zero (by omega)
    clear hn h0
    go_enter Try.func29, Try.ntmps29
    go_wp2_with (go_at_call 44; refine (specWord _ zs _ HV.out).mono ?_; rintro e2 w' ⟨rfl, rfl⟩; rw [HN.out])
    go_ret2
    exact ⟨by rw [e.out.1, e.out.2] <;> rfl, Below.refl _ _⟩
theorem implPeriodOf (v : Value) (zs : List Int) (w : World) (h : Rd w v zs) :
    Calls Try.prog 30 #[v] w fun e w' => e = .returned (.tuple #[.int .i64 (ppV zs), .int .i64 (ppC zs)]) ∧ Below w.heap.size w w' := by
  have HV := Lib.hid h
  obtain ⟨_, _, a, c, rfl, _, _⟩ := h
  rcases eqOr (wordB zs) with hn | hn
  · have HN := Lib.hid hn
    have e := Lib.hid (pp_bad hn)
    clear hn
    go_enter Try.func30, Try.ntmps30
    go_wp2_with (go_at_call 17; refine (implWord _ zs _ HV.out).mono ?_; rintro e2 w' ⟨rfl, hb⟩; rw [HN.out]; have HB := Lib.hid hb; clear hb)
    go_ret2
    exact ⟨by rw [e.out.1, e.out.2] <;> rfl, HB.out⟩
  have HN := Lib.hid hn
  by_cases h0 : 0 < zs.length
  · have e := Lib.hid (pp_good hn h0)
    have hz := (wordB_iff hn).1
    have hb0 : ((zs.length : Int) == 0) = false := beq_eq_false_iff_ne.2 (by omega)
    clear hn
    go_enter Try.func30, Try.ntmps30
    go_wp2_with (first | (go_at_call 17; refine (implWord _ zs _ HV.out).mono ?_; rintro e2 w' ⟨rfl, hb⟩; rw [HN.out]; have HB := Lib.hid hb; clear hb) | (go_at_call 57; refine (implLeast _ zs _ (HV.out.below HB.out (Nat.le_refl _)) hz h0).mono ?_; rintro e2 w2 ⟨rfl, hb⟩; have HB2 := Lib.hid (HB.out.trans (hb.mono HB.out.size)); clear hb))
    go_ret2
    exact ⟨by rw [e.out.1, e.out.2] <;> rfl, HB2.out⟩
  · have e := Lib.hid (pp_empty hn h0)
    have hb0 : ((zs.length : Int) == 0) = true := by simp; exact List.eq_nil_of_length_eq_zero (by omega)
    clear hn h0
    go_enter Try.func30, Try.ntmps30
    go_wp2_with (go_at_call 17; refine (implWord _ zs _ HV.out).mono ?_; rintro e2 w' ⟨rfl, hb⟩; rw [HN.out]; have HB := Lib.hid hb; clear hb)
    go_ret2
    exact ⟨by rw [e.out.1, e.out.2] <;> rfl, HB.out⟩
end Go.Proofs.Ytknlpoeolicinaa.Ints
