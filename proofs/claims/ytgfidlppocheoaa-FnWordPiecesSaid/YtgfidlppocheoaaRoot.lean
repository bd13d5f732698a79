/- Contracts of RootOf, of the model and of the program. -/
import Derived.Test.YtgfidlppocheoaaPerN
import Derived.Deep.RegionHeld3
namespace Go.Proofs.Ytgfidlppocheoaa.Ints
open Go.RowKit
set_option linter.unusedVariables false

noncomputable def rtN (zs : List Int) : Nat := if (zs.length : Int) % perV zs ≠ 0 then zs.length else (perV zs).toNat
noncomputable def rtL (zs : List Int) : List Int := if wordB zs = true ∧ 0 < zs.length then zs.take (rtN zs) else []
noncomputable def rtI (zs : List Int) : Int := if wordB zs = true ∧ 0 < zs.length then (zs.length : Int) / (rtN zs : Int) else 0
noncomputable def rtC (zs : List Int) : Int := if wordB zs = true then (if 0 < zs.length then 0 else 3) else 1
theorem rt_bad {zs : List Int} (h : wordB zs = false) : rtL zs = [] ∧ rtI zs = 0 ∧ rtC zs = 1 := by simp [rtL, rtI, rtC, h]
theorem rt_empty {zs : List Int} (h : wordB zs = true) (h0 : ¬ 0 < zs.length) : rtL zs = [] ∧ rtI zs = 0 ∧ rtC zs = 3 := by
  rw [rtL, rtI, rtC, if_neg (fun g => h0 g.2), if_neg (fun g => h0 g.2), if_pos h, if_neg h0]; exact ⟨rfl, rfl, rfl⟩
theorem rt_good {zs : List Int} (h : wordB zs = true) (h0 : 0 < zs.length) : rtL zs = zs.take (rtN zs) ∧ rtI zs = (zs.length : Int) / (rtN zs : Int) ∧ rtC zs = 0 := by
  rw [rtL, rtI, rtC, if_pos ⟨h, h0⟩, if_pos ⟨h, h0⟩, if_pos h, if_pos h0]; exact ⟨rfl, rfl, rfl⟩
set_option maxRecDepth 100000 in
set_option maxHeartbeats 4000000 in
theorem implRootOf (v : Value) (zs : List Int) (w : World) (h : Rd w v zs) :
    Calls Try.prog 13 #[v] w fun e w' => ∃ r, e = .returned (.tuple #[r, .int .i64 (rtI zs), .int .i64 (rtC zs)]) ∧ Ow w' w.heap.size w'.heap.size r (rtL zs) ∧ Below w.heap.size w w' := by
  have HV := Lib.hid h
  obtain ⟨_, _, a, c, rfl, hcap, _⟩ := h
  rcases eqOr (wordB zs) with hn | hn
  · have HN := Lib.hid hn
    have e := Lib.hid (rt_bad hn)
    clear hn
    go_enter Try.func13, Try.ntmps13
    go_wp2_with (go_at_call 26; refine (implWord _ zs _ HV.out).mono ?_; rintro e2 w' ⟨rfl, hb⟩; rw [HN.out]; have HB := Lib.hid hb; clear hb)
    go_ret3
    exact ⟨_, by rw [e.out.2.1, e.out.2.2] <;> rfl, by rw [e.out.1]; exact Ow.emptyUp HB.out.size, HB.out⟩
  have HN := Lib.hid hn
  by_cases h0 : 0 < zs.length
  rotate_left
  · have e := Lib.hid (rt_empty hn h0)
    have hb0 : ((zs.length : Int) == 0) = true := by simp; exact List.eq_nil_of_length_eq_zero (by omega)
    clear hn h0
    go_enter Try.func13, Try.ntmps13
    go_wp2_with (go_at_call 26; refine (implWord _ zs _ HV.out).mono ?_; rintro e2 w' ⟨rfl, hb⟩; rw [HN.out]; have HB := Lib.hid hb; clear hb)
    go_ret3
    exact ⟨_, by rw [e.out.2.1, e.out.2.2] <;> rfl, by rw [e.out.1]; exact Ow.emptyUp HB.out.size, HB.out⟩
  have e0 := Lib.hid (rt_good hn h0)
  have hz := (wordB_iff hn).1
  have hb0 : ((zs.length : Int) == 0) = false := beq_eq_false_iff_ne.2 (by omega)
  obtain ⟨p, hp⟩ : ∃ p : Nat, perV zs = p := ⟨(perV zs).toNat, by have := (perV_range h0).1; omega⟩
  have hr := perV_range h0
  rw [hp] at hr
  have HPP := Lib.hid hp
  have hne : ¬ zs = [] := fun e => by rw [e] at h0; simp at h0
  have hp0 : ¬ p = 0 := by omega
  have hp0' : ¬ (p : Int) = 0 := by omega
  have hn0' : ¬ (zs.length : Int) = 0 := by omega
  have hpz : ((p : Int) == 0) = false := beq_eq_false_iff_ne.2 (by omega)
  have htm : (zs.length : Int).tmod (p : Int) = (zs.length : Int) % (p : Int) := Int.tmod_eq_emod_of_nonneg (by omega)
  obtain ⟨m, hm⟩ : ∃ m, m = (zs.length : Int) % (p : Int) := ⟨_, rfl⟩
  rw [← hm] at htm
  have HM := Lib.hid hm
  clear hn hm
  by_cases hm0 : m = 0
  rotate_left
  · have hmb : (m != 0) = true := by simp [hm0]
    have HQ : Hid (rtN zs = zs.length) := Lib.hid (by rw [rtN, HPP.out, ← HM.out]; simp [hm0])
    have htd : (zs.length : Int).tdiv (zs.length : Int) = (zs.length : Int) / (zs.length : Int) := Int.tdiv_eq_ediv_of_nonneg (by omega)
    obtain ⟨d, hd⟩ : ∃ d, d = (zs.length : Int) / (zs.length : Int) := ⟨_, rfl⟩
    rw [← hd] at htd
    have hd0 : 0 ≤ d := by rw [hd]; exact Int.ediv_nonneg (by omega) (by omega)
    have hd1 : d ≤ (zs.length : Int) := by rw [hd]; exact Int.ediv_le_self _ (by omega)
    have hwd : IntKind.i64.wrap d = d := by rw [IntKind.wrap_i64]; omega
    have HD := Lib.hid hd
    have HF := Lib.hid (HV.out.front zs.length (by omega))
    have j1 : (zs.length : Int) ≤ (zs.length : Int) := by omega
    have j2 : (zs.length : Int) ≤ (c : Int) := by omega
    clear hm0 hd
    go_enter Try.func13, Try.ntmps13
    go_wp2_with (first | (go_at_call 26; refine (implWord _ zs _ HV.out).mono ?_; rintro e2 w' ⟨rfl, hb⟩; rw [HN.out]; have HB := Lib.hid hb; clear hb) | (go_at_call 27; refine (implLeast _ zs _ (HV.out.below HB.out (Nat.le_refl _)) hz h0).mono ?_; rintro e2 w2 ⟨rfl, hb⟩; rw [HPP.out]; have HB2 := Lib.hid (HB.out.trans (hb.mono HB.out.size)); clear hb) | (go_at_call 32; fail))
    have HBD := Lib.hid HB2.out.drew
    go_region_held3 (fun w' => True) (trivial)
      (first
        | (go_at_call 32; refine (libClone _ (zs.take zs.length) _ (HF.out.below HBD.out (Nat.le_refl _))).mono ?_; rintro e3 w3 ⟨r, rfl, ho, hb⟩; have HB3 := Lib.hid (HBD.out.trans (hb.mono HBD.out.size)); have HO3 := Lib.hid (ho.mono (B' := w.heap.size) HBD.out.size (Nat.le_refl _) (Nat.le_refl _)); clear ho hb))
    all_goals
      go_wp2
      go_ret3
      exact ⟨_, by rw [e0.out.2.1, e0.out.2.2, HQ.out, Int.ediv_self hn0'] <;> rfl, by rw [e0.out.1, HQ.out]; exact HO3.out, HB3.out⟩
  have hmb : (m != 0) = false := by simp [hm0]
  have HQ : Hid (rtN zs = p) := Lib.hid (by rw [rtN, HPP.out, ← HM.out]; simp [hm0])
  have htd : (zs.length : Int).tdiv (p : Int) = (zs.length : Int) / (p : Int) := Int.tdiv_eq_ediv_of_nonneg (by omega)
  obtain ⟨d, hd⟩ : ∃ d, d = (zs.length : Int) / (p : Int) := ⟨_, rfl⟩
  rw [← hd] at htd
  have hd0 : 0 ≤ d := by rw [hd]; exact Int.ediv_nonneg (by omega) (by omega)
  have hd1 : d ≤ (zs.length : Int) := by rw [hd]; exact Int.ediv_le_self _ (by omega)
  have hwd : IntKind.i64.wrap d = d := by rw [IntKind.wrap_i64]; omega
  have HD := Lib.hid hd
  have HF := Lib.hid (HV.out.front p (by omega))
  have j1 : (p : Int) ≤ (zs.length : Int) := by omega
  have j2 : (p : Int) ≤ (c : Int) := by omega
  clear hm0 hd
  go_enter Try.func13, Try.ntmps13
  go_wp2_with (first | (go_at_call 26; refine (implWord _ zs _ HV.out).mono ?_; rintro e2 w' ⟨rfl, hb⟩; rw [HN.out]; have HB := Lib.hid hb; clear hb) | (go_at_call 27; refine (implLeast _ zs _ (HV.out.below HB.out (Nat.le_refl _)) hz h0).mono ?_; rintro e2 w2 ⟨rfl, hb⟩; rw [HPP.out]; have HB2 := Lib.hid (HB.out.trans (hb.mono HB.out.size)); clear hb) | (go_at_call 32; fail))
  have HBD := Lib.hid HB2.out.drew
  go_region_held3 (fun w' => True) (trivial)
    (first
      | (go_at_call 32; refine (libClone _ (zs.take p) _ (HF.out.below HBD.out (Nat.le_refl _))).mono ?_; rintro e3 w3 ⟨r, rfl, ho, hb⟩; have HB3 := Lib.hid (HBD.out.trans (hb.mono HBD.out.size)); have HO3 := Lib.hid (ho.mono (B' := w.heap.size) HBD.out.size (Nat.le_refl _) (Nat.le_refl _)); clear ho hb))
  all_goals
    go_wp2
    go_ret3
    exact ⟨_, by rw [e0.out.2.1, e0.out.2.2, HQ.out, ← HD.out] <;> rfl, by rw [e0.out.1, HQ.out]; exact HO3.out, HB3.out⟩
end Go.Proofs.Ytgfidlppocheoaa.Ints
