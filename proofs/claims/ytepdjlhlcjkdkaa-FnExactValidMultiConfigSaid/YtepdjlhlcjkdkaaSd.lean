/- Sides of tapes: the model's and the program's tests of them. -/
import Derived.Test.YtepdjlhlcjkdkaaTrE
import Derived.Test.YtepdjlhlcjkdkaaIn
namespace Go.Proofs.Ytepdjlhlcjkdkaa.Ints
open Go.RowKit
set_option linter.unusedVariables false
set_option linter.unusedSimpArgs false
/-- Symbols that may stand on a side of the head. -/
structure SdOk (sy : Int) (zs : List Int) : Prop where
  len : zs.length ≤ 200
  dig : Dig sy zs
  last : zs.length = 0 ∨ zs.getD (zs.length - 1) 0 ≠ 0
open Classical in
noncomputable def sdB (sy : Int) (zs : List Int) : Bool := decide (SdOk sy zs)
theorem sdB_true {sy : Int} {zs : List Int} (h : SdOk sy zs) : sdB sy zs = true := by simp only [sdB, decide_eq_true_eq]; exact h
theorem sdB_false {sy : Int} {zs : List Int} (h : ¬ SdOk sy zs) : sdB sy zs = false := by simp only [sdB, decide_eq_false_iff_not]; exact h
set_option maxHeartbeats 4000000 in
theorem specSd (v : Value) (zs : List Int) (sy : Int) (w : World) (hv : Rd w v zs) (s0 : 0 ≤ sy) (s1 : sy ≤ 1000000) :
    Calls Try.prog 73 #[v, .int .i64 sy] w fun e w' => e = .returned (.bool (sdB sy zs)) ∧ w' = w := by
  obtain ⟨hl, hf, a, c, rfl, hcap, hr⟩ := hv
  have e1 : IntKind.i64.wrap (sy - 1) = sy - 1 := by rw [IntKind.wrap_i64]; omega
  have HS1 := Lib.hid (show sy - 1 < sy by omega)
  clear s0 s1
  by_cases h1 : zs.length ≤ 200
  rotate_left
  · have hd : decide ((200 : Int) < (zs.length : Int)) = true := decide_eq_true (by omega)
    have hd2 : (200 : Int) < (zs.length : Int) := by omega
    have HF : Hid (sdB sy zs = false) := Lib.hid (sdB_false fun H => h1 H.len)
    clear h1 hr
    go_enter Try.func73, Try.ntmps73
    go_wp2
    go_ret
    exact ⟨by rw [HF.out] <;> rfl, rfl⟩
  have hd : ¬ (200 : Int) < (zs.length : Int) := by omega
  have HL := Lib.hid h1
  clear h1
  go_enter Try.func73, Try.ntmps73
  go_wp2
  go_loop [5] (fun s => ∃ k : Nat, k ≤ zs.length ∧ s = .int .i64 k ∧ ∀ i, i < k → 0 ≤ zs.getD i 0 ∧ zs.getD i 0 < sy) (fun s => zs.length - (intOf s).toNat)
  case atStart => exact ⟨0, Nat.zero_le _, rfl, fun i hi => by omega⟩
  case round =>
    obtain ⟨k, hk, rfl, hall⟩ := hrel
    have HA := Lib.hid hall
    clear hall
    by_cases hlt : k < zs.length
    · obtain ⟨b, o, rfl, hb, hcell⟩ := hr (by intro h0; rw [h0] at hlt; simp at hlt)
      obtain ⟨x, hx⟩ : ∃ x, x = zs.getD k 0 := ⟨_, rfl⟩
      have hc : w.cell? ⟨b, o + k, none⟩ = some (.int .i64 x) := by rw [hx]; exact hcell k hlt
      have j0 : (0 : Int) ≤ (k : Int) := by omega
      have j1 : (k : Int) < (zs.length : Int) := by omega
      have HX := Lib.hid hx
      clear hcell hr hx
      by_cases hg : 0 ≤ x ∧ x ≤ sy - 1
      · have HG := Lib.hid hg
        have HN : Hid (∀ i, i < k + 1 → 0 ≤ zs.getD i 0 ∧ zs.getD i 0 < sy) := Lib.hid (fun i hi => by
          by_cases he : i = k
          · subst he; rw [← HX.out]; have := HS1.out; omega
          · exact HA.out i (by omega))
        clear hg
        go_wp2_with fail
        refine (specInY _ _ _ _ HG.out).mono ?_
        rintro e w1 ⟨rfl, rfl⟩
        go_wp2
        go_round
        case rel => exact ⟨k + 1, by omega, by go_num, HN.out⟩
        case measure => simp [intOf]; omega
      · have HG := Lib.hid hg
        have HF : Hid (sdB sy zs = false) := Lib.hid (sdB_false fun H => hg (by have := H.dig k hlt; rw [← HX.out] at this; omega))
        clear hg
        go_wp2_with fail
        refine (specInN _ _ _ _ HG.out).mono ?_
        rintro e w1 ⟨rfl, rfl⟩
        go_wp2
        go_ret
        exact ⟨by rw [HF.out] <;> rfl, rfl⟩
    · obtain rfl : k = zs.length := by omega
      by_cases h2 : zs.length = 0
      · have hd2 : ((zs.length : Int) == 0) = true := by simp only [beq_iff_eq]; omega
        have HF : Hid (sdB sy zs = true) := Lib.hid (sdB_true ⟨HL.out, HA.out, .inl h2⟩)
        clear h2 hr hlt
        go_wp2
        go_ret
        exact ⟨by rw [HF.out] <;> rfl, rfl⟩
      have hd2 : ((zs.length : Int) == 0) = false := by simp only [beq_eq_false_iff_ne]; omega
      obtain ⟨b, o, rfl, hb, hcell⟩ := hr (by intro h0; rw [h0] at h2; simp at h2)
      obtain ⟨x, hx⟩ : ∃ x, x = zs.getD (zs.length - 1) 0 := ⟨_, rfl⟩
      have hc : w.cell? ⟨b, o + (zs.length - 1), none⟩ = some (.int .i64 x) := by rw [hx]; exact hcell (zs.length - 1) (by omega)
      have j0 : (0 : Int) ≤ (zs.length : Int) - 1 := by omega
      have j1 : (zs.length : Int) - 1 < (zs.length : Int) := by omega
      have j2 : ((zs.length : Int) - 1).toNat = zs.length - 1 := by omega
      have j3 : IntKind.i64.wrap ((zs.length : Int) - 1) = (zs.length : Int) - 1 := by rw [IntKind.wrap_i64]; omega
      by_cases h3 : x = 0
      · have hx0 : (x != 0) = false := by simp [h3]
        have HF : Hid (sdB sy zs = false) := Lib.hid (sdB_false fun H => by
          rcases H.last with h | h
          · exact h2 h
          · exact h (by rw [← hx]; exact h3))
        clear h2 h3 hx hcell hlt
        go_wp2
        go_ret
        exact ⟨by rw [HF.out] <;> rfl, rfl⟩
      · have hx0 : (x != 0) = true := by simp [h3]
        have HF : Hid (sdB sy zs = true) := Lib.hid (sdB_true ⟨HL.out, HA.out, .inr (by rw [← hx]; exact h3)⟩)
        clear h2 h3 hx hcell hlt
        go_wp2
        go_ret
        exact ⟨by rw [HF.out] <;> rfl, rfl⟩
theorem sdB_eq {sy : Int} {zs : List Int} (h : zs.length ≤ 200) : sdB sy zs = (digB sy zs && decide (trE zs zs.length = zs.length)) := by
  by_cases hd : Dig sy zs
  · rw [digB_true hd]
    by_cases ht : trE zs zs.length = zs.length
    · rw [decide_eq_true ht, sdB_true ⟨h, hd, (trE_full zs).1 ht⟩]; rfl
    · rw [decide_eq_false ht, sdB_false (fun H => ht ((trE_full zs).2 H.last))]; rfl
  · rw [digB_false hd, sdB_false (fun H => hd H.dig)]; rfl
set_option maxHeartbeats 2000000 in
theorem implSd (v : Value) (zs : List Int) (sy mo : Int) (w : World) (hv : Rd w v zs) (hmo : mo = 200) :
    Calls Try.prog 68 #[v, .int .i64 sy, .int .i64 mo] w fun e w' => e = .returned (.bool (sdB sy zs)) ∧ Below w.heap.size w w' := by
  have HV := Lib.hid hv
  obtain ⟨_, _, a, c, rfl, _, _⟩ := hv
  obtain ⟨bd, hbd⟩ : ∃ b, b = (decide ((zs.length : Int) ≤ mo) && digB sy zs) := ⟨_, rfl⟩
  have HS : Hid (sdB sy zs = (bd && decide (trE zs zs.length = zs.length))) := Lib.hid (by
    rw [hbd]
    by_cases h1 : zs.length ≤ 200
    · rw [sdB_eq h1, decide_eq_true (show (zs.length : Int) ≤ mo by omega)]; rfl
    · rw [sdB_false fun H => h1 H.len, decide_eq_false (show ¬ (zs.length : Int) ≤ mo by omega)]; rfl)
  have HBD := Lib.hid hbd
  clear hbd hmo
  go_enter Try.func68, Try.ntmps68
  go_wp2_with fail
  refine (implCells _ zs sy mo _ HV.out).mono ?_
  rintro e w1 ⟨rfl, hb1⟩
  rw [← HBD.out]
  have HB1 := Lib.hid hb1
  clear hb1
  rcases eqOr bd with hb | hb
  · subst hb
    have HF : Hid (sdB sy zs = false) := Lib.hid (by rw [HS.out]; rfl)
    go_wp2_with fail
    go_ret
    exact ⟨by rw [HF.out] <;> rfl, HB1.out⟩
  · subst hb
    go_wp2_with fail
    refine (implTrimRd _ zs _ (HV.out.below HB1.out (Nat.le_refl _))).mono ?_
    rintro e w2 ⟨a2, c2, rfl, rfl⟩
    have HF : Hid (sdB sy zs = decide (trE zs zs.length = zs.length)) := Lib.hid (by rw [HS.out]; rfl)
    obtain ⟨q, hq⟩ : ∃ q, q = trE zs zs.length := ⟨_, rfl⟩
    rw [← hq] at HF ⊢
    clear hq
    by_cases he : q = zs.length
    · have hz : ((q : Int) == (zs.length : Int)) = true := by simp only [beq_iff_eq]; omega
      have HF2 : Hid (sdB sy zs = true) := Lib.hid (by rw [HF.out, decide_eq_true he])
      clear he
      go_wp2
      go_ret
      exact ⟨by rw [HF2.out] <;> rfl, HB1.out⟩
    · have hz : ((q : Int) == (zs.length : Int)) = false := by simp only [beq_eq_false_iff_ne]; omega
      have HF2 : Hid (sdB sy zs = false) := Lib.hid (by rw [HF.out, decide_eq_false he])
      clear he
      go_wp2
      go_ret
      exact ⟨by rw [HF2.out] <;> rfl, HB1.out⟩
end Go.Proofs.Ytepdjlhlcjkdkaa.Ints
