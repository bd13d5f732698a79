/- Programs of fractions: the model's test, its divisor, its lowest terms. -/
import Derived.Test.YtbifkjmmhfnblaaDoorFrc
import Derived.Test.YtbifkjmmhfnblaaDoorFraL
import Derived.Test.YtbifkjmmhfnblaaDoorIn
import Derived.Deep.RegionLaw
import Derived.Deep.QuietTactic
import Derived.BigQuiet
namespace Go.Proofs.YtbifkjmmhfnblaaDoor.Ints
open Go.RowKit
set_option linter.unusedVariables false
set_option linter.unusedSimpArgs false
set_option maxHeartbeats 4000000 in
set_option maxRecDepth 100000 in
theorem specFIs (v : Value) (rs : List Fra) (w : World) (hv : RdFra w v rs) :
    Calls Tryd.prog 59 #[v] w fun e w' => e = .returned (.bool (frsB rs)) ∧ w = w' := by
  obtain ⟨hl, hf, a, c, rfl, hcap, hr⟩ := hv
  have HR := Lib.hid hr
  clear hr
  by_cases l1 : rs.length < 1
  · have e := Lib.hid (frsB_false (rs := rs) (fun h => by have := h.lo; omega))
    have d1 : decide ((rs.length : Int) < 1) = true := decide_eq_true (by omega)
    clear l1
    go_enter Tryd.func59, Tryd.ntmps59
    go_wp2
    go_ret
    exact ⟨by rw [e.out] <;> rfl, rfl⟩
  have d1 : decide ((rs.length : Int) < 1) = false := decide_eq_false (by omega)
  by_cases l2 : 100 < rs.length
  · have e := Lib.hid (frsB_false (rs := rs) (fun h => by have := h.hi; omega))
    have d2 : decide ((100 : Int) < (rs.length : Int)) = true := decide_eq_true (by omega)
    clear l1 l2
    go_enter Tryd.func59, Tryd.ntmps59
    go_wp2
    go_ret
    exact ⟨by rw [e.out] <;> rfl, rfl⟩
  have d2 : decide ((100 : Int) < (rs.length : Int)) = false := decide_eq_false (by omega)
  have HL : Hid (1 ≤ rs.length ∧ rs.length ≤ 100) := Lib.hid ⟨by omega, by omega⟩
  clear l1 l2
  go_enter Tryd.func59, Tryd.ntmps59
  go_wp2
  clear d1 d2
  go_loop [3] (fun s => ∃ k : Nat, k ≤ rs.length ∧ s = .int .i64 k ∧ (∀ i, i < k → FraOk (rs.getD i zFra))) (fun s => rs.length - (intOf s).toNat)
  case atStart => exact ⟨0, Nat.zero_le _, rfl, fun i hi => by omega⟩
  case round =>
    obtain ⟨k, hk, rfl, hall⟩ := hrel
    have HA := Lib.hid hall
    clear hall
    by_cases hlt : k < rs.length
    rotate_left
    · obtain rfl : k = rs.length := by omega
      have e := Lib.hid (frsB_true ⟨HL.out.1, HL.out.2, HA.out⟩)
      go_wp2
      go_ret
      exact ⟨by rw [e.out] <;> rfl, rfl⟩
    obtain ⟨b, o, rfl, hb, hcell⟩ := HR.out (by intro h0; rw [h0] at hlt; simp at hlt)
    obtain ⟨c0, c1⟩ := hcell k hlt
    have i0 : (0 : Int) ≤ (k : Int) := by omega
    have i1 : (k : Int) < (rs.length : Int) := by omega
    obtain ⟨r, hr0⟩ : ∃ r, r = rs.getD k zFra := ⟨_, rfl⟩
    rw [← hr0] at c0 c1
    have HE := Lib.hid hr0
    obtain ⟨x, y⟩ := r
    dsimp only at c0 c1
    have HNO : Hid (¬ FraOk ⟨x, y⟩ → frsB rs = false) := Lib.hid (fun h => frsB_false (fun h' => h (by rw [HE.out]; exact h'.all k hlt)))
    have HYES : Hid (FraOk ⟨x, y⟩ → ∀ i, i < k + 1 → FraOk (rs.getD i zFra)) := Lib.hid (fun h i hi => by
      by_cases e : i = k
      · subst e; rw [← HE.out]; exact h
      · exact HA.out i (by omega))
    clear hcell hr0 hk hb
    by_cases h1 : 1 ≤ x ∧ x ≤ 999999
    rotate_left
    · have H1 := Lib.hid h1
      have e := Lib.hid (HNO.out (fun h => H1.out h.1))
      clear h1
      go_wp2_with fail
      refine (specInN x _ _ _ H1.out).mono ?_
      rintro e1 w1 ⟨rfl, rfl⟩
      go_wp2
      go_ret
      exact ⟨by rw [e.out] <;> rfl, rfl⟩
    have H1 := Lib.hid h1
    clear h1
    by_cases h2 : 1 ≤ y ∧ y ≤ 999999
    rotate_left
    · have H2 := Lib.hid h2
      have e := Lib.hid (HNO.out (fun h => H2.out h.2))
      clear h2
      go_wp2_with fail
      refine (specInY x _ _ _ H1.out).mono ?_
      rintro e1 w1 ⟨rfl, rfl⟩
      go_wp2_with fail
      refine (specInN y _ _ _ H2.out).mono ?_
      rintro e1 w1 ⟨rfl, rfl⟩
      go_wp2
      go_ret
      exact ⟨by rw [e.out] <;> rfl, rfl⟩
    have H2 := Lib.hid h2
    clear h2
    have HY := Lib.hid (HYES.out ⟨H1.out, H2.out⟩)
    go_wp2_with fail
    refine (specInY x _ _ _ H1.out).mono ?_
    rintro e1 w1 ⟨rfl, rfl⟩
    go_wp2_with fail
    refine (specInY y _ _ _ H2.out).mono ?_
    rintro e1 w1 ⟨rfl, rfl⟩
    go_wp2
    go_round
    case rel => exact ⟨k + 1, by omega, by go_num, HY.out⟩
    case measure => simp [intOf]; omega
end Go.Proofs.YtbifkjmmhfnblaaDoor.Ints
