/- Programs of fractions: the model's test, its divisor, its lowest terms. -/
import Derived.Test.YtadfknafcamamaaFrc
import Derived.Test.YtadfknafcamamaaFraL
import Derived.Test.YtadfknafcamamaaIn
import Derived.Deep.RegionLaw
import Derived.Deep.QuietTactic
import Derived.BigQuiet
namespace Go.Proofs.Ytadfknafcamamaa.Ints
open Go.RowKit
set_option linter.unusedVariables false
set_option linter.unusedSimpArgs false
set_option maxHeartbeats 4000000 in
set_option maxRecDepth 100000 in
theorem specFIs (v : Value) (rs : List Fra) (w : World) (hv : RdFra w v rs) :
    Calls Try.prog 41 #[v] w fun e w' => e = .returned (.bool (frsB rs)) ∧ w = w' := by
  obtain ⟨hl, hf, a, c, rfl, hcap, hr⟩ := hv
  have HR := Lib.hid hr
  clear hr
  by_cases l1 : rs.length < 1
  · have e := Lib.hid (frsB_false (rs := rs) (fun h => by have := h.lo; omega))
    have d1 : decide ((rs.length : Int) < 1) = true := decide_eq_true (by omega)
    clear l1
    go_enter Try.func41, Try.ntmps41
    go_wp2
    go_ret
    exact ⟨by rw [e.out] <;> rfl, rfl⟩
  have d1 : decide ((rs.length : Int) < 1) = false := decide_eq_false (by omega)
  by_cases l2 : 100 < rs.length
  · have e := Lib.hid (frsB_false (rs := rs) (fun h => by have := h.hi; omega))
    have d2 : decide ((100 : Int) < (rs.length : Int)) = true := decide_eq_true (by omega)
    clear l1 l2
    go_enter Try.func41, Try.ntmps41
    go_wp2
    go_ret
    exact ⟨by rw [e.out] <;> rfl, rfl⟩
  have d2 : decide ((100 : Int) < (rs.length : Int)) = false := decide_eq_false (by omega)
  have HL : Hid (1 ≤ rs.length ∧ rs.length ≤ 100) := Lib.hid ⟨by omega, by omega⟩
  clear l1 l2
  go_enter Try.func41, Try.ntmps41
  go_wp2
  clear d1 d2
  go_loop [3] (fun s => ∃ k : Nat, k ≤ rs.length ∧ s = .int .i64 k ∧ (∀ i, i < k → FraOk (rs.getD i zFra))) (fun s => rs.length - (intOf s).toNat)
  case atStart => exact ⟨0, Nat.zero_le _, rfl, fun i hi => by omega⟩
  case round =>
    obtain ⟨k, hk, rfl, hall⟩ := hrel
    have HA := Lib.hid hall
    clear hall
    by_cases hlt : k < rs.length
    rotate_left
    · obtain rfl : k = rs.length := by omega
      have e := Lib.hid (frsB_true ⟨HL.out.1, HL.out.2, HA.out⟩)
      go_wp2
      go_ret
      exact ⟨by rw [e.out] <;> rfl, rfl⟩
    obtain ⟨b, o, rfl, hb, hcell⟩ := HR.out (by intro h0; rw [h0] at hlt; simp at hlt)
    obtain ⟨c0, c1⟩ := hcell k hlt
    have i0 : (0 : Int) ≤ (k : Int) := by omega
    have i1 : (k : Int) < (rs.length : Int) := by omega
    obtain ⟨r, hr0⟩ : ∃ r, r = rs.getD k zFra := ⟨_, rfl⟩
    rw [← hr0] at c0 c1
    have HE := Lib.hid hr0
    obtain ⟨x, y⟩ := r
    dsimp only at c0 c1
    have HNO : Hid (¬ FraOk ⟨x, y⟩ → frsB rs = false) := Lib.hid (fun h => frsB_false (fun h' => h (by rw [HE.out]; exact h'.all k hlt)))
    have HYES : Hid (FraOk ⟨x, y⟩ → ∀ i, i < k + 1 → FraOk (rs.getD i zFra)) := Lib.hid (fun h i hi => by
      by_cases e : i = k
      · subst e; rw [← HE.out]; exact h
      · exact HA.out i (by omega))
    clear hcell hr0 hk hb
    by_cases h1 : 1 ≤ x ∧ x ≤ 999999
    rotate_left
    · have H1 := Lib.hid h1
      have e := Lib.hid (HNO.out (fun h => H1.out h.1))
      clear h1
      go_wp2_with fail
      refine (specInN x _ _ _ H1.out).mono ?_
      rintro e1 w1 ⟨rfl, rfl⟩
      go_wp2
      go_ret
      exact ⟨by rw [e.out] <;> rfl, rfl⟩
    have H1 := Lib.hid h1
    clear h1
    by_cases h2 : 1 ≤ y ∧ y ≤ 999999
    rotate_left
    · have H2 := Lib.hid h2
      have e := Lib.hid (HNO.out (fun h => H2.out h.2))
      clear h2
      go_wp2_with fail
      refine (specInY x _ _ _ H1.out).mono ?_
      rintro e1 w1 ⟨rfl, rfl⟩
      go_wp2_with fail
      refine (specInN y _ _ _ H2.out).mono ?_
      rintro e1 w1 ⟨rfl, rfl⟩
      go_wp2
      go_ret
      exact ⟨by rw [e.out] <;> rfl, rfl⟩
    have H2 := Lib.hid h2
    clear h2
    have HY := Lib.hid (HYES.out ⟨H1.out, H2.out⟩)
    go_wp2_with fail
    refine (specInY x _ _ _ H1.out).mono ?_
    rintro e1 w1 ⟨rfl, rfl⟩
    go_wp2_with fail
    refine (specInY y _ _ _ H2.out).mono ?_
    rintro e1 w1 ⟨rfl, rfl⟩
    go_wp2
    go_round
    case rel => exact ⟨k + 1, by omega, by go_num, HY.out⟩
    case measure => simp [intOf]; omega
theorem specValidFractions (v : Value) (rs : List Fra) (w : World) (hv : RdFra w v rs) :
    Calls Try.prog 15 #[v] w fun e w' => e = .returned (.bool (frsB rs)) ∧ Below w.heap.size w w' := by
  have HV := Lib.hid hv
  obtain ⟨_, _, a, c, rfl, _, _⟩ := hv
  go_enter Try.func15, Try.ntmps15
  go_wp2_with fail
  refine (specFIs _ rs _ HV.out).mono ?_
  rintro e w1 ⟨rfl, rfl⟩
  go_wp2
  go_ret
  exact ⟨rfl, Below.refl _ _⟩
theorem specGcd (x y : Int) (w : World) (h1 : 1 ≤ x ∧ x ≤ 999999) (h2 : 1 ≤ y ∧ y ≤ 999999) :
    Calls Try.prog 46 #[.int .i64 x, .int .i64 y] w fun e w' => e = .returned (.int .i64 (gcdI x y)) ∧ w = w' := by
  obtain ⟨m, rfl⟩ : ∃ m : Nat, x = (m : Int) := ⟨x.toNat, by omega⟩
  obtain ⟨n, rfl⟩ : ∃ n : Nat, y = (n : Int) := ⟨y.toNat, by omega⟩
  obtain ⟨G, hG⟩ : ∃ G, G = Nat.gcd m n := ⟨_, rfl⟩
  have e : Hid (gcdI (m : Int) (n : Int) = (G : Int)) := Lib.hid (by rw [hG]; simp [gcdI])
  have HG := Lib.hid hG
  have H1 := Lib.hid h1
  have H2 := Lib.hid h2
  clear hG h1 h2
  go_enter Try.func46, Try.ntmps46
  go_wp2
  go_loop [0, 1] (fun s t => ∃ d k : Nat, s = .int .i64 (d : Int) ∧ t = .int .i64 (k : Int) ∧ 1 ≤ d ∧ d ≤ 999999 ∧ k ≤ 999999 ∧ Nat.gcd d k = G) (fun _ t => (intOf t).toNat)
  case atStart => exact ⟨m, n, rfl, rfl, by have := H1.out; omega, by have := H1.out; omega, by have := H2.out; omega, HG.out.symm⟩
  case round =>
    obtain ⟨d, k, rfl, rfl, hd1, hd2, hk2, hg⟩ := hrel
    have HGG := Lib.hid hg
    clear hg
    by_cases hk : 0 < k
    · have HS : Hid (Nat.gcd k (d % k) = G) := Lib.hid ((gcdI_step d k).trans HGG.out)
      have HM : Hid (d % k < k) := Lib.hid (Nat.mod_lt _ hk)
      have k0 : (0 : Int) < (k : Int) := by omega
      have k1 : ¬ (k : Int) = 0 := by omega
      go_wp2
      go_round
      case rel => exact ⟨k, d % k, rfl, by first | rfl | (simp), hk, hk2, by have := HM.out; omega, HS.out⟩
      case measure => have := HM.out; simp [intOf]; omega
    · obtain rfl : k = 0 := by omega
      have HE : Hid (d = G) := Lib.hid (by have := HGG.out; simpa using this)
      go_wp2
      go_ret
      exact ⟨by rw [e.out, HE.out] <;> rfl, rfl⟩
end Go.Proofs.Ytadfknafcamamaa.Ints
