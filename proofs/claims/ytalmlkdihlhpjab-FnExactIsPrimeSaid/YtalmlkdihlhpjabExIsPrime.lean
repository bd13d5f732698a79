/-   FnExactIsPrime: for every int64 the program's IsPrime answers as its model. No condition. -/
import Derived.Test.YtalmlkdihlhpjabRows
import Derived.WalkKit
import Derived.ProofKit
import Derived.OpenShut
import Derived.ShutString
import Derived.Handy
import Derived.Lib.Hide
import Derived.Test.YtalmlkdihlhpjabMath
namespace Go.Proofs.Ytalmlkdihlhpjab.fnExactIsPrime
open Go.ChangeShapes Go.WideShapes Go.ChangeAt Go.RowKit
open Go.ChangeMaps (open_string shut_string)
set_option linter.unusedVariables false

theorem own : ownKnob Try.prog.godebug = none := by kernel_rfl

open Math
set_option maxHeartbeats 1000000 in
theorem spec_loop (n : Int) (w : World) (h1 : 2 ≤ n) (h2 : n ≤ 1000000000000) :
    Calls Try.prog 43 #[.int .i64 n] w fun x w' => x = .returned (.bool (primeB n)) ∧ w = w' := by
  have t1 : ¬ n < 2 := by omega
  go_enter Try.func43, Try.ntmps43
  go_wp2
  go_loop [3] (fun x => ∃ d : Int, 2 ≤ d ∧ d ≤ 1000010 ∧ x = .int .i64 d ∧ ∀ y : Int, 2 ≤ y → y < d → n % y ≠ 0) (fun x => (1000020 - intOf x).toNat)
  case atStart => exact ⟨2, by omega, by omega, rfl, fun y a b => by omega⟩
  case round =>
    obtain ⟨d, hd1, hd2, rfl, hall⟩ := hrel
    have HA := Lib.hid hall
    clear hall
    obtain ⟨s0, s1⟩ := sq_facts (d := d) (by omega) hd2
    by_cases hle : d * d ≤ n
    · have hr := root_le (d := d) (by omega)
      by_cases hz : n % d = 0
      · have hb : (n % d == 0) = true := by simp [hz]
        have HF := Lib.hid (primeB_false (one_found hd1 hle hz))
        clear hz
        go_wp2
        go_ret
        exact ⟨by rw [HF.out] <;> rfl, rfl⟩
      · have hb : (n % d == 0) = false := by simp [hz]
        have HN : Hid (∀ y : Int, 2 ≤ y → y < d + 1 → n % y ≠ 0) := Lib.hid (fun y a b => by
          by_cases hy : y = d
          · subst hy; exact hz
          · exact HA.out y a (by omega))
        have hd3 : d ≤ 1000000 := hr
        clear hz hr
        go_wp2
        go_round
        case rel => exact ⟨d + 1, by omega, by omega, rfl, HN.out⟩
        case measure => simp [intOf]; omega
    · have HF := Lib.hid (primeB_true (none_left hd1 (by omega) HA.out))
      go_wp2
      go_ret
      exact ⟨by rw [HF.out] <;> rfl, rfl⟩
set_option maxHeartbeats 1000000 in
theorem impl_wheel (n : Int) (w : World) (h1 : 5 ≤ n) (h2 : n ≤ 1000000000000) (h3 : n % 2 ≠ 0) (h4 : n % 3 ≠ 0) :
    Calls Try.prog 21 #[.int .i64 n] w fun x w' => x = .returned (.bool (primeB n)) ∧ w = w' := by
  have t1 : ¬ n < 2 := by omega
  have t2 : ¬ 1000000000000 < n := by omega
  have t3 : (n % 2 == 0) = false := by simp [h3]
  have t4 : (n % 3 == 0) = false := by simp [h4]
  have H3 := Lib.hid h3
  have H4 := Lib.hid h4
  clear h3 h4
  go_enter Try.func21, Try.ntmps21
  go_wp2
  go_loop [3] (fun x => ∃ (d : Int) (k : Nat), d = 6 * k + 5 ∧ d ≤ 1000010 ∧ x = .int .i64 d ∧ ∀ y : Int, 2 ≤ y → y < d → n % y ≠ 0) (fun x => (1000020 - intOf x).toNat)
  case atStart => exact ⟨5, 0, by omega, by omega, rfl, Math.start H3.out H4.out⟩
  case round =>
    obtain ⟨d, k, hk, hd2, rfl, hall⟩ := hrel
    have HA := Lib.hid hall
    have hd1 : 5 ≤ d := by omega
    have HK := Lib.hid hk
    clear hall hk
    obtain ⟨s0, s1⟩ := sq_facts (d := d) (by omega) hd2
    by_cases hle : d * d ≤ n
    · have hd3 : d ≤ 1000000 := root_le (d := d) (by omega)
      by_cases hz : n % d = 0
      · have hb : (n % d == 0) = true := by simp [hz]
        have HF := Lib.hid (primeB_false (one_found (by omega) hle hz))
        clear hz
        go_wp2
        go_ret
        exact ⟨by rw [HF.out] <;> rfl, rfl⟩
      · have hb : (n % d == 0) = false := by simp [hz]
        by_cases hz2 : n % (d + 2) = 0
        · have hb2 : (n % (d + 2) == 0) = true := by simp [hz2]
          have HF := Lib.hid (primeB_false (wheel_none hd1 hle hz2))
          clear hz hz2
          go_wp2
          go_ret
          exact ⟨by rw [HF.out] <;> rfl, rfl⟩
        · have hb2 : (n % (d + 2) == 0) = false := by simp [hz2]
          have HN := Lib.hid (wheel HK.out H3.out H4.out hz hz2 HA.out)
          clear hz hz2
          go_wp2
          go_round
          case rel => exact ⟨d + 6, k + 1, by have := HK.out; omega, by omega, rfl, HN.out⟩
          case measure => simp [intOf]; omega
    · have HF := Lib.hid (primeB_true (none_left (by omega) (by omega) HA.out))
      go_wp2
      go_ret
      exact ⟨by rw [HF.out] <;> rfl, rfl⟩
theorem impl_any (n : Int) (w : World) (h1 : 2 ≤ n) (h2 : n ≤ 1000000000000) :
    Calls Try.prog 21 #[.int .i64 n] w fun x w' => x = .returned (.bool (primeB n)) ∧ w = w' := by
  have t1 : ¬ n < 2 := by omega
  have t2 : ¬ 1000000000000 < n := by omega
  by_cases h3 : n % 2 = 0
  · have t3 : (n % 2 == 0) = true := by simp [h3]
    have HP : Hid (primeB n = decide (n ≤ 3)) := Lib.hid (by
      by_cases h : n ≤ 3
      · simp [h, primeB_true (small_prime h1 h)]
      · simp [h, primeB_false (even_none (by omega) h3)])
    clear h3
    go_enter Try.func21, Try.ntmps21
    go_wp2
    all_goals
      go_ret
      exact ⟨by rw [HP.out] <;> rfl, rfl⟩
  · by_cases h4 : n % 3 = 0
    · have t3 : (n % 2 == 0) = false := by simp [h3]
      have t4 : (n % 3 == 0) = true := by simp [h4]
      have HP : Hid (primeB n = decide (n ≤ 3)) := Lib.hid (by
        by_cases h : n ≤ 3
        · simp [h, primeB_true (small_prime h1 h)]
        · simp [h, primeB_false (third_none (by omega) h4)])
      clear h3 h4
      go_enter Try.func21, Try.ntmps21
      go_wp2
      all_goals
        go_ret
        exact ⟨by rw [HP.out] <;> rfl, rfl⟩
    · exact impl_wheel n w (by omega) h2 h3 h4

theorem walk (a0 : Int) (w0 : (Lit.int .i64 a0).wf = true) (w : World) :
    Calls Try.prog 4 #[.int .i64 a0] w fun e w' => e = .returned (.bool true) ∧ Grown w w' := by
  by_cases g1 : 2 ≤ a0
  · by_cases g2 : a0 ≤ 1000000000000
    · go_enter Try.func4, Try.ntmps4
      go_wp2_with (first | (go_at_call 43; refine (spec_loop _ _ g1 g2).mono ?_; rintro e w' ⟨rfl, rfl⟩) | (go_at_call 21; refine (impl_any _ _ g1 g2).mono ?_; rintro e w' ⟨rfl, rfl⟩) | go_in)
      go_ret
      exact ⟨rfl, Grown.refl _⟩
    · have t2 : ¬ a0 < 2 := by omega
      have t1 : 1000000000000 < a0 := by omega
      go_enter Try.func4, Try.ntmps4
      go_wp2
      go_ret
      exact ⟨rfl, Grown.refl _⟩
  · have t2 : a0 < 2 := by omega
    have t3 : a0 ≤ 1000000000000 := by omega
    go_enter Try.func4, Try.ntmps4
    go_wp2
    go_ret
    exact ⟨rfl, Grown.refl _⟩

/-! ### THE ROW's STEP: WRITTEN OUT: LEAVE IT -/
set_option maxRecDepth 100000 in
theorem lifted (os : Os) (started : os.Started) (H : Type) (enc : TypeId × Value → H) :
    ReturnsInHanded {} Try.checked os 4 .any (Rows.fnExactIsPrimeSpec.pre6 enc Try.prog Try.f4 Rows.fnExactIsPrimeRow.domain false) (Rows.fnExactIsPrimeSpec.post enc Try.prog Try.f4 false true false false) := by
  refine returnsInHanded_of_change (C := Try.checked) own started (by kernel_rfl) Try.func4
    (ChangeSpec.witness6 (enc := enc) (C := Try.checked) false ⟨#[], #[.int .i64 0], []⟩ 8 (by kernel_rfl) (by kernel_rfl) (by kernel_rfl) (by kernel_rfl)) ?_
  intro W base args ds gs before hval0 hW hcnd _
  have hval : ∀ (j : Nat) t v, Try.f4.params[j]? = some t → args[j]? = some v → Value.okWide Try.prog W .any base t v := hval0
  have hW' := hW
  obtain ⟨p, q, hA0, hV, rfl, hfz, hnd⟩ := hW
  have hA : DataW.TrodAll enc Try.prog W 0 (fun _ => true) true Try.f4.params.toList args.toList ds p := hA0
  rw [Try.params4] at hA hval
  obtain ⟨v0, vs0, d0, ds0, p0, q0, hargs, rfl, rfl, h0, r0⟩ := trodAll_cons hA
  obtain ⟨rfl, rfl, rfl⟩ := trodAll_nil r0
  obtain rfl : args = #[v0] := by cases args; simp_all
  obtain ⟨rfl, rfl⟩ := trodVars_none hV
  obtain ⟨a0, rfl, rfl, rfl, w0⟩ := open_int Try.underlying2 (hval 0 2 v0 rfl rfl) h0
  clear hA0 hval0
  simp only [List.append_nil] at hW'
  refine (walk a0 w0 W).mono fun e W' ⟨he, hg⟩ => ?_
  subst he
  exact ⟨_, rfl, post_of_same (pa := []) (pv := []) hW' (fun _ _ _ => (trodAll_cons_mk (shut_bool Try.underlying4 _) trodAll_mk0)) (fun sp _ => (trodAll_cons_mk (shut_int Try.underlying2 w0) trodAll_mk0)) (fun _ _ => rfl) rfl
    (hg.frame _) hg.2.1 (ok_one (by kernel_rfl) rfl (okWide_bool_mk Try.underlying4 _))⟩

theorem over : Rows.fnExactIsPrimeRow.holds Try.pinned (OpenSpec.ofChange Rows.fnExactIsPrimeSpec) :=
  OpenClaim.holds_of_wide 4 Try.f4 rfl rfl rfl rfl rfl rfl rfl ⟨rfl, rfl, rfl, rfl, rfl⟩ rfl rfl rfl rfl rfl (by kernel_rfl) Try.func4 (by kernel_rfl)
    (of_decide_eq_true (by kernel_rfl)) (by unfold Func.isWrapper; first | (rw [if_pos (by decide +kernel)]; kernel_rfl) | (rw [if_neg (by decide +kernel)]; exact ⟨rfl, rfl⟩))
    (fun os started H enc _ => lifted os started H enc)

/-- ████ THE STATEMENT ████ -/
theorem proved : Rows.FnExactIsPrimeSaid :=
  over
#print axioms proved
end Go.Proofs.Ytalmlkdihlhpjab.fnExactIsPrime
