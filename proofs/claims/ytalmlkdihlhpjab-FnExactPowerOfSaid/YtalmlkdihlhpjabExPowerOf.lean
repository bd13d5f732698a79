/-   FnExactPowerOf: for all base and exponent the program's PowerOf answers as its model: the power and the code. No condition. -/
import Derived.Test.YtalmlkdihlhpjabRows
import Derived.WalkKit
import Derived.ProofKit
import Derived.OpenShut
import Derived.ShutString
import Derived.Handy
import Derived.Lib.Hide
import Derived.Test.YtalmlkdihlhpjabMath
namespace Go.Proofs.Ytalmlkdihlhpjab.fnExactPowerOf
open Go.ChangeShapes Go.WideShapes Go.ChangeAt Go.RowKit
open Go.ChangeMaps (open_string shut_string)
set_option linter.unusedVariables false

theorem own : ownKnob Try.prog.godebug = none := by kernel_rfl

open Math
set_option maxHeartbeats 1000000 in
theorem spec_loop (b e : Int) (w : World) (h1 : 2 ≤ b) (h2 : b ≤ 1000000000000) (h3 : 0 ≤ e) (h4 : e ≤ 64) :
    Calls Try.prog 46 #[.int .i64 b, .int .i64 e] w fun x w' => x = .returned (.tuple #[.int .i64 (pwV b e.toNat 1), .bool (decide (pwC b e.toNat 1 = 0))]) ∧ w = w' := by
  have t1 : ¬ b < 2 := by omega
  go_enter Try.func46, Try.ntmps46
  go_wp2
  go_loop [1, 6] (fun x o => ∃ (k : Nat) (p : Int), (k : Int) ≤ 64 ∧ 1 ≤ p ∧ p ≤ 1000000000000 ∧ x = .int .i64 k ∧ o = .int .i64 p ∧ pwV b e.toNat 1 = pwV b k p ∧ pwC b e.toNat 1 = pwC b k p) (fun x _ => (intOf x).toNat)
  case atStart => exact ⟨e.toNat, 1, by omega, by omega, by omega, by rw [Int.toNat_of_nonneg h3], rfl, rfl, rfl⟩
  case round =>
    obtain ⟨k, p, hk, hp1, hp2, rfl, rfl, hv, hc⟩ := hrel
    have HV := Lib.hid hv
    have HC := Lib.hid hc
    clear hv hc
    cases k with
    | zero =>
      go_wp2
      go_ret2
      exact ⟨by rw [HV.out, HC.out]; simp [pwV, pwC, pwr], rfl⟩
    | succ k =>
      have hpos : (0 : Int) < ((k + 1 : Nat) : Int) := by omega
      by_cases hf : 1000000000000 / b < p
      · have hz := pwV_full (k := k) (show 0 < b by omega) hf
        have HZ := Lib.hid hz
        clear hz
        go_wp2
        go_ret2
        exact ⟨by rw [HV.out, HC.out, HZ.out.1, HZ.out.2]; rfl, rfl⟩
      · have hz := pwV_step (b := b) (p := p) (k := k) (fun h => hf h.2)
        have hm := mul_fits (b := b) (p := p) (by omega) (by omega) hf
        have hm1 : 1 ≤ p * b := by
          have := Int.mul_le_mul_of_nonneg_right hp1 (show (0 : Int) ≤ b by omega); omega
        obtain ⟨hm0, hm2⟩ := hm
        have HZ := Lib.hid hz
        clear hz
        go_wp2
        go_round
        case rel => exact ⟨k, p * b, by omega, hm1, hm2, by first | rfl | go_num, rfl, by rw [HV.out, HZ.out.1], by rw [HC.out, HZ.out.2]⟩
        case measure => first | (simp [intOf]; omega) | simp [intOf]
set_option maxHeartbeats 1000000 in
theorem impl_good (b e : Int) (w : World) (h1 : 0 ≤ b) (h2 : b ≤ 1000000000000) (h3 : 0 ≤ e) (h4 : e ≤ 64) :
    Calls Try.prog 25 #[.int .i64 b, .int .i64 e] w fun x w' => x = .returned (.tuple #[.int .i64 (pwV b e.toNat 1), .int .i64 (pwC b e.toNat 1)]) ∧ w = w' := by
  have t1 : ¬ b < 0 := by omega
  have t2 : ¬ 1000000000000 < b := by omega
  have t3 : ¬ e < 0 := by omega
  have t4 : ¬ 64 < e := by omega
  go_enter Try.func25, Try.ntmps25
  go_wp2
  go_loop [6, 22] (fun o x => ∃ (k i : Nat) (p : Int), (i : Int) + k = e ∧ 0 ≤ p ∧ p ≤ 1000000000000 ∧ x = .int .i64 i ∧ o = .int .i64 p ∧ pwV b e.toNat 1 = pwV b k p ∧ pwC b e.toNat 1 = pwC b k p) (fun _ x => (e - intOf x).toNat)
  case atStart => exact ⟨e.toNat, 0, 1, by omega, by omega, by omega, rfl, rfl, rfl, rfl⟩
  case round =>
    obtain ⟨k, i, p, hik, hp1, hp2, rfl, rfl, hv, hc⟩ := hrel
    have HV := Lib.hid hv
    have HC := Lib.hid hc
    have HI := Lib.hid hik
    have hi0 : (i : Int) ≤ e := by omega
    clear hv hc
    cases k with
    | zero =>
      have hge : ¬ (i : Int) < e := by omega
      clear hik
      go_wp2
      go_ret2
      exact ⟨by rw [HV.out, HC.out]; simp [pwV, pwC, pwr], rfl⟩
    | succ k =>
      have hlt : (i : Int) < e := by omega
      clear hik
      by_cases hb : 0 < b
      · by_cases hf : 1000000000000 / b < p
        · have hz := pwV_full (k := k) hb hf
          have HZ := Lib.hid hz
          clear hz
          go_wp2
          go_ret2
          exact ⟨by rw [HV.out, HC.out, HZ.out.1, HZ.out.2]; rfl, rfl⟩
        · have hz := pwV_step (b := b) (p := p) (k := k) (fun h => hf h.2)
          obtain ⟨hm0, hm2⟩ := mul_fits (b := b) (p := p) (by omega) (by omega) hf
          have HZ := Lib.hid hz
          clear hz
          go_wp2
          go_round
          case rel => exact ⟨k, i + 1, p * b, by have := HI.out; omega, hm0, hm2, by go_num, rfl, by rw [HV.out, HZ.out.1], by rw [HC.out, HZ.out.2]⟩
          case measure => simp [intOf]; omega
      · obtain rfl : b = 0 := by omega
        have hz := pwV_step (b := 0) (p := p) (k := k) (fun h => hb h.1)
        simp only [Int.mul_zero] at hz
        have HZ := Lib.hid hz
        clear hz
        go_wp2
        go_round
        case rel => exact ⟨k, i + 1, 0, by have := HI.out; omega, by omega, by omega, by go_num, by simp, by rw [HV.out, HZ.out.1], by rw [HC.out, HZ.out.2]⟩
        case measure => simp [intOf]; omega
theorem impl_bad (b e : Int) (w : World) (h : b < 0 ∨ 1000000000000 < b ∨ e < 0 ∨ 64 < e) :
    Calls Try.prog 25 #[.int .i64 b, .int .i64 e] w fun x w' => x = .returned (.tuple #[.int .i64 0, .int .i64 2]) ∧ w = w' := by
  by_cases g1 : b < 0
  · go_enter Try.func25, Try.ntmps25
    go_wp2
    go_ret2
    exact ⟨rfl, rfl⟩
  · by_cases g2 : 1000000000000 < b
    · go_enter Try.func25, Try.ntmps25
      go_wp2
      go_ret2
      exact ⟨rfl, rfl⟩
    · by_cases g3 : e < 0
      · go_enter Try.func25, Try.ntmps25
        go_wp2
        go_ret2
        exact ⟨rfl, rfl⟩
      · have g4 : 64 < e := by omega
        go_enter Try.func25, Try.ntmps25
        go_wp2
        go_ret2
        exact ⟨rfl, rfl⟩
theorem spec_bad (b e : Int) (w : World) (h : b < 0 ∨ 1000000000000 < b ∨ e < 0 ∨ 64 < e) :
    Calls Try.prog 24 #[.int .i64 b, .int .i64 e] w fun x w' => x = .returned (.tuple #[.int .i64 0, .int .i64 2]) ∧ w = w' := by
  by_cases g1 : 0 ≤ b
  · by_cases g2 : b ≤ 1000000000000
    · by_cases g3 : 0 ≤ e
      · have g4 : ¬ e ≤ 64 := by omega
        go_enter Try.func24, Try.ntmps24
        go_wp2
        go_ret2
        exact ⟨rfl, rfl⟩
      · go_enter Try.func24, Try.ntmps24
        go_wp2
        go_ret2
        exact ⟨rfl, rfl⟩
    · go_enter Try.func24, Try.ntmps24
      go_wp2
      go_ret2
      exact ⟨rfl, rfl⟩
  · go_enter Try.func24, Try.ntmps24
    go_wp2
    go_ret2
    exact ⟨rfl, rfl⟩
theorem spec_good (b e : Int) (w : World) (h1 : 0 ≤ b) (h2 : b ≤ 1000000000000) (h3 : 0 ≤ e) (h4 : e ≤ 64) :
    Calls Try.prog 24 #[.int .i64 b, .int .i64 e] w fun x w' => x = .returned (.tuple #[.int .i64 (pwV b e.toNat 1), .int .i64 (pwC b e.toNat 1)]) ∧ w = w' := by
  by_cases g : 2 ≤ b
  · rcases pwC_or b e.toNat 1 with hc | ⟨hc, hv⟩
    · have HC := Lib.hid hc
      have hd : decide (pwC b e.toNat 1 = 0) = true := by simp [hc]
      clear hc
      go_enter Try.func24, Try.ntmps24
      go_wp2_with (first | (go_at_call 46; refine (spec_loop _ _ _ g h2 h3 h4).mono ?_; rintro x w' ⟨rfl, rfl⟩) | go_in)
      go_ret2
      exact ⟨by rw [HC.out]; rfl, rfl⟩
    · have HC := Lib.hid hc
      have HV := Lib.hid hv
      have hd : decide (pwC b e.toNat 1 = 0) = false := by simp [hc]
      clear hc hv
      go_enter Try.func24, Try.ntmps24
      go_wp2_with (first | (go_at_call 46; refine (spec_loop _ _ _ g h2 h3 h4).mono ?_; rintro x w' ⟨rfl, rfl⟩) | go_in)
      go_ret2
      exact ⟨by rw [HC.out, HV.out]; rfl, rfl⟩
  · obtain hb | hb : b = 0 ∨ b = 1 := by omega
    all_goals
      subst hb
      by_cases he : e = 0
      · subst he
        go_enter Try.func24, Try.ntmps24
        go_wp2
        refine wp_loop_rounds 1 ?_
        rw [rounds_succ]
        go_wp2
        go_ret2
        exact ⟨rfl, rfl⟩
      · have hp : 0 < e := by omega
        have hr : Hid (∃ k : Nat, e.toNat = k + 1) := Lib.hid ⟨e.toNat - 1, by omega⟩
        clear he
        go_enter Try.func24, Try.ntmps24
        go_wp2
        go_ret2
        exact ⟨by obtain ⟨k, hk⟩ := hr.out; rw [hk]; simp [pwV, pwC, pw_zero, pw_one], rfl⟩

theorem walk (a0 : Int) (a1 : Int) (w0 : (Lit.int .i64 a0).wf = true) (w1 : (Lit.int .i64 a1).wf = true) (w : World) :
    Calls Try.prog 6 #[.int .i64 a0, .int .i64 a1] w fun e w' => e = .returned (.bool true) ∧ Grown w w' := by
  by_cases g : 0 ≤ a0 ∧ a0 ≤ 1000000000000 ∧ 0 ≤ a1 ∧ a1 ≤ 64
  · obtain ⟨g1, g2, g3, g4⟩ := g
    go_enter Try.func6, Try.ntmps6
    go_wp2_with (first | (go_at_call 24; refine (spec_good _ _ _ g1 g2 g3 g4).mono ?_; rintro e w' ⟨rfl, rfl⟩) | (go_at_call 25; refine (impl_good _ _ _ g1 g2 g3 g4).mono ?_; rintro e w' ⟨rfl, rfl⟩))
    go_ret
    exact ⟨rfl, Grown.refl _⟩
  · have hb : a0 < 0 ∨ 1000000000000 < a0 ∨ a1 < 0 ∨ 64 < a1 := by omega
    have HB := Lib.hid hb
    clear hb g
    go_enter Try.func6, Try.ntmps6
    go_wp2_with (first | (go_at_call 24; refine (spec_bad _ _ _ HB.out).mono ?_; rintro e w' ⟨rfl, rfl⟩) | (go_at_call 25; refine (impl_bad _ _ _ HB.out).mono ?_; rintro e w' ⟨rfl, rfl⟩))
    go_ret
    exact ⟨rfl, Grown.refl _⟩

/-! ### THE ROW's STEP: WRITTEN OUT: LEAVE IT -/
set_option maxRecDepth 100000 in
theorem lifted (os : Os) (started : os.Started) (H : Type) (enc : TypeId × Value → H) :
    ReturnsInHanded {} Try.checked os 6 .any (Rows.fnExactPowerOfSpec.pre6 enc Try.prog Try.f6 Rows.fnExactPowerOfRow.domain false) (Rows.fnExactPowerOfSpec.post enc Try.prog Try.f6 false true false false) := by
  refine returnsInHanded_of_change (C := Try.checked) own started (by kernel_rfl) Try.func6
    (ChangeSpec.witness6 (enc := enc) (C := Try.checked) false ⟨#[], #[.int .i64 0, .int .i64 0], []⟩ 8 (by kernel_rfl) (by kernel_rfl) (by kernel_rfl) (by kernel_rfl)) ?_
  intro W base args ds gs before hval0 hW hcnd _
  have hval : ∀ (j : Nat) t v, Try.f6.params[j]? = some t → args[j]? = some v → Value.okWide Try.prog W .any base t v := hval0
  have hW' := hW
  obtain ⟨p, q, hA0, hV, rfl, hfz, hnd⟩ := hW
  have hA : DataW.TrodAll enc Try.prog W 0 (fun _ => true) true Try.f6.params.toList args.toList ds p := hA0
  rw [Try.params6] at hA hval
  obtain ⟨v0, vs0, d0, ds0, p0, q0, hargs, rfl, rfl, h0, r0⟩ := trodAll_cons hA
  obtain ⟨v1, vs1, d1, ds1, p1, q1, rfl, rfl, rfl, h1, r1⟩ := trodAll_cons r0
  obtain ⟨rfl, rfl, rfl⟩ := trodAll_nil r1
  obtain rfl : args = #[v0, v1] := by cases args; simp_all
  obtain ⟨rfl, rfl⟩ := trodVars_none hV
  obtain ⟨a0, rfl, rfl, rfl, w0⟩ := open_int Try.underlying2 (hval 0 2 v0 rfl rfl) h0
  obtain ⟨a1, rfl, rfl, rfl, w1⟩ := open_int Try.underlying2 (hval 1 2 v1 rfl rfl) h1
  clear hA0 hval0
  simp only [List.append_nil] at hW'
  refine (walk a0 a1 w0 w1 W).mono fun e W' ⟨he, hg⟩ => ?_
  subst he
  exact ⟨_, rfl, post_of_same (pa := []) (pv := []) hW' (fun _ _ _ => (trodAll_cons_mk (shut_bool Try.underlying4 _) trodAll_mk0)) (fun sp _ => (trodAll_cons_mk (shut_int Try.underlying2 w0) (trodAll_cons_mk (shut_int Try.underlying2 w1) trodAll_mk0))) (fun _ _ => rfl) rfl
    (hg.frame _) hg.2.1 (ok_one (by kernel_rfl) rfl (okWide_bool_mk Try.underlying4 _))⟩

theorem over : Rows.fnExactPowerOfRow.holds Try.pinned (OpenSpec.ofChange Rows.fnExactPowerOfSpec) :=
  OpenClaim.holds_of_wide 6 Try.f6 rfl rfl rfl rfl rfl rfl rfl ⟨rfl, rfl, rfl, rfl, rfl⟩ rfl rfl rfl rfl rfl (by kernel_rfl) Try.func6 (by kernel_rfl)
    (of_decide_eq_true (by kernel_rfl)) (by unfold Func.isWrapper; first | (rw [if_pos (by decide +kernel)]; kernel_rfl) | (rw [if_neg (by decide +kernel)]; exact ⟨rfl, rfl⟩))
    (fun os started H enc _ => lifted os started H enc)

/-- ████ THE STATEMENT ████ -/
theorem proved : Rows.FnExactPowerOfSaid :=
  over
#print axioms proved
end Go.Proofs.Ytalmlkdihlhpjab.fnExactPowerOf
