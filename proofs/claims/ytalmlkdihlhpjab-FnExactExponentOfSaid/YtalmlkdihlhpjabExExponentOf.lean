/-   FnExactExponentOf: for all n and by the program's ExponentOf answers as its model: the code, and how often by divides n. No condition. -/
import Derived.Test.YtalmlkdihlhpjabRows
import Derived.WalkKit
import Derived.ProofKit
import Derived.OpenShut
import Derived.ShutString
import Derived.Handy
import Derived.Lib.Hide
import Derived.Test.YtalmlkdihlhpjabMath
namespace Go.Proofs.Ytalmlkdihlhpjab.fnExactExponentOf
open Go.ChangeShapes Go.WideShapes Go.ChangeAt Go.RowKit
open Go.ChangeMaps (open_string shut_string)
set_option linter.unusedVariables false

theorem own : ownKnob Try.prog.godebug = none := by kernel_rfl

open Math
set_option maxHeartbeats 1000000 in
theorem spec_loop (n b : Int) (w : World) (h1 : 1 ≤ n) (h2 : n ≤ 1000000000000) (h3 : 2 ≤ b) :
    Calls Try.prog 47 #[.int .i64 n, .int .i64 b] w fun e w' => e = .returned (.int .i64 (ex b n.toNat n)) ∧ w = w' := by
  go_enter Try.func47, Try.ntmps47
  go_wp2
  go_loop [0, 5] (fun x o => ∃ (f k : Nat) (m : Int), 1 ≤ m ∧ m ≤ f ∧ (k : Int) + m ≤ n ∧ x = .int .i64 m ∧ o = .int .i64 k ∧ ex b n.toNat n = k + ex b f m) (fun x _ => (intOf x).toNat)
  case atStart => exact ⟨n.toNat, 0, n, h1, by omega, by omega, rfl, rfl, by simp⟩
  case round =>
    obtain ⟨f, k, m, hm1, hmf, hkm, rfl, rfl, he⟩ := hrel
    have HE := Lib.hid he
    clear he
    by_cases hd : m % b = 0
    · obtain ⟨d1, d2⟩ := div_facts m b hm1 h3 hd
      obtain ⟨g, hg, hs⟩ := ex_step hd hm1 hmf
      have hb : (m % b == 0) = true := by simp [hd]
      have HS : Hid (ex b n.toNat n = ((k + 1 : Nat) : Int) + ex b g (m / b)) := by
        have := HE.out; rw [hs] at this; show _ = _; omega
      have HG := Lib.hid hg
      clear hd hs hg HE
      go_wp2
      go_round
      case rel => exact ⟨g, k + 1, m / b, d1, by have := HG.out; omega, by omega, rfl, by go_num, HS.out⟩
      case measure => simp [intOf]; omega
    · have hb : (m % b == 0) = false := by simp [hd]
      have hz : Hid (ex b f m = 0) := Lib.hid (ex_stop hd)
      clear hd
      go_wp2
      go_ret
      exact ⟨by rw [HE.out, hz.out]; simp, rfl⟩
set_option maxHeartbeats 1000000 in
theorem impl_good (n b : Int) (w : World) (h1 : 1 ≤ n) (h2 : n ≤ 1000000000000) (h3 : 2 ≤ b) (h4 : b ≤ 1000000000000) :
    Calls Try.prog 27 #[.int .i64 n, .int .i64 b] w fun e w' => e = .returned (.tuple #[.int .i64 (ex b n.toNat n), .int .i64 0]) ∧ w = w' := by
  have t1 : ¬ n < 1 := by omega
  have t2 : ¬ 1000000000000 < n := by omega
  have t3 : ¬ b < 2 := by omega
  have t4 : ¬ 1000000000000 < b := by omega
  go_enter Try.func27, Try.ntmps27
  go_wp2
  go_loop [0, 6] (fun x o => ∃ (f k : Nat) (m : Int), 1 ≤ m ∧ m ≤ f ∧ (k : Int) + m ≤ n ∧ x = .int .i64 m ∧ o = .int .i64 k ∧ ex b n.toNat n = k + ex b f m) (fun x _ => (intOf x).toNat)
  case atStart => exact ⟨n.toNat, 0, n, h1, by omega, by omega, rfl, rfl, by simp⟩
  case round =>
    obtain ⟨f, k, m, hm1, hmf, hkm, rfl, rfl, he⟩ := hrel
    have HE := Lib.hid he
    clear he
    by_cases hd : m % b = 0
    · obtain ⟨d1, d2⟩ := div_facts m b hm1 h3 hd
      obtain ⟨g, hg, hs⟩ := ex_step hd hm1 hmf
      have hb : (m % b == 0) = true := by simp [hd]
      have HS : Hid (ex b n.toNat n = ((k + 1 : Nat) : Int) + ex b g (m / b)) := by
        have := HE.out; rw [hs] at this; show _ = _; omega
      have HG := Lib.hid hg
      clear hd hs hg HE
      go_wp2
      go_round
      case rel => exact ⟨g, k + 1, m / b, d1, by have := HG.out; omega, by omega, rfl, by go_num, HS.out⟩
      case measure => simp [intOf]; omega
    · have hb : (m % b == 0) = false := by simp [hd]
      have hz : Hid (ex b f m = 0) := Lib.hid (ex_stop hd)
      clear hd
      go_wp2
      go_ret2
      exact ⟨by rw [HE.out, hz.out]; simp, rfl⟩

theorem walk (a0 : Int) (a1 : Int) (w0 : (Lit.int .i64 a0).wf = true) (w1 : (Lit.int .i64 a1).wf = true) (w : World) :
    Calls Try.prog 7 #[.int .i64 a0, .int .i64 a1] w fun e w' => e = .returned (.bool true) ∧ Grown w w' := by
  by_cases g1 : 1 ≤ a0
  · by_cases g2 : a0 ≤ 1000000000000
    · by_cases g3 : 2 ≤ a1
      · by_cases g4 : a1 ≤ 1000000000000
        · go_enter Try.func7, Try.ntmps7
          go_wp2_with (first | (go_at_call 47; refine (spec_loop _ _ _ g1 g2 g3).mono ?_; rintro e w' ⟨rfl, rfl⟩) | (go_at_call 27; refine (impl_good _ _ _ g1 g2 g3 g4).mono ?_; rintro e w' ⟨rfl, rfl⟩) | go_in)
          go_ret
          exact ⟨rfl, Grown.refl _⟩
        · have t : 1000000000000 < a1 := by omega
          have t2 : ¬ a1 < 2 := by omega
          have t1 : ¬ a0 < 1 := by omega
          go_enter Try.func7, Try.ntmps7
          go_wp2
          go_ret
          exact ⟨rfl, Grown.refl _⟩
      · have t : a1 < 2 := by omega
        have t1 : ¬ a0 < 1 := by omega
        go_enter Try.func7, Try.ntmps7
        go_wp2
        go_ret
        exact ⟨rfl, Grown.refl _⟩
    · have t : 1000000000000 < a0 := by omega
      have t1 : ¬ a0 < 1 := by omega
      go_enter Try.func7, Try.ntmps7
      go_wp2
      go_ret
      exact ⟨rfl, Grown.refl _⟩
  · have t : a0 < 1 := by omega
    go_enter Try.func7, Try.ntmps7
    go_wp2
    go_ret
    exact ⟨rfl, Grown.refl _⟩

/-! ### THE ROW's STEP: WRITTEN OUT: LEAVE IT -/
set_option maxRecDepth 100000 in
theorem lifted (os : Os) (started : os.Started) (H : Type) (enc : TypeId × Value → H) :
    ReturnsInHanded {} Try.checked os 7 .any (Rows.fnExactExponentOfSpec.pre6 enc Try.prog Try.f7 Rows.fnExactExponentOfRow.domain false) (Rows.fnExactExponentOfSpec.post enc Try.prog Try.f7 false true false false) := by
  refine returnsInHanded_of_change (C := Try.checked) own started (by kernel_rfl) Try.func7
    (ChangeSpec.witness6 (enc := enc) (C := Try.checked) false ⟨#[], #[.int .i64 0, .int .i64 0], []⟩ 8 (by kernel_rfl) (by kernel_rfl) (by kernel_rfl) (by kernel_rfl)) ?_
  intro W base args ds gs before hval0 hW hcnd _
  have hval : ∀ (j : Nat) t v, Try.f7.params[j]? = some t → args[j]? = some v → Value.okWide Try.prog W .any base t v := hval0
  have hW' := hW
  obtain ⟨p, q, hA0, hV, rfl, hfz, hnd⟩ := hW
  have hA : DataW.TrodAll enc Try.prog W 0 (fun _ => true) true Try.f7.params.toList args.toList ds p := hA0
  rw [Try.params7] at hA hval
  obtain ⟨v0, vs0, d0, ds0, p0, q0, hargs, rfl, rfl, h0, r0⟩ := trodAll_cons hA
  obtain ⟨v1, vs1, d1, ds1, p1, q1, rfl, rfl, rfl, h1, r1⟩ := trodAll_cons r0
  obtain ⟨rfl, rfl, rfl⟩ := trodAll_nil r1
  obtain rfl : args = #[v0, v1] := by cases args; simp_all
  obtain ⟨rfl, rfl⟩ := trodVars_none hV
  obtain ⟨a0, rfl, rfl, rfl, w0⟩ := open_int Try.underlying2 (hval 0 2 v0 rfl rfl) h0
  obtain ⟨a1, rfl, rfl, rfl, w1⟩ := open_int Try.underlying2 (hval 1 2 v1 rfl rfl) h1
  clear hA0 hval0
  simp only [List.append_nil] at hW'
  refine (walk a0 a1 w0 w1 W).mono fun e W' ⟨he, hg⟩ => ?_
  subst he
  exact ⟨_, rfl, post_of_same (pa := []) (pv := []) hW' (fun _ _ _ => (trodAll_cons_mk (shut_bool Try.underlying4 _) trodAll_mk0)) (fun sp _ => (trodAll_cons_mk (shut_int Try.underlying2 w0) (trodAll_cons_mk (shut_int Try.underlying2 w1) trodAll_mk0))) (fun _ _ => rfl) rfl
    (hg.frame _) hg.2.1 (ok_one (by kernel_rfl) rfl (okWide_bool_mk Try.underlying4 _))⟩

theorem over : Rows.fnExactExponentOfRow.holds Try.pinned (OpenSpec.ofChange Rows.fnExactExponentOfSpec) :=
  OpenClaim.holds_of_wide 7 Try.f7 rfl rfl rfl rfl rfl rfl rfl ⟨rfl, rfl, rfl, rfl, rfl⟩ rfl rfl rfl rfl rfl (by kernel_rfl) Try.func7 (by kernel_rfl)
    (of_decide_eq_true (by kernel_rfl)) (by unfold Func.isWrapper; first | (rw [if_pos (by decide +kernel)]; kernel_rfl) | (rw [if_neg (by decide +kernel)]; exact ⟨rfl, rfl⟩))
    (fun os started H enc _ => lifted os started H enc)

/-- ████ THE STATEMENT ████ -/
theorem proved : Rows.FnExactExponentOfSaid :=
  over
#print axioms proved
end Go.Proofs.Ytalmlkdihlhpjab.fnExactExponentOf
