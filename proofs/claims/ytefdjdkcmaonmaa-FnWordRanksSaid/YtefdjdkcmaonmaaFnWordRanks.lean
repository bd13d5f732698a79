/-   FnWordRanks: for all bytes, the word that they choose is read back from its rank by the program, and the ranks of two words have the shortlex order of the words. No condition. -/
import Derived.Test.YtefdjdkcmaonmaaRows
import Derived.WalkKit
import Derived.ProofKit
import Derived.OpenShut
import Derived.ShutString
import Derived.ChangeOld
import Derived.Below
import Derived.Lib.SmallJoins
import Derived.Deep.Strs
import Derived.OpenVars
import Derived.ChangeMaps5
import Derived.Handy
import Derived.Lib.Hide
import Derived.Test.YtefdjdkcmaonmaaR8l
namespace Go.Proofs.Ytefdjdkcmaonmaa.fnWordRanks
open Go.ChangeShapes Go.WideShapes Go.ChangeAt Go.RowKit
set_option linter.unusedVariables false
set_option linter.unusedSimpArgs false

theorem own : ownKnob Try.prog.godebug = none := by kernel_rfl
theorem laidOut : laidOutB Try.prog = true := by kernel_rfl
open Ints

set_option maxRecDepth 100000 in
set_option maxHeartbeats 16000000 in
theorem walk (a0_0 : Option Addr) (len0_0 cap0_0 : Nat) (z0_0 : List Int) (a1_0 : Option Addr) (len1_0 cap1_0 : Nat) (z1_0 : List Int) (w : World) (w0_0 : IsBts w a0_0 len0_0 cap0_0 z0_0) (w1_0 : IsBts w a1_0 len1_0 cap1_0 z1_0) :
    Calls Try.prog 3 #[.slice a0_0 len0_0 cap0_0, .slice a1_0 len1_0 cap1_0] w fun e w' => e = .returned (.bool true) ∧ Below w.heap.size w w' := by
  have hz0 := w0_0.le
  have hz1 := w1_0.le
  by_cases hb : 1048576 < len0_0 ∨ 1048576 < len1_0
  · go_enter Try.func3, Try.ntmps3
    go_wp2_with fail
    refine (r8LongV _ _ _ _ _ _ _ true (by simp [hb]) hz0 hz1).mono ?_
    rintro e w' ⟨rfl, rfl⟩
    go_wp2
    go_ret
    exact ⟨rfl, Below.refl _ _⟩
  have R0 := Lib.hid (rdb_of_row w0_0 (by omega))
  have R1 := Lib.hid (rdb_of_row w1_0 (by omega))
  clear w0_0 w1_0
  go_enter Try.func3, Try.ntmps3
  go_wp2_with fail
  refine (r8LongV _ _ _ _ _ _ _ false (by simp [hb]) hz0 hz1).mono ?_
  rintro e w' ⟨rfl, rfl⟩
  clear hb hz0 hz1
  go_wp2_with fail
  refine (r8Word _ len0_0 _ R0.out).mono ?_
  rintro e v1 ⟨u1, xs, L, rfl, hL, hlx, hix, o1, b1⟩
  obtain ⟨ga, gc, hu⟩ := o1.shape
  subst hu
  have HL := Lib.hid hL
  have HLX := Lib.hid hlx
  have HIX := Lib.hid hix
  have HX := Lib.hid o1.rd
  have HB := Lib.hid b1
  clear hL hix o1 b1
  go_wp2_with fail
  refine (r8Word _ len1_0 _ (R1.out.below HB.out (Nat.le_refl _)).up).mono ?_
  rintro e v2 ⟨u2, ys, M, rfl, hM, hly, hiy, o2, b2⟩
  obtain ⟨gb, gd, hu⟩ := o2.shape
  subst hu
  have HM := Lib.hid hM
  have HLY := Lib.hid hly
  have HIY := Lib.hid hiy
  have HY := Lib.hid o2.rd
  replace HX := Lib.hid (HX.out.below b2 (Nat.le_refl _))
  replace HB := Lib.hid (HB.out.trans (b2.mono HB.out.size))
  clear hM hiy o2 b2
  obtain ⟨R, hR⟩ : ∃ R, R = rk L xs 0 := ⟨_, rfl⟩
  have HR := Lib.hid hR
  have HBK := Lib.hid (wd_back HL.out.1 HL.out.2 hlx HIX.out)
  have HRG := Lib.hid (rankOf_good HL.out HIX.out hlx)
  rw [← hR] at HBK HRG
  clear hR
  go_wp2_with fail
  refine (implRankV _ xs L R 0 _ HX.out HRG.out).mono ?_
  rintro e v3 ⟨rfl, b3⟩
  replace HX := Lib.hid (HX.out.below b3 (Nat.le_refl _))
  replace HY := Lib.hid (HY.out.below b3 (Nat.le_refl _))
  replace HB := Lib.hid (HB.out.trans (b3.mono HB.out.size))
  clear b3
  go_wp2_with fail
  refine (implWordAtV R L xs _ HBK.out.1 HBK.out.2).mono ?_
  rintro e v4 ⟨u3, rfl, o3, b4⟩
  obtain ⟨gf, gh, hu⟩ := o3.shape
  subst hu
  have HK := Lib.hid o3.rd
  replace HX := Lib.hid (HX.out.below b4 (Nat.le_refl _))
  replace HY := Lib.hid (HY.out.below b4 (Nat.le_refl _))
  replace HB := Lib.hid (HB.out.trans (b4.mono HB.out.size))
  clear b4 o3
  go_wp2_with fail
  refine (r8Same _ _ xs _ HK.out HX.out).mono ?_
  rintro e v5 ⟨rfl, b5⟩
  replace HX := Lib.hid (HX.out.below b5 (Nat.le_refl _))
  replace HY := Lib.hid (HY.out.below b5 (Nat.le_refl _))
  replace HB := Lib.hid (HB.out.trans (b5.mono HB.out.size))
  clear b5
  by_cases hin : InL L ys
  rotate_left
  · have HRB := Lib.hid (rankOf_bad HIY.out HM.out.2 hly hin)
    clear hin
    go_wp2_with fail
    refine (implRankV _ ys L 0 2 _ HY.out HRB.out).mono ?_
    rintro e v6 ⟨rfl, b6⟩
    replace HB := Lib.hid (HB.out.trans (b6.mono HB.out.size))
    clear b6
    by_cases hx0 : xs.length = 0
    · obtain rfl := List.eq_nil_of_length_eq_zero hx0
      have hR0 : R = 0 := by rw [HR.out]; rfl
      have hr : (R == 0) = true := by simp [hR0]
      clear hR0 hx0
      go_wp2
      go_ret
      exact ⟨rfl, HB.out⟩
    · have hne : ¬ xs = [] := fun h => hx0 (by rw [h]; rfl)
      have hg : (0 : Int) < (xs.length : Int) := by omega
      go_wp2
      go_ret
      exact ⟨rfl, HB.out⟩
  · obtain ⟨T, hT⟩ : ∃ T, T = rk L ys 0 := ⟨_, rfl⟩
    have HRG2 := Lib.hid (rankOf_good HL.out hin hly)
    have HS := Lib.hid (short_rk HL.out.1 HIX.out hin)
    rw [← hT] at HRG2 HS
    rw [← HR.out] at HS
    clear hin hT
    go_wp2_with fail
    refine (implRankV _ ys L T 0 _ HY.out HRG2.out).mono ?_
    rintro e v6 ⟨rfl, b6⟩
    replace HX := Lib.hid (HX.out.below b6 (Nat.le_refl _))
    replace HY := Lib.hid (HY.out.below b6 (Nat.le_refl _))
    replace HB := Lib.hid (HB.out.trans (b6.mono HB.out.size))
    clear b6
    go_wp2_with fail
    refine (implCompareShortlex _ xs _ ys _ HX.out HY.out).mono ?_
    rintro e v7 ⟨rfl, b7⟩
    replace HB := Lib.hid (HB.out.trans (b7.mono HB.out.size))
    clear b7
    obtain ⟨o, ho⟩ : ∃ o, o = shortL xs ys := ⟨_, rfl⟩
    rw [← ho] at HS ⊢
    clear ho
    rcases HS.out with ⟨h1, h2⟩ | ⟨h1, h2⟩ | ⟨h1, h2⟩
    · have d0 : decide (o < 0) = true := decide_eq_true h1
      have d1 : decide (0 < o) = false := decide_eq_false (by omega)
      have d2 : decide (R < T) = true := decide_eq_true h2
      have d3 : decide (T < R) = false := decide_eq_false (by omega)
      clear h1 h2
      go_wp2
      go_ret
      exact ⟨by first | rfl | simp [d0, d1, d2, d3], HB.out⟩
    · have d0 : decide (o < 0) = false := decide_eq_false (by omega)
      have d1 : decide (0 < o) = false := decide_eq_false (by omega)
      have d2 : decide (R < T) = false := decide_eq_false (by omega)
      have d3 : decide (T < R) = false := decide_eq_false (by omega)
      clear h1 h2
      go_wp2
      go_ret
      exact ⟨by first | rfl | simp [d0, d1, d2, d3], HB.out⟩
    · have d0 : decide (o < 0) = false := decide_eq_false (by omega)
      have d1 : decide (0 < o) = true := decide_eq_true h1
      have d2 : decide (R < T) = false := decide_eq_false (by omega)
      have d3 : decide (T < R) = true := decide_eq_true h2
      clear h1 h2
      go_wp2
      go_ret
      exact ⟨by first | rfl | simp [d0, d1, d2, d3], HB.out⟩

set_option maxRecDepth 100000 in
theorem lifted (os : Os) (started : os.Started) (H : Type) (enc : TypeId × Value → H) :
    ReturnsInHanded {} Try.checked os 3 .any (Rows.fnWordRanksSpec.pre6 enc Try.prog Try.f3 Rows.fnWordRanksRow.domain false) (Rows.fnWordRanksSpec.post enc Try.prog Try.f3 false true false false) := by
  refine returnsInHanded_of_change (C := Try.checked) own started (by kernel_rfl) Try.func3
    (ChangeSpec.witness6 (enc := enc) (C := Try.checked) false ⟨#[], #[.slice none 0 0, .slice none 0 0], []⟩ 8 (by kernel_rfl) (by kernel_rfl) (by kernel_rfl) (by kernel_rfl)) ?_
  intro W base args ds gs before hval0 hW hcnd _
  have hval : ∀ (j : Nat) t v, Try.f3.params[j]? = some t → args[j]? = some v → Value.okWide Try.prog W .any base t v := hval0
  have hW' := hW
  obtain ⟨p, q, hA0, hV, rfl, hfz, hnd⟩ := hW
  have hA : DataW.TrodAll enc Try.prog W 0 (fun _ => true) true Try.f3.params.toList args.toList ds p := hA0
  rw [Try.params3] at hA hval
  obtain ⟨v0, vs0, d0, ds0, p0, q0, hargs, rfl, rfl, h0, r0⟩ := trodAll_cons hA
  obtain ⟨v1, vs1, d1, ds1, p1, q1, rfl, rfl, rfl, h1, r1⟩ := trodAll_cons r0
  obtain ⟨rfl, rfl, rfl⟩ := trodAll_nil r1
  obtain rfl : args = #[v0, v1] := by cases args; simp_all
  obtain ⟨rfl, rfl⟩ := trodVars_none hV
  have k0 := h0
  have lt0 : ∀ x ∈ p0, x.block < W.heap.size := by obtain ⟨m, hm⟩ := k0; exact DataW.trod_lt m _ _ _ hm
  obtain ⟨a0_0, len0_0, cap0_0, rfl⟩ := okWide_slice Try.underlying22 (hval 0 22 v0 rfl rfl)
  obtain ⟨z0_0, w0_0⟩ : ∃ zs, IsBts W a0_0 len0_0 cap0_0 zs := by
    obtain ⟨fuel, hf⟩ := h0
    obtain ⟨a', len', cap', z', e', w'⟩ := open_bts hf
    simp [Value.cells] at e'
    obtain ⟨rfl, rfl, rfl⟩ := e'
    exact ⟨z', w'⟩
  have k1 := h1
  have lt1 : ∀ x ∈ p1, x.block < W.heap.size := by obtain ⟨m, hm⟩ := k1; exact DataW.trod_lt m _ _ _ hm
  obtain ⟨a1_0, len1_0, cap1_0, rfl⟩ := okWide_slice Try.underlying22 (hval 1 22 v1 rfl rfl)
  obtain ⟨z1_0, w1_0⟩ : ∃ zs, IsBts W a1_0 len1_0 cap1_0 zs := by
    obtain ⟨fuel, hf⟩ := h1
    obtain ⟨a', len', cap', z', e', w'⟩ := open_bts hf
    simp [Value.cells] at e'
    obtain ⟨rfl, rfl, rfl⟩ := e'
    exact ⟨z', w'⟩
  clear hA0 hval0
  refine (walk a0_0 len0_0 cap0_0 z0_0 a1_0 len1_0 cap1_0 z1_0 W w0_0 w1_0).mono fun e W' ⟨he, bel⟩ => ?_
  subst he
  exact ⟨_, rfl, _, _, _, [], _, [], hW', trodAll_mk1 (shut_bool Try.underlying4 _), (trodAll_cons_mk (Below.trod laidOut (by kernel_rfl) (of_decide_eq_true (by kernel_rfl)) k0 bel lt0) (trodAll_cons_mk (Below.trod laidOut (by kernel_rfl) (of_decide_eq_true (by kernel_rfl)) k1 bel lt1) trodAll_mk0)), rfl, bel.frame _, fun h => by cases h⟩

theorem over : Rows.fnWordRanksRow.holds Try.pinned (OpenSpec.ofChange Rows.fnWordRanksSpec) :=
  OpenClaim.holds_of_wide 3 Try.f3 rfl rfl rfl rfl rfl rfl rfl ⟨rfl, rfl, rfl, rfl, rfl⟩ rfl rfl rfl rfl rfl (by kernel_rfl) Try.func3 (by kernel_rfl)
    (of_decide_eq_true (by kernel_rfl)) (by unfold Func.isWrapper; first | (rw [if_pos (by decide +kernel)]; kernel_rfl) | (rw [if_neg (by decide +kernel)]; exact ⟨rfl, rfl⟩))
    (fun os started H enc _ => lifted os started H enc)

/-- The statement. -/
theorem proved : Rows.FnWordRanksSaid := over
#print axioms proved
end Go.Proofs.Ytefdjdkcmaonmaa.fnWordRanks
