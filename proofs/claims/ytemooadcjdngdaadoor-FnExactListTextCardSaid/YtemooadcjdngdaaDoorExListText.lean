/-   FnExactListText: for any list of numbers the program's ListText answers as its model and leaves its argument alone. The library's table is read as the program's text lays it (the card). -/
import Derived.Test.YtemooadcjdngdaaDoorRows
import Derived.Test.YtemooadcjdngdaaDoorCards
import Derived.Test.YtemooadcjdngdaaDoorTie
import Derived.WalkKit
import Derived.ProofKit
import Derived.OpenShut
import Derived.ShutString
import Derived.ChangeOld
import Derived.Below
import Derived.Lib.SmallJoins
import Derived.Deep.Strs
import Derived.OpenVars
import Derived.LaidMore
import Derived.Lay
import Derived.LaidOnce
import Derived.SevenTiedAt
import Derived.Stop.Joined
import Derived.Handy
import Derived.Lib.Hide
import Derived.Test.YtemooadcjdngdaaDoorLtI
import Derived.Test.YtemooadcjdngdaaDoorCel
namespace Go.Proofs.YtemooadcjdngdaaDoor.fnExactListText
open Go.ChangeShapes Go.WideShapes Go.ChangeAt Go.RowKit
set_option linter.unusedVariables false
set_option linter.unusedSimpArgs false

theorem own : ownKnob Tryd.prog.godebug = none := by kernel_rfl
theorem laidOut : laidOutB Tryd.prog = true := by kernel_rfl
open Ints

set_option maxHeartbeats 4000000 in
theorem walk (a0_0 : Option Addr) (len0_0 cap0_0 : Nat) (z0_0 : List Int) (w : World) (w0_0 : IsList w a0_0 len0_0 cap0_0 z0_0) (htab : TabV w) :
    Calls Tryd.prog 4 #[.slice a0_0 len0_0 cap0_0] w fun e w' => e = .returned (.bool true) ∧ Below w.heap.size w w' := by
  by_cases hb0 : len0_0 ≤ 1048576
  rotate_left
  · have hc0 : (1048576 : Int) < (len0_0 : Int) := by omega
    clear htab
    go_enter Tryd.func4, Tryd.ntmps4
    go_wp2
    go_ret
    exact ⟨rfl, Below.refl _ _⟩
  have hd0 : ¬ (1048576 : Int) < (len0_0 : Int) := by omega
  obtain ⟨y0, hy0⟩ : ∃ y, y = z0_0.take len0_0 := ⟨_, rfl⟩
  have R0 : Hid (Rd w (.slice a0_0 len0_0 cap0_0) y0) := Lib.hid (by rw [hy0]; exact rd_of_row w0_0 hb0)
  have HTb := Lib.hid htab
  clear hy0 w0_0 hb0 htab
  have HT : Hid (Below w.heap.size w w) := Lib.hid (Below.refl _ _)
  go_enter Tryd.func4, Tryd.ntmps4
  go_wp2_with fail
  refine (toInts _ y0 _ (R0.out.below HT.out (Nat.le_refl _))).mono ?_
  rintro e v1 ⟨us0, rfl, os0, b1⟩
  replace HT := Lib.hid (HT.out.trans (b1.mono HT.out.size))
  have Xs0 := Lib.hid os0
  clear os0 b1
  go_wp2_with fail
  refine (specListText _ y0 _ Xs0.out.rd).mono ?_
  rintro e v2 ⟨rfl, b2⟩
  replace HT := Lib.hid (HT.out.trans (b2.mono HT.out.size))
  clear b2
  obtain ⟨s, hs⟩ : ∃ s, s = bs (ltV y0) := ⟨_, rfl⟩
  have HS := Lib.hid hs
  rw [← hs]
  clear hs
  go_wp2_with fail
  refine (toInts _ y0 _ (R0.out.below HT.out (Nat.le_refl _))).mono ?_
  rintro e v3 ⟨ux0, rfl, ox0, b3⟩
  replace HT := Lib.hid (HT.out.trans (b3.mono HT.out.size))
  have Xx0 := Lib.hid ox0
  clear ox0 b3
  go_wp2_with fail
  refine (implListText _ y0 _ Xx0.out.rd (HTb.out.below HT.out (Nat.le_refl _))).mono ?_
  rintro e v4 ⟨rfl, b4⟩
  rw [← HS.out]
  replace Xx0 := Lib.hid (Xx0.out.below b4 Xx0.out.size)
  replace HT := Lib.hid (HT.out.trans (b4.mono HT.out.size))
  clear b4
  have es : (s.toList == s.toList) = true := by simp
  go_wp2_with fail
  refine (toInts _ y0 _ (R0.out.below HT.out (Nat.le_refl _))).mono ?_
  rintro e v5 ⟨uc0, rfl, oc0, b5⟩
  replace Xx0 := Lib.hid (Xx0.out.below b5 Xx0.out.size)
  replace HT := Lib.hid (HT.out.trans (b5.mono HT.out.size))
  have Xc0 := Lib.hid oc0
  clear oc0 b5
  go_wp2_with fail
  refine (eqInts _ _ _ _ Xx0.out.rd Xc0.out.rd).mono ?_
  rintro e v6 ⟨rfl, b6⟩
  replace HT := Lib.hid (HT.out.trans (b6.mono HT.out.size))
  clear b6
  go_wp2
  go_ret
  exact ⟨rfl, HT.out⟩

set_option maxRecDepth 100000 in
theorem lifted (os : Os) (started : os.Started) (H : Type) (enc : TypeId × Value → H) :
    ReturnsInHanded {} Tryd.checked os 4 .any (fun w args => (Rows.fnExactListTextSpec.pre enc Tryd.prog Tryd.f4 [] false w args ∧ laidMetH Tryd.prog Rows.fnExactListTextRow.laid w) ∧ sizedMet enc Tryd.prog Tryd.f4 (OpenSpec.ofChange Rows.fnExactListTextSpec) false w args) (Rows.fnExactListTextSpec.post enc Tryd.prog Tryd.f4 false true false false) := by
  refine returnsInHanded_of_change_and (C := Tryd.checked) (X := fun w _ => laidMetH Tryd.prog Rows.fnExactListTextRow.laid w) (fun _ _ _ hh h => h.of_heap hh) own started (by kernel_rfl) Tryd.func4
    (ChangeSpec.witness_shaped (enc := enc) (C := Tryd.checked) (os := os) (X := fun w _ => laidMetH Tryd.prog Rows.fnExactListTextRow.laid w) false (World.laidAll Tryd.prog os Rows.fnExactListTextRow.laid) #[.slice none 0 0] 8 (World.laidAll_os _ _ _) (World.shaped_of_ZipB (by kernel_rfl) (by kernel_rfl)) (by kernel_rfl) (by kernel_rfl) (by kernel_rfl)
      (by rw [MakeChecks.laidMetH_plain _ _ _ (by kernel_rfl)]; exact laidMet_laidAll _ (by kernel_rfl) (by kernel_rfl))) ?_
  intro W base args ds gs before hval0 hW _ _ hL _
  have hval : ∀ (j : Nat) t v, Tryd.f4.params[j]? = some t → args[j]? = some v → Value.okWide Tryd.prog W .any base t v := hval0
  have hW' := hW
  obtain ⟨p, q, hA0, hV, rfl, hfz, hnd⟩ := hW
  have hA : DataW.TrodAll enc Tryd.prog W 0 (fun _ => true) true Tryd.f4.params.toList args.toList ds p := hA0
  rw [Tryd.params4] at hA hval
  obtain ⟨v0, vs0, d0, ds0, p0, q0, hargs, rfl, rfl, h0, r0⟩ := trodAll_cons hA
  obtain ⟨rfl, rfl, rfl⟩ := trodAll_nil r0
  obtain rfl : args = #[v0] := by cases args; simp_all
  obtain ⟨rfl, rfl⟩ := trodVars_none hV
  have k0 := h0
  have lt0 : ∀ x ∈ p0, x.block < W.heap.size := by obtain ⟨m, hm⟩ := k0; exact DataW.trod_lt m _ _ _ hm
  obtain ⟨a0_0, len0_0, cap0_0, rfl⟩ := okWide_slice Tryd.underlying24 (hval 0 24 v0 rfl rfl)
  obtain ⟨z0_0, w0_0⟩ : ∃ zs, IsList W a0_0 len0_0 cap0_0 zs := by
    obtain ⟨fuel, hf⟩ := h0
    obtain ⟨a', len', cap', z', e', w'⟩ := open_list hf
    simp [Value.cells] at e'
    obtain ⟨rfl, rfl, rfl⟩ := e'
    exact ⟨z', w'⟩
  clear hA0 hval0
  refine (walk a0_0 len0_0 cap0_0 z0_0 W w0_0 (tabV_of_laid hL)).mono fun e W' ⟨he, bel⟩ => ?_
  subst he
  exact ⟨_, rfl, _, _, _, [], _, [], hW', trodAll_mk1 (shut_bool Tryd.underlying4 _), (trodAll_cons_mk (Below.trod laidOut (by kernel_rfl) (of_decide_eq_true (by kernel_rfl)) k0 bel lt0) trodAll_mk0), rfl, bel.frame _, fun h => by cases h⟩

theorem over : Rows.fnExactListTextRow.holds Tryd.pinned (OpenSpec.ofChange Rows.fnExactListTextSpec) :=
  OpenClaim.holds_of_wide 4 Tryd.f4 rfl rfl rfl rfl rfl rfl rfl ⟨rfl, rfl, rfl, rfl, rfl⟩ rfl rfl rfl rfl rfl (by kernel_rfl) Tryd.func4 (by kernel_rfl)
    (of_decide_eq_true (by kernel_rfl)) (by unfold Func.isWrapper; first | (rw [if_pos (by decide +kernel)]; kernel_rfl) | (rw [if_neg (by decide +kernel)]; exact ⟨rfl, rfl⟩))
    (fun os started H enc _ => lifted os started H enc)

/-- The statement: the tied card. -/
theorem proved : Rows.FnExactListTextCardSaid :=
  Claim7.holds_tied_plain_at .later [] [.data, .data, .data] true (true, "ce0d595b73c14568bdcff69ee1949f5e62a87137df2cfd3eac7b780da09f3d22") false over (fun _ h => by cases h) (by kernel_rfl) (fun _ h => by cases h) fnExactListText_row_tie rfl ⟨rfl, rfl⟩ (by kernel_rfl) rfl
    (fun f fn hf hfn => by
      obtain rfl : f = 4 := Option.some.inj ((show Tryd.prog.funcNamed "loop.example/g01079/laws.FnExactListText" = some 4 by kernel_rfl).symm.trans hf) |>.symm
      obtain rfl : fn = Tryd.f4 := (Option.some.inj (Tryd.func4.symm.trans hfn)).symm
      exact ⟨by kernel_rfl, fun j t ht => by
        rw [Tryd.params4] at ht
        have hm : t ∈ [24] := by simpa using Array.mem_of_getElem? ht
        have hall : ([24].all fun u => !Tryd.prog.wantsStandIn u) = true := by kernel_rfl
        exact (show Tryd.prog.wantsStandIn t = false by simpa using List.all_eq_true.1 hall t hm)⟩)
    (by kernel_rfl)
#print axioms proved
end Go.Proofs.YtemooadcjdngdaaDoor.fnExactListText
