/-   FnExactReadRewrites: for every text the program's ReadRewrites answers as its model, and its answer is memory of its own. No condition beside the world's shape. -/
import Derived.Test.YtbigoljfanendaaDoorRows
import Derived.Test.YtbigoljfanendaaDoorCards
import Derived.Test.YtbigoljfanendaaDoorTie
import Derived.WalkKit
import Derived.ProofKit
import Derived.OpenShut
import Derived.ShutString
import Derived.ChangeOld
import Derived.Below
import Derived.Lib.SmallJoins
import Derived.Deep.Strs
import Derived.OpenVars
import Derived.ChangeMaps5
import Derived.LaidMore
import Derived.Lay
import Derived.LaidOnce
import Derived.SevenTiedAt
import Derived.Stop.Joined
import Derived.Handy
import Derived.Lib.Hide
import Derived.Deep.RegionHeld3
import Derived.Test.YtbigoljfanendaaDoorRws2
import Derived.Test.YtbigoljfanendaaDoorRvR
import Derived.Test.YtbigoljfanendaaDoorRqI
import Derived.Test.YtbigoljfanendaaDoorShw
namespace Go.Proofs.YtbigoljfanendaaDoor.fnExactReadRewrites
open Go.ChangeShapes Go.WideShapes Go.ChangeAt Go.RowKit
set_option linter.unusedVariables false
set_option linter.unusedSimpArgs false

theorem own : ownKnob Tryd.prog.godebug = none := by kernel_rfl
theorem laidOut : laidOutB Tryd.prog = true := by kernel_rfl
open Ints

set_option maxRecDepth 100000 in
set_option maxHeartbeats 16000000 in
theorem walk (s0 : ByteArray) (w : World) (w0 : s0.size ≤ maxLen) (hmax : MaxV w) :
    Calls Tryd.prog 5 #[.string s0] w fun e w' => e = .returned (.bool true) ∧ Below w.heap.size w w' := by
  have HMx := Lib.hid hmax
  clear w0 hmax
  by_cases h0 : s0.size ≤ 1048576
  rotate_left
  · have d0 : decide ((1048576 : Int) < (s0.size : Int)) = true := decide_eq_true (by omega)
    have d1 : decide (1048576 < s0.size) = true := decide_eq_true (by omega)
    have d2 : (1048576 : Int) < (s0.size : Int) := by omega
    clear h0
    go_enter Tryd.func5, Tryd.ntmps5
    go_wp2
    go_ret
    exact ⟨rfl, Below.refl _ _⟩
  have d0 : decide ((1048576 : Int) < (s0.size : Int)) = false := decide_eq_false (by omega)
  have d1 : decide (1048576 < s0.size) = false := decide_eq_false (by omega)
  have d2 : ¬ (1048576 : Int) < (s0.size : Int) := by omega
  obtain ⟨b, hb⟩ : ∃ b, b = rqB s0.data.toList := ⟨_, rfl⟩
  have HBb := Lib.hid hb
  have HS := Lib.hid h0
  obtain ⟨RW, hRW⟩ : ∃ R, R = rqV s0.data.toList := ⟨_, rfl⟩
  have HRW := Lib.hid hRW
  have hrt : totR RW ≤ 48000 := by rw [hRW]; exact rqV_tot _
  have HRT := Lib.hid hrt
  have HT : Hid (Below w.heap.size w w) := Lib.hid (Below.refl _ _)
  clear h0 hb hRW hrt
  go_enter Tryd.func5, Tryd.ntmps5
  go_wp2_with fail
  refine (specReadRw s0 _ HS.out).mono ?_
  rintro e v2 ⟨uw0, rfl, ow0, b2⟩
  rw [← HBb.out]
  rw [← HRW.out] at ow0
  have SZ2 := Lib.hid b2.size
  replace HT := Lib.hid (HT.out.trans (b2.mono HT.out.size))
  have Xw := Lib.hid ow0
  clear ow0 b2
  go_wp2_with fail
  refine (implReadRw s0 _ HS.out (HMx.out.below HT.out (Nat.le_refl _))).mono ?_
  rintro e v4 ⟨ug0, rfl, og0, b4⟩
  rw [← HBb.out]
  rw [← HRW.out] at og0
  have SZ4 := Lib.hid b4.size
  replace Xw := Lib.hid (Xw.out.below b4 Xw.out.size)
  replace HT := Lib.hid (HT.out.trans (b4.mono HT.out.size))
  have Xg := Lib.hid og0
  clear og0 b4
  go_wp2_with fail
  refine (eqTapes _ _ RW _ Xg.out.rdt Xw.out.rdt).mono ?_
  rintro e v5 ⟨rfl, b5⟩
  have SZ5 := Lib.hid b5.size
  replace Xw := Lib.hid (Xw.out.below b5 Xw.out.size)
  replace Xg := Lib.hid (Xg.out.below b5 Xg.out.size)
  replace HT := Lib.hid (HT.out.trans (b5.mono HT.out.size))
  clear b5
  have hrt := HRT.out
  go_wp2_with fail
  refine (markRwsM _ RW 1 v2.heap.size v4.heap.size _ Xg.out (by omega)).mono ?_
  rintro e v10 ⟨rfl, om, ho⟩
  have SZ10 := Lib.hid ho.size
  clear Xg
  replace Xw := Lib.hid (Xw.out.onlyQ ho (fun b h1 h2 h3 => by omega))
  replace HT := Lib.hid (HT.out.trans (ho.below (fun b h3 => by have := SZ2.out; exact Nat.le_trans SZ2.out h3.1) HT.out.size))
  have Xg := Lib.hid om
  clear om ho
  have hn1 : ¬ ((1 : Int) + ((totR RW : Int) : Int) < 0) := by omega
  go_wp2_with fail
  refine (heldRws _ RW 1 _ Xg.out.held (by omega)).mono ?_
  rintro e vh ⟨rfl, rfl⟩
  go_wp2_with fail
  refine (implReadRw s0 _ HS.out (HMx.out.below HT.out (Nat.le_refl _))).mono ?_
  rintro e v13 ⟨uh0, rfl, oh0, b13⟩
  rw [← HBb.out]
  rw [← HRW.out] at oh0
  replace Xw := Lib.hid (Xw.out.below b13 Xw.out.size)
  replace Xg := Lib.hid (Xg.out.below b13 Xg.out.size)
  replace HT := Lib.hid (HT.out.trans (b13.mono HT.out.size))
  have Xh := Lib.hid oh0
  clear oh0 b13
  go_wp2_with fail
  refine (eqTapes _ _ RW _ Xh.out.rdt Xw.out.rdt).mono ?_
  rintro e v14 ⟨rfl, b14⟩
  replace Xg := Lib.hid (Xg.out.below b14 Xg.out.size)
  replace HT := Lib.hid (HT.out.trans (b14.mono HT.out.size))
  clear b14
  go_wp2_with fail
  refine (heldRws _ RW 1 _ Xg.out.held (by omega)).mono ?_
  rintro e vh ⟨rfl, rfl⟩
  go_wp2
  go_ret
  exact ⟨rfl, HT.out⟩

set_option maxRecDepth 100000 in
theorem lifted (os : Os) (started : os.Started) (H : Type) (enc : TypeId × Value → H) :
    ReturnsInHanded {} Tryd.checked os 5 .any (fun w args => (Rows.fnExactReadRewritesSpec.pre enc Tryd.prog Tryd.f5 [] false w args ∧ laidMetH Tryd.prog Rows.fnExactReadRewritesRow.laid w) ∧ sizedMet enc Tryd.prog Tryd.f5 (OpenSpec.ofChange Rows.fnExactReadRewritesSpec) false w args) (Rows.fnExactReadRewritesSpec.post enc Tryd.prog Tryd.f5 false true false false) := by
  refine Ints.handed_and_shape (C := Tryd.checked) (X := fun w _ => laidMetH Tryd.prog Rows.fnExactReadRewritesRow.laid w) (fun _ _ _ hh h => h.of_heap hh) own started (by kernel_rfl) Tryd.func5
    (ChangeSpec.witness_shaped (enc := enc) (C := Tryd.checked) (os := os) (X := fun w _ => laidMetH Tryd.prog Rows.fnExactReadRewritesRow.laid w) false (World.laidAll Tryd.prog os Rows.fnExactReadRewritesRow.laid) #[.string ⟨#[]⟩] 8 (World.laidAll_os _ _ _) (World.shaped_of_ZipB (by kernel_rfl) (by kernel_rfl)) (by kernel_rfl) (by kernel_rfl) (by kernel_rfl)
      (by rw [MakeChecks.laidMetH_plain _ _ _ (by kernel_rfl)]; exact laidMet_laidAll _ (by kernel_rfl) (by kernel_rfl))) ?_
  intro W base args ds gs before hval0 hW hL hsh
  have hval : ∀ (j : Nat) t v, Tryd.f5.params[j]? = some t → args[j]? = some v → Value.okWide Tryd.prog W .any base t v := hval0
  have hW' := hW
  obtain ⟨p, q, hA0, hV, rfl, hfz, hnd⟩ := hW
  have hA : DataW.TrodAll enc Tryd.prog W 0 (fun _ => true) true Tryd.f5.params.toList args.toList ds p := hA0
  rw [Tryd.params5] at hA hval
  obtain ⟨v0, vs0, d0, ds0, p0, q0, hargs, rfl, rfl, h0, r0⟩ := trodAll_cons hA
  obtain ⟨rfl, rfl, rfl⟩ := trodAll_nil r0
  obtain rfl : args = #[v0] := by cases args; simp_all
  obtain ⟨rfl, rfl⟩ := trodVars_none hV
  obtain ⟨s0, rfl, rfl, rfl, w0⟩ := Go.ChangeMaps.open_string Tryd.underlying9 (hval 0 9 v0 rfl rfl) h0
  clear hA0 hval0
  refine (walk s0 W w0 (maxV_of_shape hsh)).mono fun e W' ⟨he, bel⟩ => ?_
  subst he
  exact ⟨_, rfl, _, _, _, [], _, [], hW', trodAll_mk1 (shut_bool Tryd.underlying4 _), (trodAll_cons_mk (Go.ChangeMaps.shut_string Tryd.underlying9 w0) trodAll_mk0), rfl, bel.frame _, fun h => by cases h⟩

theorem over : Rows.fnExactReadRewritesRow.holds Tryd.pinned (OpenSpec.ofChange Rows.fnExactReadRewritesSpec) :=
  OpenClaim.holds_of_wide 5 Tryd.f5 rfl rfl rfl rfl rfl rfl rfl ⟨rfl, rfl, rfl, rfl, rfl⟩ rfl rfl rfl rfl rfl (by kernel_rfl) Tryd.func5 (by kernel_rfl)
    (of_decide_eq_true (by kernel_rfl)) (by unfold Func.isWrapper; first | (rw [if_pos (by decide +kernel)]; kernel_rfl) | (rw [if_neg (by decide +kernel)]; exact ⟨rfl, rfl⟩))
    (fun os started H enc _ => lifted os started H enc)

/-- The statement: the tied card. -/
theorem proved : Rows.FnExactReadRewritesCardSaid :=
  Claim7.holds_tied_plain_at .later [] [.data, .pinned] true (true, "716f679c798c9b1dc0eb9ff511ca53e7eb14c6f7d8dd2cbdb7ab99ca6d63ad42") true over (fun _ h => by cases h) (by kernel_rfl) (fun _ h => by cases h) fnExactReadRewrites_row_tie rfl ⟨rfl, rfl⟩ (by kernel_rfl) rfl
    (fun f fn hf hfn => by
      obtain rfl : f = 5 := Option.some.inj ((show Tryd.prog.funcNamed "loop.example/g01079/laws.FnExactReadRewrites" = some 5 by kernel_rfl).symm.trans hf) |>.symm
      obtain rfl : fn = Tryd.f5 := (Option.some.inj (Tryd.func5.symm.trans hfn)).symm
      exact ⟨by kernel_rfl, fun j t ht => by
        rw [Tryd.params5] at ht
        have hm : t ∈ [9] := by simpa using Array.mem_of_getElem? ht
        have hall : ([9].all fun u => !Tryd.prog.wantsStandIn u) = true := by kernel_rfl
        exact (show Tryd.prog.wantsStandIn t = false by simpa using List.all_eq_true.1 hall t hm)⟩)
    (by kernel_rfl)
#print axioms proved
end Go.Proofs.YtbigoljfanendaaDoor.fnExactReadRewrites
