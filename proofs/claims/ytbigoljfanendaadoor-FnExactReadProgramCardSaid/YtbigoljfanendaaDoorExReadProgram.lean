/-   FnExactReadProgram: for every text the program's ReadProgram answers as its model, and its answer is memory of its own. The library's tables and error variables are read as the program's text lays them (the card). -/
import Derived.Test.YtbigoljfanendaaDoorRows
import Derived.Test.YtbigoljfanendaaDoorCards
import Derived.Test.YtbigoljfanendaaDoorTie
import Derived.WalkKit
import Derived.ProofKit
import Derived.OpenShut
import Derived.ShutString
import Derived.ChangeOld
import Derived.Below
import Derived.Lib.SmallJoins
import Derived.Deep.Strs
import Derived.OpenVars
import Derived.ChangeMaps5
import Derived.LaidMore
import Derived.Lay
import Derived.LaidOnce
import Derived.SevenTiedAt
import Derived.Stop.Joined
import Derived.Handy
import Derived.Lib.Hide
import Derived.Test.YtbigoljfanendaaDoorPgI
import Derived.Test.YtbigoljfanendaaDoorPgW
import Derived.Test.YtbigoljfanendaaDoorInsL
import Derived.Test.YtbigoljfanendaaDoorShw
import Derived.Test.YtbigoljfanendaaDoorCel
namespace Go.Proofs.YtbigoljfanendaaDoor.fnExactReadProgram
open Go.ChangeShapes Go.WideShapes Go.ChangeAt Go.RowKit
set_option linter.unusedVariables false
set_option linter.unusedSimpArgs false

theorem own : ownKnob Tryd.prog.godebug = none := by kernel_rfl
theorem laidOut : laidOutB Tryd.prog = true := by kernel_rfl
open Ints

set_option maxHeartbeats 4000000 in
theorem walk (s0 : ByteArray) (w : World) (w0 : s0.size ≤ maxLen) (her : ErrV w) (htab : TabV w) (hmax : MaxV w) :
    Calls Tryd.prog 3 #[.string s0] w fun e w' => e = .returned (.bool true) ∧ Below w.heap.size w w' := by
  have HTab := Lib.hid htab
  have HEr := Lib.hid her
  have HMx := Lib.hid hmax
  clear w0 htab her hmax
  by_cases h0 : s0.size ≤ 1048576
  rotate_left
  · have d0 : decide ((1048576 : Int) < (s0.size : Int)) = true := decide_eq_true (by omega)
    have d1 : decide (1048576 < s0.size) = true := decide_eq_true (by omega)
    have d2 : (1048576 : Int) < (s0.size : Int) := by omega
    clear h0
    go_enter Tryd.func3, Tryd.ntmps3
    go_wp2
    go_ret
    exact ⟨rfl, Below.refl _ _⟩
  have d0 : decide ((1048576 : Int) < (s0.size : Int)) = false := decide_eq_false (by omega)
  have d1 : decide (1048576 < s0.size) = false := decide_eq_false (by omega)
  have d2 : ¬ (1048576 : Int) < (s0.size : Int) := by omega
  obtain ⟨b, hb⟩ : ∃ b, b = rpB s0.data.toList := ⟨_, rfl⟩
  have HBb := Lib.hid hb
  have HS := Lib.hid h0
  have HLn := Lib.hid (rpV_len s0.data.toList)
  have HT : Hid (Below w.heap.size w w) := Lib.hid (Below.refl _ _)
  clear h0 hb
  go_enter Tryd.func3, Tryd.ntmps3
  go_wp2_with fail
  refine (specReadPg s0 _ HS.out).mono ?_
  rintro e v2 ⟨uw0, rfl, ow0, b2⟩
  rw [← HBb.out]
  replace HT := Lib.hid (HT.out.trans (b2.mono HT.out.size))
  have Xw0 := Lib.hid ow0
  clear ow0 b2
  have Lg0 := Lib.hid HT.out.size
  have Tg0_w0 := Lib.hid Xw0.out.size
  go_wp2_with fail
  refine (implReadPg s0 _ HS.out (HTab.out.below HT.out (Nat.le_refl _)) (HEr.out.below HT.out (Nat.le_refl _)) (HMx.out.below HT.out (Nat.le_refl _))).mono ?_
  rintro e v4 ⟨ug0, rfl, og0, b4⟩
  rw [← HBb.out]
  have Swg := Lib.hid (sep_of Xw0.out.top og0.row.lt Xw0.out.size)
  replace Xw0 := Lib.hid (Xw0.out.below b4 Xw0.out.size)
  replace HT := Lib.hid (HT.out.trans (b4.mono HT.out.size))
  have Xg0 := Lib.hid og0
  clear og0 b4
  go_wp2_with fail
  refine (eqIns _ _ _ _ Xg0.out.rd Xw0.out.rd).mono ?_
  rintro e v5 ⟨rfl, b5⟩
  replace Xw0 := Lib.hid (Xw0.out.below b5 Xw0.out.size)
  replace Xg0 := Lib.hid (Xg0.out.below b5 Xg0.out.size)
  replace HT := Lib.hid (HT.out.trans (b5.mono HT.out.size))
  clear b5
  go_wp2_with fail
  refine (markIns _ _ (1) _ _ _ Xg0.out (by omega) (by omega)).mono ?_
  rintro e v10 ⟨rfl, o10, g10⟩
  replace Xw0 := Lib.hid (Xw0.out.grown g10 Swg.out.1)
  replace HT := Lib.hid (HT.out.trans ((Xg0.out.gb g10).mono (by have := Lg0.out; omega)))
  replace Xg0 := Lib.hid o10
  clear o10 g10
  go_wp2_with fail
  refine (heldIns _ _ 1 _ Xg0.out.rd (by omega) (by omega)).mono ?_
  rintro e v11 ⟨rfl, b11⟩
  replace Xw0 := Lib.hid (Xw0.out.below b11 Xw0.out.size)
  replace Xg0 := Lib.hid (Xg0.out.below b11 Xg0.out.size)
  replace HT := Lib.hid (HT.out.trans (b11.mono HT.out.size))
  clear b11
  have hln : ((rpV s0.data.toList).length : Int) ≤ 400 := by have := HLn.out; omega
  have Lh0 := Lib.hid HT.out.size
  have Th0_w0 := Lib.hid Xw0.out.size
  have Th0_g0 := Lib.hid Xg0.out.size
  go_wp2_with fail
  refine (implReadPg s0 _ HS.out (HTab.out.below HT.out (Nat.le_refl _)) (HEr.out.below HT.out (Nat.le_refl _)) (HMx.out.below HT.out (Nat.le_refl _))).mono ?_
  rintro e v13 ⟨uh0, rfl, oh0, b13⟩
  rw [← HBb.out]
  replace Xw0 := Lib.hid (Xw0.out.below b13 Xw0.out.size)
  replace Xg0 := Lib.hid (Xg0.out.below b13 Xg0.out.size)
  replace HT := Lib.hid (HT.out.trans (b13.mono HT.out.size))
  have Xh0 := Lib.hid oh0
  clear oh0 b13
  go_wp2_with fail
  refine (eqIns _ _ _ _ Xh0.out.rd Xw0.out.rd).mono ?_
  rintro e v14 ⟨rfl, b14⟩
  replace Xg0 := Lib.hid (Xg0.out.below b14 Xg0.out.size)
  replace HT := Lib.hid (HT.out.trans (b14.mono HT.out.size))
  clear b14
  go_wp2_with fail
  refine (heldIns _ _ 1 _ Xg0.out.rd (by omega) (by omega)).mono ?_
  rintro e v15 ⟨rfl, b15⟩
  replace HT := Lib.hid (HT.out.trans (b15.mono HT.out.size))
  clear b15
  go_wp2
  go_ret
  exact ⟨rfl, HT.out⟩

set_option maxRecDepth 100000 in
theorem lifted (os : Os) (started : os.Started) (H : Type) (enc : TypeId × Value → H) :
    ReturnsInHanded {} Tryd.checked os 3 .any (fun w args => (Rows.fnExactReadProgramSpec.pre enc Tryd.prog Tryd.f3 [] false w args ∧ laidMetH Tryd.prog Rows.fnExactReadProgramRow.laid w) ∧ sizedMet enc Tryd.prog Tryd.f3 (OpenSpec.ofChange Rows.fnExactReadProgramSpec) false w args) (Rows.fnExactReadProgramSpec.post enc Tryd.prog Tryd.f3 false true false false) := by
  refine Ints.handed_and_shape (C := Tryd.checked) (X := fun w _ => laidMetH Tryd.prog Rows.fnExactReadProgramRow.laid w) (fun _ _ _ hh h => h.of_heap hh) own started (by kernel_rfl) Tryd.func3
    (ChangeSpec.witness_shaped (enc := enc) (C := Tryd.checked) (os := os) (X := fun w _ => laidMetH Tryd.prog Rows.fnExactReadProgramRow.laid w) false (World.laidAll Tryd.prog os Rows.fnExactReadProgramRow.laid) #[.string ⟨#[]⟩] 8 (World.laidAll_os _ _ _) (World.shaped_of_ZipB (by kernel_rfl) (by kernel_rfl)) (by kernel_rfl) (by kernel_rfl) (by kernel_rfl)
      (by rw [MakeChecks.laidMetH_plain _ _ _ (by kernel_rfl)]; exact laidMet_laidAll _ (by kernel_rfl) (by kernel_rfl))) ?_
  intro W base args ds gs before hval0 hW hL hsh
  have hval : ∀ (j : Nat) t v, Tryd.f3.params[j]? = some t → args[j]? = some v → Value.okWide Tryd.prog W .any base t v := hval0
  have hW' := hW
  obtain ⟨p, q, hA0, hV, rfl, hfz, hnd⟩ := hW
  have hA : DataW.TrodAll enc Tryd.prog W 0 (fun _ => true) true Tryd.f3.params.toList args.toList ds p := hA0
  rw [Tryd.params3] at hA hval
  obtain ⟨v0, vs0, d0, ds0, p0, q0, hargs, rfl, rfl, h0, r0⟩ := trodAll_cons hA
  obtain ⟨rfl, rfl, rfl⟩ := trodAll_nil r0
  obtain rfl : args = #[v0] := by cases args; simp_all
  obtain ⟨rfl, rfl⟩ := trodVars_none hV
  obtain ⟨s0, rfl, rfl, rfl, w0⟩ := Go.ChangeMaps.open_string Tryd.underlying9 (hval 0 9 v0 rfl rfl) h0
  clear hA0 hval0
  refine (walk s0 W w0 (errV_of_laid7 hL) (tabV_of_laid7 hL) (maxV_of_shape hsh)).mono fun e W' ⟨he, bel⟩ => ?_
  subst he
  exact ⟨_, rfl, _, _, _, [], _, [], hW', trodAll_mk1 (shut_bool Tryd.underlying4 _), (trodAll_cons_mk (Go.ChangeMaps.shut_string Tryd.underlying9 w0) trodAll_mk0), rfl, bel.frame _, fun h => by cases h⟩

theorem over : Rows.fnExactReadProgramRow.holds Tryd.pinned (OpenSpec.ofChange Rows.fnExactReadProgramSpec) :=
  OpenClaim.holds_of_wide 3 Tryd.f3 rfl rfl rfl rfl rfl rfl rfl ⟨rfl, rfl, rfl, rfl, rfl⟩ rfl rfl rfl rfl rfl (by kernel_rfl) Tryd.func3 (by kernel_rfl)
    (of_decide_eq_true (by kernel_rfl)) (by unfold Func.isWrapper; first | (rw [if_pos (by decide +kernel)]; kernel_rfl) | (rw [if_neg (by decide +kernel)]; exact ⟨rfl, rfl⟩))
    (fun os started H enc _ => lifted os started H enc)

/-- The statement: the tied card. -/
theorem proved : Rows.FnExactReadProgramCardSaid :=
  Claim7.holds_tied_plain_at .later [] [.data, .data, .data, .data, .sentinel, .sentinel, .pinned] true (true, "716f679c798c9b1dc0eb9ff511ca53e7eb14c6f7d8dd2cbdb7ab99ca6d63ad42") true over (fun _ h => by cases h) (by kernel_rfl) (fun _ h => by cases h) fnExactReadProgram_row_tie rfl ⟨rfl, rfl⟩ (by kernel_rfl) rfl
    (fun f fn hf hfn => by
      obtain rfl : f = 3 := Option.some.inj ((show Tryd.prog.funcNamed "loop.example/g01079/laws.FnExactReadProgram" = some 3 by kernel_rfl).symm.trans hf) |>.symm
      obtain rfl : fn = Tryd.f3 := (Option.some.inj (Tryd.func3.symm.trans hfn)).symm
      exact ⟨by kernel_rfl, fun j t ht => by
        rw [Tryd.params3] at ht
        have hm : t ∈ [9] := by simpa using Array.mem_of_getElem? ht
        have hall : ([9].all fun u => !Tryd.prog.wantsStandIn u) = true := by kernel_rfl
        exact (show Tryd.prog.wantsStandIn t = false by simpa using List.all_eq_true.1 hall t hm)⟩)
    (by kernel_rfl)
#print axioms proved
end Go.Proofs.YtbigoljfanendaaDoor.fnExactReadProgram
