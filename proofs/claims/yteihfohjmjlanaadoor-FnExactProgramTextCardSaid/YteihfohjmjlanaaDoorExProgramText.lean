/-   FnExactProgramText: for every list of instructions the program's ProgramText answers as its model, and leaves its argument alone. The library's table is read as the program's text lays it (the card). -/
import Derived.Test.YteihfohjmjlanaaDoorRows
import Derived.Test.YteihfohjmjlanaaDoorCards
import Derived.Test.YteihfohjmjlanaaDoorTie
import Derived.WalkKit
import Derived.ProofKit
import Derived.OpenShut
import Derived.ShutString
import Derived.ChangeOld
import Derived.Below
import Derived.Lib.SmallJoins
import Derived.Deep.Strs
import Derived.OpenVars
import Derived.LaidMore
import Derived.Lay
import Derived.LaidOnce
import Derived.SevenTiedAt
import Derived.Stop.Joined
import Derived.Handy
import Derived.Lib.Hide
import Derived.Deep.RegionHeld3
import Derived.Test.YteihfohjmjlanaaDoorPrgS
import Derived.Test.YteihfohjmjlanaaDoorPrgI
import Derived.Test.YteihfohjmjlanaaDoorPrX
namespace Go.Proofs.YteihfohjmjlanaaDoor.fnExactProgramText
open Go.ChangeShapes Go.WideShapes Go.ChangeAt Go.RowKit
set_option linter.unusedVariables false
set_option linter.unusedSimpArgs false

theorem own : ownKnob Tryd.prog.godebug = none := by kernel_rfl
theorem laidOut : laidOutB Tryd.prog = true := by kernel_rfl
open Ints

set_option maxHeartbeats 8000000 in
theorem walk (a0_0 : Option Addr) (len0_0 cap0_0 : Nat) (z0_0 : List Ins) (w : World) (w0_0 : IsIns w a0_0 len0_0 cap0_0 z0_0) (htab : TabV w) :
    Calls Tryd.prog 3 #[.slice a0_0 len0_0 cap0_0] w fun e w' => e = .returned (.bool true) ∧ Below w.heap.size w w' := by
  have HTab := Lib.hid htab
  clear htab
  have hz0_0 := w0_0.le
  obtain ⟨l0_0, hl0_0⟩ : ∃ l : Int, l = 1048576 - (len0_0 : Int) := ⟨_, rfl⟩
  by_cases hn0_0 : 0 ≤ l0_0
  rotate_left
  · have hm0_0 : l0_0 < 0 := by omega
    have HB0 : Hid (Below w.heap.size w w) := Lib.hid (Below.refl _ _)
    have HL0_0 := Lib.hid hl0_0
    clear hl0_0
    go_enter Tryd.func3, Tryd.ntmps3
    go_wp2_with fail
    have HT : Hid (Below w.heap.size w w) := Lib.hid (Below.refl _ _)
    refine (szIns_bad0  _ _ _ _ (by have := HL0_0.out; omega) HL0_0.out hm0_0 hz0_0).mono ?_
    rintro e vz0 ⟨rfl, bz⟩
    replace HT := Lib.hid (HT.out.trans (bz.mono HT.out.size))
    clear bz
    go_wp2
    go_ret
    exact ⟨rfl, HB0.out.trans (HT.out.mono HB0.out.size)⟩
  have hm0_0 : ¬ l0_0 < 0 := by omega
  obtain ⟨y0_0, hy0_0⟩ : ∃ y, y = z0_0.take len0_0 := ⟨_, rfl⟩
  have R0_0 : Hid (RdIns w (.slice a0_0 len0_0 cap0_0) y0_0) := Lib.hid (by rw [hy0_0]; exact rdIns_of_row w0_0 (by omega))
  clear hy0_0 w0_0
  have HB0 : Hid (Below w.heap.size w w) := Lib.hid (Below.refl _ _)
  have HL0_0 := Lib.hid hl0_0
  clear hl0_0
  replace R0_0 := Lib.hid (R0_0.out.below HB0.out (Nat.le_refl _))
  have HT : Hid (Below w.heap.size w w) := Lib.hid (Below.refl _ _)
  go_enter Tryd.func3, Tryd.ntmps3
  go_wp2_with fail
  have HT : Hid (Below w.heap.size w w) := Lib.hid (Below.refl _ _)
  refine (szIns  _ _ _ _ (by have := HL0_0.out; omega) HL0_0.out hn0_0 hz0_0).mono ?_
  rintro e vz0 ⟨rfl, bz⟩
  replace HT := Lib.hid (HT.out.trans (bz.mono HT.out.size))
  clear bz
  clear HL0_0 hn0_0 hz0_0
  go_wp2_with fail
  refine (toIns  _ y0_0 _ (R0_0.out.below HT.out (Nat.le_refl _))).mono ?_
  rintro e v1 ⟨us0_0, rfl, os0_0, b1⟩
  have Ls0_0 := Lib.hid HT.out.size
  replace HT := Lib.hid (HT.out.trans (b1.mono HT.out.size))
  have Xs0_0 := Lib.hid os0_0
  obtain ⟨gas0_0, gcs0_0, hus0_0⟩ := os0_0.shape
  subst hus0_0
  clear os0_0
  clear b1
  go_wp2_with fail
  refine (specPrText _ y0_0 _ Xs0_0.out.rd).mono ?_
  rintro e v2 ⟨rfl, b2⟩
  obtain ⟨txt, htxt⟩ : ∃ x, x = bs (prV y0_0) := ⟨_, rfl⟩
  have HTxt := Lib.hid htxt
  rw [← htxt]
  clear htxt
  replace Xs0_0 := Lib.hid (Xs0_0.out.below b2 Xs0_0.out.size)
  replace HT := Lib.hid (HT.out.trans (b2.mono HT.out.size))
  clear b2
  clear Xs0_0
  go_wp2_with fail
  refine (toIns  _ y0_0 _ (R0_0.out.below HT.out (Nat.le_refl _))).mono ?_
  rintro e v3 ⟨ux0_0, rfl, ox0_0, b3⟩
  have Lx0_0 := Lib.hid HT.out.size
  replace HT := Lib.hid (HT.out.trans (b3.mono HT.out.size))
  have Xx0_0 := Lib.hid ox0_0
  obtain ⟨gax0_0, gcx0_0, hux0_0⟩ := ox0_0.shape
  subst hux0_0
  clear ox0_0
  clear b3
  go_wp2_with fail
  refine (implPrText _ y0_0 _ Xx0_0.out.rd (HTab.out.below (HB0.out.trans (HT.out.mono HB0.out.size)) (Nat.le_refl _))).mono ?_
  rintro e v4 ⟨rfl, b4⟩
  rw [← HTxt.out]
  have etxt : (txt.toList == txt.toList) = true := by simp
  replace Xx0_0 := Lib.hid (Xx0_0.out.below b4 Xx0_0.out.size)
  replace HT := Lib.hid (HT.out.trans (b4.mono HT.out.size))
  clear b4
  go_wp2_with fail
  refine (toIns  _ y0_0 _ (R0_0.out.below HT.out (Nat.le_refl _))).mono ?_
  rintro e v5 ⟨uc0_0, rfl, oc0_0, b5⟩
  have Sx0_0_c0_0 := Lib.hid (sep_of Xx0_0.out.top oc0_0.row.lt Xx0_0.out.size)
  have Lc0_0 := Lib.hid HT.out.size
  replace Xx0_0 := Lib.hid (Xx0_0.out.below b5 Xx0_0.out.size)
  replace HT := Lib.hid (HT.out.trans (b5.mono HT.out.size))
  have Xc0_0 := Lib.hid oc0_0
  obtain ⟨gac0_0, gcc0_0, huc0_0⟩ := oc0_0.shape
  subst huc0_0
  clear oc0_0
  clear b5
  go_wp2_with fail
  refine (eqIns  _ _ _ _ Xx0_0.out.rd Xc0_0.out.rd).mono ?_
  rintro e v6 ⟨rfl, b6⟩
  replace Xx0_0 := Lib.hid (Xx0_0.out.below b6 Xx0_0.out.size)
  replace Xc0_0 := Lib.hid (Xc0_0.out.below b6 Xc0_0.out.size)
  replace HT := Lib.hid (HT.out.trans (b6.mono HT.out.size))
  clear b6
  clear Xc0_0
  go_wp2
  go_ret
  exact ⟨rfl, HB0.out.trans (HT.out.mono HB0.out.size)⟩

set_option maxRecDepth 100000 in
theorem lifted (os : Os) (started : os.Started) (H : Type) (enc : TypeId × Value → H) :
    ReturnsInHanded {} Tryd.checked os 3 .any (fun w args => (Rows.fnExactProgramTextSpec.pre enc Tryd.prog Tryd.f3 [] false w args ∧ laidMetH Tryd.prog Rows.fnExactProgramTextRow.laid w) ∧ sizedMet enc Tryd.prog Tryd.f3 (OpenSpec.ofChange Rows.fnExactProgramTextSpec) false w args) (Rows.fnExactProgramTextSpec.post enc Tryd.prog Tryd.f3 false true false false) := by
  refine returnsInHanded_of_change_and (C := Tryd.checked) (X := fun w _ => laidMetH Tryd.prog Rows.fnExactProgramTextRow.laid w) (fun _ _ _ hh h => h.of_heap hh) own started (by kernel_rfl) Tryd.func3
    (ChangeSpec.witness_shaped (enc := enc) (C := Tryd.checked) (os := os) (X := fun w _ => laidMetH Tryd.prog Rows.fnExactProgramTextRow.laid w) false (World.laidAll Tryd.prog os Rows.fnExactProgramTextRow.laid) #[.slice none 0 0] 8 (World.laidAll_os _ _ _) (World.shaped_of_ZipB (by kernel_rfl) (by kernel_rfl)) (by kernel_rfl) (by kernel_rfl) (by kernel_rfl)
      (by rw [MakeChecks.laidMetH_plain _ _ _ (by kernel_rfl)]; exact laidMet_laidAll _ (by kernel_rfl) (by kernel_rfl))) ?_
  intro W base args ds gs before hval0 hW _ _ hL _
  have hval : ∀ (j : Nat) t v, Tryd.f3.params[j]? = some t → args[j]? = some v → Value.okWide Tryd.prog W .any base t v := hval0
  have hW' := hW
  obtain ⟨p, q, hA0, hV, rfl, hfz, hnd⟩ := hW
  have hA : DataW.TrodAll enc Tryd.prog W 0 (fun _ => true) true Tryd.f3.params.toList args.toList ds p := hA0
  rw [Tryd.params3] at hA hval
  obtain ⟨v0, vs0, d0, ds0, p0, q0, hargs, rfl, rfl, h0, r0⟩ := trodAll_cons hA
  obtain ⟨rfl, rfl, rfl⟩ := trodAll_nil r0
  obtain rfl : args = #[v0] := by cases args; simp_all
  obtain ⟨rfl, rfl⟩ := trodVars_none hV
  have k0 := h0
  have lt0 : ∀ x ∈ p0, x.block < W.heap.size := by obtain ⟨m, hm⟩ := k0; exact DataW.trod_lt m _ _ _ hm
  obtain ⟨a0_0, len0_0, cap0_0, rfl⟩ := okWide_slice Tryd.underlying22 (hval 0 22 v0 rfl rfl)
  obtain ⟨z0_0, w0_0⟩ : ∃ zs, IsIns W a0_0 len0_0 cap0_0 zs := by
    obtain ⟨fuel, hf⟩ := h0
    obtain ⟨a', len', cap', z', e', w'⟩ := open_Ins hf
    simp [Value.cells] at e'
    obtain ⟨rfl, rfl, rfl⟩ := e'
    exact ⟨z', w'⟩
  clear hA0 hval0
  refine (walk a0_0 len0_0 cap0_0 z0_0 W w0_0 (tabV_of_laid hL)).mono fun e W' ⟨he, bel⟩ => ?_
  subst he
  exact ⟨_, rfl, _, _, _, [], _, [], hW', trodAll_mk1 (shut_bool Tryd.underlying4 _), (trodAll_cons_mk (Below.trod laidOut (by kernel_rfl) (of_decide_eq_true (by kernel_rfl)) k0 bel lt0) trodAll_mk0), rfl, bel.frame _, fun h => by cases h⟩

theorem over : Rows.fnExactProgramTextRow.holds Tryd.pinned (OpenSpec.ofChange Rows.fnExactProgramTextSpec) :=
  OpenClaim.holds_of_wide 3 Tryd.f3 rfl rfl rfl rfl rfl rfl rfl ⟨rfl, rfl, rfl, rfl, rfl⟩ rfl rfl rfl rfl rfl (by kernel_rfl) Tryd.func3 (by kernel_rfl)
    (of_decide_eq_true (by kernel_rfl)) (by unfold Func.isWrapper; first | (rw [if_pos (by decide +kernel)]; kernel_rfl) | (rw [if_neg (by decide +kernel)]; exact ⟨rfl, rfl⟩))
    (fun os started H enc _ => lifted os started H enc)

/-- The statement: the tied card. -/
theorem proved : Rows.FnExactProgramTextCardSaid :=
  Claim7.holds_tied_plain_at .later [] [.data, .data, .data] true (true, "61ce4189ba1a849d0e9c87f609339cc8187f9f883171a0be5b4ece451b60e2e1") false over (fun _ h => by cases h) (by kernel_rfl) (fun _ h => by cases h) fnExactProgramText_row_tie rfl ⟨rfl, rfl⟩ (by kernel_rfl) rfl
    (fun f fn hf hfn => by
      obtain rfl : f = 3 := Option.some.inj ((show Tryd.prog.funcNamed "loop.example/g01079/laws.FnExactProgramText" = some 3 by kernel_rfl).symm.trans hf) |>.symm
      obtain rfl : fn = Tryd.f3 := (Option.some.inj (Tryd.func3.symm.trans hfn)).symm
      exact ⟨by kernel_rfl, fun j t ht => by
        rw [Tryd.params3] at ht
        have hm : t ∈ [22] := by simpa using Array.mem_of_getElem? ht
        have hall : ([22].all fun u => !Tryd.prog.wantsStandIn u) = true := by kernel_rfl
        exact (show Tryd.prog.wantsStandIn t = false by simpa using List.all_eq_true.1 hall t hm)⟩)
    (by kernel_rfl)
#print axioms proved
end Go.Proofs.YteihfohjmjlanaaDoor.fnExactProgramText
