/-   FnExactReadCounters: for every text the program's ReadCounters answers as its model. The library's tables and error variables are read as the program's text lays them (the card). -/
import Derived.Test.YtbifkjmmhfnblaaDoorRows
import Derived.Test.YtbifkjmmhfnblaaDoorCards
import Derived.Test.YtbifkjmmhfnblaaDoorTie
import Derived.WalkKit
import Derived.ProofKit
import Derived.OpenShut
import Derived.ShutString
import Derived.ChangeOld
import Derived.Below
import Derived.Lib.SmallJoins
import Derived.Deep.Strs
import Derived.OpenVars
import Derived.ChangeMaps5
import Derived.LaidMore
import Derived.Lay
import Derived.LaidOnce
import Derived.SevenTiedAt
import Derived.Stop.Joined
import Derived.Handy
import Derived.Lib.Hide
import Derived.Test.YtbifkjmmhfnblaaDoorRkI
import Derived.Test.YtbifkjmmhfnblaaDoorShw
import Derived.Test.YtbifkjmmhfnblaaDoorCntL
namespace Go.Proofs.YtbifkjmmhfnblaaDoor.fnExactReadCounters
open Go.ChangeShapes Go.WideShapes Go.ChangeAt Go.RowKit
set_option linter.unusedVariables false
set_option linter.unusedSimpArgs false

theorem own : ownKnob Tryd.prog.godebug = none := by kernel_rfl
theorem laidOut : laidOutB Tryd.prog = true := by kernel_rfl
open Ints

set_option maxHeartbeats 4000000 in
theorem walk (s0 : ByteArray) (w : World) (w0 : s0.size ≤ maxLen) (her : ErrV w) (htab : TabV w) (hmax : MaxV w) :
    Calls Tryd.prog 4 #[.string s0] w fun e w' => e = .returned (.bool true) ∧ Below w.heap.size w w' := by
  have HTab := Lib.hid htab
  have HEr := Lib.hid her
  have HMx := Lib.hid hmax
  clear w0 htab her hmax
  by_cases h0 : s0.size ≤ 1048576
  rotate_left
  · have d0 : decide ((1048576 : Int) < (s0.size : Int)) = true := decide_eq_true (by omega)
    have d1 : decide (1048576 < s0.size) = true := decide_eq_true (by omega)
    have d2 : (1048576 : Int) < (s0.size : Int) := by omega
    clear h0
    go_enter Tryd.func4, Tryd.ntmps4
    go_wp2
    go_ret
    exact ⟨rfl, Below.refl _ _⟩
  have d0 : decide ((1048576 : Int) < (s0.size : Int)) = false := decide_eq_false (by omega)
  have d1 : decide (1048576 < s0.size) = false := decide_eq_false (by omega)
  have d2 : ¬ (1048576 : Int) < (s0.size : Int) := by omega
  obtain ⟨b, hb⟩ : ∃ b, b = rkB s0.data.toList := ⟨_, rfl⟩
  obtain ⟨x, hx⟩ : ∃ b, b = rkX s0.data.toList 0 := ⟨_, rfl⟩
  obtain ⟨y, hy⟩ : ∃ b, b = rkX s0.data.toList 1 := ⟨_, rfl⟩
  obtain ⟨z, hz⟩ : ∃ b, b = rkX s0.data.toList 2 := ⟨_, rfl⟩
  have HV := Lib.hid (And.intro hb (And.intro hx (And.intro hy hz)))
  have HS := Lib.hid h0
  have HC := Lib.hid (specReadCt s0 w h0)
  clear h0 hb hx hy hz
  go_enter Tryd.func4, Tryd.ntmps4
  go_wp2_with fail
  refine HC.out.mono ?_
  rintro e v1 ⟨rfl, b1⟩
  rw [← HV.out.1, ← HV.out.2.1, ← HV.out.2.2.1, ← HV.out.2.2.2]
  have HT := Lib.hid b1
  have HT1 : Hid (Below w.heap.size w (v1.alloc (Obj.cells #[.int .i64 x, .int .i64 y, .int .i64 z] 29))) := Lib.hid (b1.alloc b1.size _)
  have K1 : Hid (Cels (v1.alloc (Obj.cells #[.int .i64 x, .int .i64 y, .int .i64 z] 29)) v1.heap.size 29 [.int .i64 x, .int .i64 y, .int .i64 z]) := Lib.hid (Cels.new _ _ _)
  clear b1
  go_wp2_with fail
  refine (implReadCt s0 _ HS.out (HTab.out.below HT1.out (Nat.le_refl _)) (HEr.out.below HT1.out (Nat.le_refl _)) (HMx.out.below HT1.out (Nat.le_refl _))).mono ?_
  rintro e v2 ⟨rfl, b2⟩
  rw [← HV.out.1, ← HV.out.2.1, ← HV.out.2.2.1, ← HV.out.2.2.2]
  have HT2 := Lib.hid (HT1.out.trans (b2.mono HT1.out.size))
  have HT3 : Hid (Below w.heap.size w (v2.alloc (Obj.cells #[.int .i64 x, .int .i64 y, .int .i64 z] 29))) := Lib.hid (HT2.out.alloc HT2.out.size _)
  have ka := (K1.out.below b2 K1.out.lt).alloc (Obj.cells #[.int .i64 x, .int .i64 y, .int .i64 z] 29)
  have kb : Cels (v2.alloc (Obj.cells #[.int .i64 x, .int .i64 y, .int .i64 z] 29)) v2.heap.size 29 [.int .i64 x, .int .i64 y, .int .i64 z] := Cels.new _ _ _
  have k0 := ka.cell 0 rfl
  have k1 := ka.cell 1 rfl
  have k2 := ka.cell 2 rfl
  have m0 := kb.cell 0 rfl
  have m1 := kb.cell 1 rfl
  have m2 := kb.cell 2 rfl
  clear b2 ka kb
  go_wp2_with fail
  refine (eqCnt x y z _).mono ?_
  rintro e v3 ⟨rfl, b3⟩
  have HT4 := Lib.hid (HT3.out.trans (b3.mono HT3.out.size))
  clear b3 k0 k1 k2 m0 m1 m2
  go_wp2
  go_ret
  exact ⟨rfl, HT4.out⟩

set_option maxRecDepth 100000 in
theorem lifted (os : Os) (started : os.Started) (H : Type) (enc : TypeId × Value → H) :
    ReturnsInHanded {} Tryd.checked os 4 .any (fun w args => (Rows.fnExactReadCountersSpec.pre enc Tryd.prog Tryd.f4 [] false w args ∧ laidMetH Tryd.prog Rows.fnExactReadCountersRow.laid w) ∧ sizedMet enc Tryd.prog Tryd.f4 (OpenSpec.ofChange Rows.fnExactReadCountersSpec) false w args) (Rows.fnExactReadCountersSpec.post enc Tryd.prog Tryd.f4 false true false false) := by
  refine Ints.handed_and_shape (C := Tryd.checked) (X := fun w _ => laidMetH Tryd.prog Rows.fnExactReadCountersRow.laid w) (fun _ _ _ hh h => h.of_heap hh) own started (by kernel_rfl) Tryd.func4
    (ChangeSpec.witness_shaped (enc := enc) (C := Tryd.checked) (os := os) (X := fun w _ => laidMetH Tryd.prog Rows.fnExactReadCountersRow.laid w) false (World.laidAll Tryd.prog os Rows.fnExactReadCountersRow.laid) #[.string ⟨#[]⟩] 8 (World.laidAll_os _ _ _) (World.shaped_of_ZipB (by kernel_rfl) (by kernel_rfl)) (by kernel_rfl) (by kernel_rfl) (by kernel_rfl)
      (by rw [MakeChecks.laidMetH_plain _ _ _ (by kernel_rfl)]; exact laidMet_laidAll _ (by kernel_rfl) (by kernel_rfl))) ?_
  intro W base args ds gs before hval0 hW hL hsh
  have hval : ∀ (j : Nat) t v, Tryd.f4.params[j]? = some t → args[j]? = some v → Value.okWide Tryd.prog W .any base t v := hval0
  have hW' := hW
  obtain ⟨p, q, hA0, hV, rfl, hfz, hnd⟩ := hW
  have hA : DataW.TrodAll enc Tryd.prog W 0 (fun _ => true) true Tryd.f4.params.toList args.toList ds p := hA0
  rw [Tryd.params4] at hA hval
  obtain ⟨v0, vs0, d0, ds0, p0, q0, hargs, rfl, rfl, h0, r0⟩ := trodAll_cons hA
  obtain ⟨rfl, rfl, rfl⟩ := trodAll_nil r0
  obtain rfl : args = #[v0] := by cases args; simp_all
  obtain ⟨rfl, rfl⟩ := trodVars_none hV
  obtain ⟨s0, rfl, rfl, rfl, w0⟩ := Go.ChangeMaps.open_string Tryd.underlying9 (hval 0 9 v0 rfl rfl) h0
  clear hA0 hval0
  refine (walk s0 W w0 (errV_of_laid7 hL) (tabV_of_laid7 hL) (maxV_of_shape hsh)).mono fun e W' ⟨he, bel⟩ => ?_
  subst he
  exact ⟨_, rfl, _, _, _, [], _, [], hW', trodAll_mk1 (shut_bool Tryd.underlying4 _), (trodAll_cons_mk (Go.ChangeMaps.shut_string Tryd.underlying9 w0) trodAll_mk0), rfl, bel.frame _, fun h => by cases h⟩

theorem over : Rows.fnExactReadCountersRow.holds Tryd.pinned (OpenSpec.ofChange Rows.fnExactReadCountersSpec) :=
  OpenClaim.holds_of_wide 4 Tryd.f4 rfl rfl rfl rfl rfl rfl rfl ⟨rfl, rfl, rfl, rfl, rfl⟩ rfl rfl rfl rfl rfl (by kernel_rfl) Tryd.func4 (by kernel_rfl)
    (of_decide_eq_true (by kernel_rfl)) (by unfold Func.isWrapper; first | (rw [if_pos (by decide +kernel)]; kernel_rfl) | (rw [if_neg (by decide +kernel)]; exact ⟨rfl, rfl⟩))
    (fun os started H enc _ => lifted os started H enc)

/-- The statement: the tied card. -/
theorem proved : Rows.FnExactReadCountersCardSaid :=
  Claim7.holds_tied_plain_at .later [] [.data, .data, .data, .data, .sentinel, .sentinel, .pinned] true (true, "4e2cf49c081ec64d5ea40387efbaee9a4b7f99038ace6021cb6d1316c2683e05") true over (fun _ h => by cases h) (by kernel_rfl) (fun _ h => by cases h) fnExactReadCounters_row_tie rfl ⟨rfl, rfl⟩ (by kernel_rfl) rfl
    (fun f fn hf hfn => by
      obtain rfl : f = 4 := Option.some.inj ((show Tryd.prog.funcNamed "loop.example/g01079/laws.FnExactReadCounters" = some 4 by kernel_rfl).symm.trans hf) |>.symm
      obtain rfl : fn = Tryd.f4 := (Option.some.inj (Tryd.func4.symm.trans hfn)).symm
      exact ⟨by kernel_rfl, fun j t ht => by
        rw [Tryd.params4] at ht
        have hm : t ∈ [9] := by simpa using Array.mem_of_getElem? ht
        have hall : ([9].all fun u => !Tryd.prog.wantsStandIn u) = true := by kernel_rfl
        exact (show Tryd.prog.wantsStandIn t = false by simpa using List.all_eq_true.1 hall t hm)⟩)
    (by kernel_rfl)
#print axioms proved
end Go.Proofs.YtbifkjmmhfnblaaDoor.fnExactReadCounters
