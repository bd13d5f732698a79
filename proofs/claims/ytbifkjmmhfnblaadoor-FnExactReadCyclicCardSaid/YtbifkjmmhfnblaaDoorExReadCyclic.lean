/-   FnExactReadCyclic: for every text the program's ReadCyclic answers as its model, and its answer is memory of its own. The library's tables and error variables are read as the program's text lays them (the card). -/
import Derived.Test.YtbifkjmmhfnblaaDoorRows
import Derived.Test.YtbifkjmmhfnblaaDoorCards
import Derived.Test.YtbifkjmmhfnblaaDoorTie
import Derived.WalkKit
import Derived.ProofKit
import Derived.OpenShut
import Derived.ShutString
import Derived.ChangeOld
import Derived.Below
import Derived.Lib.SmallJoins
import Derived.Deep.Strs
import Derived.OpenVars
import Derived.ChangeMaps5
import Derived.LaidMore
import Derived.Lay
import Derived.LaidOnce
import Derived.SevenTiedAt
import Derived.Stop.Joined
import Derived.Handy
import Derived.Lib.Hide
import Derived.Test.YtbifkjmmhfnblaaDoorRcI
import Derived.Test.YtbifkjmmhfnblaaDoorRcL
import Derived.Test.YtbifkjmmhfnblaaDoorShw
import Derived.Test.YtbifkjmmhfnblaaDoorCel
namespace Go.Proofs.YtbifkjmmhfnblaaDoor.fnExactReadCyclic
open Go.ChangeShapes Go.WideShapes Go.ChangeAt Go.RowKit
set_option linter.unusedVariables false
set_option linter.unusedSimpArgs false

theorem own : ownKnob Tryd.prog.godebug = none := by kernel_rfl
theorem laidOut : laidOutB Tryd.prog = true := by kernel_rfl
open Ints

set_option maxRecDepth 100000 in
set_option maxHeartbeats 8000000 in
theorem walk (s0 : ByteArray) (w : World) (w0 : s0.size ≤ maxLen) (her : ErrV w) (htab : TabV w) (hmax : MaxV w) :
    Calls Tryd.prog 7 #[.string s0] w fun e w' => e = .returned (.bool true) ∧ Below w.heap.size w w' := by
  have HTab := Lib.hid htab
  have HEr := Lib.hid her
  have HMx := Lib.hid hmax
  clear w0 htab her hmax
  by_cases h0 : s0.size ≤ 1048576
  rotate_left
  · have d0 : decide ((1048576 : Int) < (s0.size : Int)) = true := decide_eq_true (by omega)
    have d1 : decide (1048576 < s0.size) = true := decide_eq_true (by omega)
    have d2 : (1048576 : Int) < (s0.size : Int) := by omega
    clear h0
    go_enter Tryd.func7, Tryd.ntmps7
    go_wp2
    go_ret
    exact ⟨rfl, Below.refl _ _⟩
  have d0 : decide ((1048576 : Int) < (s0.size : Int)) = false := decide_eq_false (by omega)
  have d1 : decide (1048576 < s0.size) = false := decide_eq_false (by omega)
  have d2 : ¬ (1048576 : Int) < (s0.size : Int) := by omega
  obtain ⟨b, hb⟩ : ∃ b, b = cyB s0.data.toList := ⟨_, rfl⟩
  have HBb := Lib.hid hb
  have HS := Lib.hid h0
  obtain ⟨RQ, hRQ⟩ : ∃ R, R = cyV s0.data.toList := ⟨_, rfl⟩
  have HRQ := Lib.hid hRQ
  have hrt : tot RQ ≤ 400000 := by rw [hRQ]; exact cyV_tot _
  have HRT := Lib.hid hrt
  obtain ⟨nq, hnq⟩ : ∃ n, n = RQ.length := ⟨_, rfl⟩
  have HNQ := Lib.hid hnq
  obtain ⟨k1, hk1⟩ : ∃ k : Nat, k = 1 + tot RQ := ⟨_, rfl⟩
  have HK1 := Lib.hid hk1
  have hkn : ¬ ((k1 : Int) < 0) := by omega
  have hkb : 1 + tot RQ ≤ 100000000000 := by omega
  have HKB := Lib.hid hkb
  have HT : Hid (Below w.heap.size w w) := Lib.hid (Below.refl _ _)
  clear h0 hb hRQ hrt hnq hk1 hkb
  go_enter Tryd.func7, Tryd.ntmps7
  go_wp2_with fail
  refine (specReadCy s0 _ HS.out).mono ?_
  rintro e v2 ⟨uw0, rfl, ow0, b2⟩
  rw [← HBb.out]
  rw [← HRQ.out] at ow0
  have SZ2 := Lib.hid b2.size
  replace HT := Lib.hid (HT.out.trans (b2.mono HT.out.size))
  have Xw := Lib.hid ow0
  clear ow0 b2
  obtain ⟨gaw, gcw, hgaw⟩ := Xw.out.shape
  rw [← HNQ.out] at hgaw
  subst hgaw
  obtain ⟨V2, hV2⟩ : ∃ V, V = v2.alloc (Obj.cells #[.slice gaw nq gcw] 53) := ⟨_, rfl⟩
  have bq : Below v2.heap.size v2 V2 := by rw [hV2]; exact (Below.refl _ _).alloc (Nat.le_refl _) _
  have Kw : Hid (Cels V2 v2.heap.size 53 [.slice gaw nq gcw]) := Lib.hid (by rw [hV2]; exact Cels.new _ _ _)
  have HV2 := Lib.hid hV2.symm
  have SZV : Hid (v2.heap.size < V2.heap.size) := Lib.hid Kw.out.lt
  clear hV2
  replace Xw := Lib.hid (Xw.out.below bq Xw.out.size)
  replace HT := Lib.hid (HT.out.trans (bq.mono HT.out.size))
  clear bq
  go_wp2_with fail
  rw [HV2.out]
  refine (implReadCy s0 _ HS.out (HTab.out.below HT.out (Nat.le_refl _)) (HEr.out.below HT.out (Nat.le_refl _)) (HMx.out.below HT.out (Nat.le_refl _))).mono ?_
  rintro e v4 ⟨ug0, rfl, og0, b4⟩
  rw [← HBb.out]
  rw [← HRQ.out] at og0
  have SZ4 := Lib.hid b4.size
  have Xg := Lib.hid og0
  clear og0
  replace Xw := Lib.hid (Xw.out.below b4 Xw.out.size)
  replace Kw := Lib.hid (Kw.out.below b4 Kw.out.lt)
  replace HT := Lib.hid (HT.out.trans (b4.mono HT.out.size))
  clear b4
  obtain ⟨gag, gcg, hgag⟩ := Xg.out.shape
  rw [← HNQ.out] at hgag
  subst hgag
  obtain ⟨V4, hV4⟩ : ∃ V, V = v4.alloc (Obj.cells #[.slice gag nq gcg] 53) := ⟨_, rfl⟩
  have bq : Below v4.heap.size v4 V4 := by rw [hV4]; exact (Below.refl _ _).alloc (Nat.le_refl _) _
  have Kg : Hid (Cels V4 v4.heap.size 53 [.slice gag nq gcg]) := Lib.hid (by rw [hV4]; exact Cels.new _ _ _)
  have HV4 := Lib.hid hV4.symm
  clear hV4
  replace Xw := Lib.hid (Xw.out.below bq Xw.out.size)
  replace Xg := Lib.hid (Xg.out.below bq Xg.out.size)
  replace Kw := Lib.hid (Kw.out.below bq Kw.out.lt)
  replace HT := Lib.hid (HT.out.trans (bq.mono HT.out.size))
  clear bq
  have zKw := Kw.out.cell 0 rfl
  have zKg := Kg.out.cell 0 rfl
  rw [← HV4.out] at zKw zKg
  go_wp2_with fail
  rw [HV4.out]
  refine (eqCyc _ _ RQ _ Xg.out.rdl Xw.out.rdl).mono ?_
  rintro e v5 ⟨rfl, b5⟩
  replace Xw := Lib.hid (Xw.out.below b5 Xw.out.size)
  replace Xg := Lib.hid (Xg.out.below b5 Xg.out.size)
  replace Kw := Lib.hid (Kw.out.below b5 Kw.out.lt)
  replace Kg := Lib.hid (Kg.out.below b5 Kg.out.lt)
  replace HT := Lib.hid (HT.out.trans (b5.mono HT.out.size))
  clear b5
  clear zKw zKg
  have zKg := Kg.out.cell 0 rfl
  go_wp2_with fail
  refine (markCyc _ RQ 1 V2.heap.size v4.heap.size _ Xg.out HKB.out).mono ?_
  rintro e v6 ⟨rfl, om, ho⟩
  rw [← HK1.out]
  have KwL := Lib.hid SZ2.out
  replace Xw := Lib.hid (Xw.out.onlyQ ho (fun b h1 h2 h3 => by have := SZV.out; have h4 := h3.1; omega))
  replace Kw := Lib.hid (ho.celsY Kw.out (fun h => Nat.not_le_of_lt SZV.out h.1))
  replace Kg := Lib.hid (ho.celsY Kg.out (fun h => Nat.lt_irrefl _ h.2))
  replace HT := Lib.hid (HT.out.trans (ho.below (fun b h3 => Nat.le_trans (Nat.le_trans SZ2.out (Nat.le_of_lt SZV.out)) h3.1) HT.out.size))
  replace Xg := Lib.hid om
  clear om ho
  clear zKg
  have zKg := Kg.out.cell 0 rfl
  go_wp2_with fail
  refine (heldCyc _ RQ 1 _ Xg.out.rdl HKB.out).mono ?_
  rintro e v7 ⟨rfl, bh⟩
  rw [← HK1.out]
  replace Xw := Lib.hid (Xw.out.below bh Xw.out.size)
  replace Xg := Lib.hid (Xg.out.below bh Xg.out.size)
  replace Kw := Lib.hid (Kw.out.below bh Kw.out.lt)
  replace Kg := Lib.hid (Kg.out.below bh Kg.out.lt)
  replace HT := Lib.hid (HT.out.trans (bh.mono HT.out.size))
  clear bh
  clear zKg
  go_wp2_with fail
  refine (implReadCy s0 _ HS.out (HTab.out.below HT.out (Nat.le_refl _)) (HEr.out.below HT.out (Nat.le_refl _)) (HMx.out.below HT.out (Nat.le_refl _))).mono ?_
  rintro e v8 ⟨uh0, rfl, oh0, b8⟩
  rw [← HBb.out]
  rw [← HRQ.out] at oh0
  have Xh := Lib.hid oh0
  clear oh0
  replace Xw := Lib.hid (Xw.out.below b8 Xw.out.size)
  replace Xg := Lib.hid (Xg.out.below b8 Xg.out.size)
  replace Kw := Lib.hid (Kw.out.below b8 Kw.out.lt)
  replace Kg := Lib.hid (Kg.out.below b8 Kg.out.lt)
  replace HT := Lib.hid (HT.out.trans (b8.mono HT.out.size))
  clear b8
  obtain ⟨gah, gch, hgah⟩ := Xh.out.shape
  rw [← HNQ.out] at hgah
  subst hgah
  obtain ⟨V8, hV8⟩ : ∃ V, V = v8.alloc (Obj.cells #[.slice gah nq gch] 53) := ⟨_, rfl⟩
  have bq : Below v8.heap.size v8 V8 := by rw [hV8]; exact (Below.refl _ _).alloc (Nat.le_refl _) _
  have Kh : Hid (Cels V8 v8.heap.size 53 [.slice gah nq gch]) := Lib.hid (by rw [hV8]; exact Cels.new _ _ _)
  have HV8 := Lib.hid hV8.symm
  clear hV8
  replace Xw := Lib.hid (Xw.out.below bq Xw.out.size)
  replace Xg := Lib.hid (Xg.out.below bq Xg.out.size)
  replace Xh := Lib.hid (Xh.out.below bq Xh.out.size)
  replace Kw := Lib.hid (Kw.out.below bq Kw.out.lt)
  replace Kg := Lib.hid (Kg.out.below bq Kg.out.lt)
  replace HT := Lib.hid (HT.out.trans (bq.mono HT.out.size))
  clear bq
  have zKw := Kw.out.cell 0 rfl
  have zKh := Kh.out.cell 0 rfl
  rw [← HV8.out] at zKw zKh
  go_wp2_with fail
  rw [HV8.out]
  refine (eqCyc _ _ RQ _ Xh.out.rdl Xw.out.rdl).mono ?_
  rintro e v9 ⟨rfl, b9⟩
  replace Xg := Lib.hid (Xg.out.below b9 Xg.out.size)
  replace Kg := Lib.hid (Kg.out.below b9 Kg.out.lt)
  replace HT := Lib.hid (HT.out.trans (b9.mono HT.out.size))
  clear b9
  clear zKw zKh
  have zKg := Kg.out.cell 0 rfl
  go_wp2_with fail
  refine (heldCyc _ RQ 1 _ Xg.out.rdl HKB.out).mono ?_
  rintro e v10 ⟨rfl, bh⟩
  rw [← HK1.out]
  replace HT := Lib.hid (HT.out.trans (bh.mono HT.out.size))
  clear bh zKg
  go_wp2
  go_ret
  exact ⟨rfl, HT.out⟩

set_option maxRecDepth 100000 in
theorem lifted (os : Os) (started : os.Started) (H : Type) (enc : TypeId × Value → H) :
    ReturnsInHanded {} Tryd.checked os 7 .any (fun w args => (Rows.fnExactReadCyclicSpec.pre enc Tryd.prog Tryd.f7 [] false w args ∧ laidMetH Tryd.prog Rows.fnExactReadCyclicRow.laid w) ∧ sizedMet enc Tryd.prog Tryd.f7 (OpenSpec.ofChange Rows.fnExactReadCyclicSpec) false w args) (Rows.fnExactReadCyclicSpec.post enc Tryd.prog Tryd.f7 false true false false) := by
  refine Ints.handed_and_shape (C := Tryd.checked) (X := fun w _ => laidMetH Tryd.prog Rows.fnExactReadCyclicRow.laid w) (fun _ _ _ hh h => h.of_heap hh) own started (by kernel_rfl) Tryd.func7
    (ChangeSpec.witness_shaped (enc := enc) (C := Tryd.checked) (os := os) (X := fun w _ => laidMetH Tryd.prog Rows.fnExactReadCyclicRow.laid w) false (World.laidAll Tryd.prog os Rows.fnExactReadCyclicRow.laid) #[.string ⟨#[]⟩] 8 (World.laidAll_os _ _ _) (World.shaped_of_ZipB (by kernel_rfl) (by kernel_rfl)) (by kernel_rfl) (by kernel_rfl) (by kernel_rfl)
      (by rw [MakeChecks.laidMetH_plain _ _ _ (by kernel_rfl)]; exact laidMet_laidAll _ (by kernel_rfl) (by kernel_rfl))) ?_
  intro W base args ds gs before hval0 hW hL hsh
  have hval : ∀ (j : Nat) t v, Tryd.f7.params[j]? = some t → args[j]? = some v → Value.okWide Tryd.prog W .any base t v := hval0
  have hW' := hW
  obtain ⟨p, q, hA0, hV, rfl, hfz, hnd⟩ := hW
  have hA : DataW.TrodAll enc Tryd.prog W 0 (fun _ => true) true Tryd.f7.params.toList args.toList ds p := hA0
  rw [Tryd.params7] at hA hval
  obtain ⟨v0, vs0, d0, ds0, p0, q0, hargs, rfl, rfl, h0, r0⟩ := trodAll_cons hA
  obtain ⟨rfl, rfl, rfl⟩ := trodAll_nil r0
  obtain rfl : args = #[v0] := by cases args; simp_all
  obtain ⟨rfl, rfl⟩ := trodVars_none hV
  obtain ⟨s0, rfl, rfl, rfl, w0⟩ := Go.ChangeMaps.open_string Tryd.underlying9 (hval 0 9 v0 rfl rfl) h0
  clear hA0 hval0
  refine (walk s0 W w0 (errV_of_laid7 hL) (tabV_of_laid7 hL) (maxV_of_shape hsh)).mono fun e W' ⟨he, bel⟩ => ?_
  subst he
  exact ⟨_, rfl, _, _, _, [], _, [], hW', trodAll_mk1 (shut_bool Tryd.underlying4 _), (trodAll_cons_mk (Go.ChangeMaps.shut_string Tryd.underlying9 w0) trodAll_mk0), rfl, bel.frame _, fun h => by cases h⟩

theorem over : Rows.fnExactReadCyclicRow.holds Tryd.pinned (OpenSpec.ofChange Rows.fnExactReadCyclicSpec) :=
  OpenClaim.holds_of_wide 7 Tryd.f7 rfl rfl rfl rfl rfl rfl rfl ⟨rfl, rfl, rfl, rfl, rfl⟩ rfl rfl rfl rfl rfl (by kernel_rfl) Tryd.func7 (by kernel_rfl)
    (of_decide_eq_true (by kernel_rfl)) (by unfold Func.isWrapper; first | (rw [if_pos (by decide +kernel)]; kernel_rfl) | (rw [if_neg (by decide +kernel)]; exact ⟨rfl, rfl⟩))
    (fun os started H enc _ => lifted os started H enc)

/-- The statement: the tied card. -/
theorem proved : Rows.FnExactReadCyclicCardSaid :=
  Claim7.holds_tied_plain_at .later [] [.data, .data, .data, .data, .sentinel, .sentinel, .pinned] true (true, "4e2cf49c081ec64d5ea40387efbaee9a4b7f99038ace6021cb6d1316c2683e05") true over (fun _ h => by cases h) (by kernel_rfl) (fun _ h => by cases h) fnExactReadCyclic_row_tie rfl ⟨rfl, rfl⟩ (by kernel_rfl) rfl
    (fun f fn hf hfn => by
      obtain rfl : f = 7 := Option.some.inj ((show Tryd.prog.funcNamed "loop.example/g01079/laws.FnExactReadCyclic" = some 7 by kernel_rfl).symm.trans hf) |>.symm
      obtain rfl : fn = Tryd.f7 := (Option.some.inj (Tryd.func7.symm.trans hfn)).symm
      exact ⟨by kernel_rfl, fun j t ht => by
        rw [Tryd.params7] at ht
        have hm : t ∈ [9] := by simpa using Array.mem_of_getElem? ht
        have hall : ([9].all fun u => !Tryd.prog.wantsStandIn u) = true := by kernel_rfl
        exact (show Tryd.prog.wantsStandIn t = false by simpa using List.all_eq_true.1 hall t hm)⟩)
    (by kernel_rfl)
#print axioms proved
end Go.Proofs.YtbifkjmmhfnblaaDoor.fnExactReadCyclic
