/-   FnExactMachineText: for every machine the program's MachineText answers as its model, and leaves its argument alone. The library's table and the program's noRule are read as the program's text lays them (the card). -/
import Derived.Test.YtmbojhlcmgknbaaDoorRows
import Derived.Test.YtmbojhlcmgknbaaDoorCards
import Derived.Test.YtmbojhlcmgknbaaDoorTie
import Derived.WalkKit
import Derived.ProofKit
import Derived.OpenShut
import Derived.ShutString
import Derived.ChangeOld
import Derived.Below
import Derived.Lib.SmallJoins
import Derived.Deep.Strs
import Derived.OpenVars
import Derived.ChangeMaps5
import Derived.LaidMore
import Derived.Lay
import Derived.LaidOnce
import Derived.SevenTiedAt
import Derived.Stop.Joined
import Derived.Handy
import Derived.Lib.Hide
import Derived.Deep.RegionHeld3
import Derived.Test.YtmbojhlcmgknbaaDoorTurI
import Derived.Test.YtmbojhlcmgknbaaDoorMcW
import Derived.Test.YtmbojhlcmgknbaaDoorTab4
namespace Go.Proofs.YtmbojhlcmgknbaaDoor.fnExactMachineText
open Go.ChangeShapes Go.WideShapes Go.ChangeAt Go.RowKit
set_option linter.unusedVariables false
set_option linter.unusedSimpArgs false

theorem own : ownKnob Tryd.prog.godebug = none := by kernel_rfl
theorem laidOut : laidOutB Tryd.prog = true := by kernel_rfl
open Ints

set_option maxHeartbeats 8000000 in
theorem walk (i0_0 : Int) (i0_1 : Int) (a0_0 : Option Addr) (len0_0 cap0_0 : Nat) (z0_0 : List Ru) (w : World) (j0_0 : (Lit.int .i64 i0_0).wf = true) (j0_1 : (Lit.int .i64 i0_1).wf = true) (w0_0 : IsRules w a0_0 len0_0 cap0_0 z0_0) (hnr : NoR w) (htab : TabV w) :
    Calls Tryd.prog 3 #[.agg #[.int .i64 i0_0, .int .i64 i0_1, .slice a0_0 len0_0 cap0_0]] w fun e w' => e = .returned (.bool true) ∧ Below w.heap.size w w' := by
  have HTab := Lib.hid htab
  clear htab
  have hz0_0 := w0_0.le
  obtain ⟨l0_0, hl0_0⟩ : ∃ l : Int, l = 1048576 - (len0_0 : Int) := ⟨_, rfl⟩
  by_cases hn0_0 : 0 ≤ l0_0
  rotate_left
  · have hm0_0 : l0_0 < 0 := by omega
    obtain ⟨W0, hW0⟩ : ∃ x, x = (w.alloc (Obj.cells #[.int .i64 i0_0, .int .i64 i0_1, .slice a0_0 len0_0 cap0_0] 24)) := ⟨_, rfl⟩
    have HB0 : Hid (Below w.heap.size w W0) := Lib.hid (by rw [hW0]; exact ((Below.refl w.heap.size w).alloc (Nat.le_refl _) _))
    have K0 : Hid (Cels W0 (w.heap.size) 24 [.int .i64 i0_0, .int .i64 i0_1, .slice a0_0 len0_0 cap0_0]) := Lib.hid (by rw [hW0]; have h := (Cels.new w 24 [.int .i64 i0_0, .int .i64 i0_1, .slice a0_0 len0_0 cap0_0]); first | exact h | (simp only [World.size_alloc] at h; exact h))
    have AK0 : Hid (w.heap.size < W0.heap.size) := Lib.hid K0.out.lt
    have HW0 := Lib.hid hW0.symm
    clear hW0
    have HL0_0 := Lib.hid hl0_0
    clear hl0_0
    go_enter Tryd.func3, Tryd.ntmps3
    go_wp2_with fail
    rw [HW0.out]
    have HT : Hid (Below W0.heap.size W0 W0) := Lib.hid (Below.refl _ _)
    refine (szMach_bad0 i0_0 i0_1 _ _ _ _ (by have := HL0_0.out; omega) HL0_0.out hm0_0 hz0_0).mono ?_
    rintro e vz0 ⟨rfl, bz⟩
    replace HT := Lib.hid (HT.out.trans (bz.mono HT.out.size))
    clear bz
    go_wp2
    go_ret
    exact ⟨rfl, HB0.out.trans (HT.out.mono HB0.out.size)⟩
  have hm0_0 : ¬ l0_0 < 0 := by omega
  obtain ⟨y0_0, hy0_0⟩ : ∃ y, y = z0_0.take len0_0 := ⟨_, rfl⟩
  have R0_0 : Hid (RdR w (.slice a0_0 len0_0 cap0_0) y0_0) := Lib.hid (by rw [hy0_0]; exact rdr_of_row w0_0 (by omega))
  clear hy0_0 w0_0
  obtain ⟨W0, hW0⟩ : ∃ x, x = (w.alloc (Obj.cells #[.int .i64 i0_0, .int .i64 i0_1, .slice a0_0 len0_0 cap0_0] 24)) := ⟨_, rfl⟩
  have HB0 : Hid (Below w.heap.size w W0) := Lib.hid (by rw [hW0]; exact ((Below.refl w.heap.size w).alloc (Nat.le_refl _) _))
  have K0 : Hid (Cels W0 (w.heap.size) 24 [.int .i64 i0_0, .int .i64 i0_1, .slice a0_0 len0_0 cap0_0]) := Lib.hid (by rw [hW0]; have h := (Cels.new w 24 [.int .i64 i0_0, .int .i64 i0_1, .slice a0_0 len0_0 cap0_0]); first | exact h | (simp only [World.size_alloc] at h; exact h))
  have AK0 : Hid (w.heap.size < W0.heap.size) := Lib.hid K0.out.lt
  have HW0 := Lib.hid hW0.symm
  clear hW0
  have HL0_0 := Lib.hid hl0_0
  clear hl0_0
  replace R0_0 := Lib.hid (R0_0.out.below HB0.out (Nat.le_refl _))
  have HN := Lib.hid (hnr.below HB0.out (Nat.le_refl _))
  clear hnr
  go_enter Tryd.func3, Tryd.ntmps3
  go_wp2_with fail
  rw [HW0.out]
  have HT : Hid (Below W0.heap.size W0 W0) := Lib.hid (Below.refl _ _)
  refine (szMach i0_0 i0_1 _ _ _ _ (by have := HL0_0.out; omega) HL0_0.out hn0_0 hz0_0).mono ?_
  rintro e vz0 ⟨rfl, bz⟩
  replace K0 := Lib.hid (K0.out.below bz K0.out.lt)
  replace HT := Lib.hid (HT.out.trans (bz.mono HT.out.size))
  clear bz
  clear HL0_0 hn0_0 hz0_0
  have zzK0_0 := K0.out.cell 0 rfl
  have zzK0_1 := K0.out.cell 1 rfl
  have zzK0_2 := K0.out.cell 2 rfl
  go_wp2_with fail
  refine (toMach i0_0 i0_1 _ y0_0 _ (R0_0.out.below HT.out (Nat.le_refl _))).mono ?_
  rintro e v1 ⟨us0_0, rfl, os0_0, b1⟩
  have Ls0_0 := Lib.hid HT.out.size
  replace K0 := Lib.hid (K0.out.below b1 K0.out.lt)
  replace HT := Lib.hid (HT.out.trans (b1.mono HT.out.size))
  have Xs0_0 := Lib.hid os0_0
  obtain ⟨gas0_0, gcs0_0, hus0_0⟩ := os0_0.shape
  subst hus0_0
  clear os0_0
  clear b1
  clear zzK0_0 zzK0_1 zzK0_2
  go_wp2_with fail
  refine (specMcText i0_0 i0_1 _ y0_0 _ Xs0_0.out.rd).mono ?_
  rintro e v2 ⟨rfl, b2⟩
  obtain ⟨txt, htxt⟩ : ∃ x, x = bs (mtV i0_0 i0_1 y0_0) := ⟨_, rfl⟩
  have HTxt := Lib.hid htxt
  rw [← htxt]
  clear htxt
  replace Xs0_0 := Lib.hid (Xs0_0.out.below b2 Xs0_0.out.size)
  replace K0 := Lib.hid (K0.out.below b2 K0.out.lt)
  replace HT := Lib.hid (HT.out.trans (b2.mono HT.out.size))
  clear b2
  clear Xs0_0
  have zzK0_0 := K0.out.cell 0 rfl
  have zzK0_1 := K0.out.cell 1 rfl
  have zzK0_2 := K0.out.cell 2 rfl
  go_wp2_with fail
  refine (toMach i0_0 i0_1 _ y0_0 _ (R0_0.out.below HT.out (Nat.le_refl _))).mono ?_
  rintro e v3 ⟨ux0_0, rfl, ox0_0, b3⟩
  have Lx0_0 := Lib.hid HT.out.size
  replace K0 := Lib.hid (K0.out.below b3 K0.out.lt)
  replace HT := Lib.hid (HT.out.trans (b3.mono HT.out.size))
  have Xx0_0 := Lib.hid ox0_0
  obtain ⟨gax0_0, gcx0_0, hux0_0⟩ := ox0_0.shape
  subst hux0_0
  clear ox0_0
  clear b3
  have q1 : Below v3.heap.size v3 (v3.alloc (Obj.cells #[.int .i64 i0_0, .int .i64 i0_1, .slice gax0_0 y0_0.length gcx0_0] 29)) := (Below.refl _ _).alloc (Nat.le_refl _) _
  have Kx0 : Hid (Cels (v3.alloc (Obj.cells #[.int .i64 i0_0, .int .i64 i0_1, .slice gax0_0 y0_0.length gcx0_0] 29)) v3.heap.size 29 [.int .i64 i0_0, .int .i64 i0_1, .slice gax0_0 y0_0.length gcx0_0]) := Lib.hid (Cels.new _ _ _)
  have NKx0_x0_0 := Lib.hid (fun q (hq : _ = some q) => Nat.lt_of_lt_of_le (Xx0_0.out.top q hq) Xx0_0.out.size)
  replace Xx0_0 := Lib.hid (Xx0_0.out.below q1 Xx0_0.out.size)
  replace K0 := Lib.hid (K0.out.below q1 K0.out.lt)
  replace HT := Lib.hid (HT.out.trans (q1.mono HT.out.size))
  clear q1
  clear zzK0_0 zzK0_1 zzK0_2
  have zzKx0_0 := Kx0.out.cell 0 rfl
  have zzKx0_1 := Kx0.out.cell 1 rfl
  have zzKx0_2 := Kx0.out.cell 2 rfl
  go_wp2_with fail
  refine (implMcText i0_0 i0_1 _ y0_0 _ Xx0_0.out.rd (HN.out.below HT.out (Nat.le_refl _)) (HTab.out.below (HB0.out.trans (HT.out.mono HB0.out.size)) (Nat.le_refl _))).mono ?_
  rintro e v4 ⟨rfl, b4⟩
  rw [← HTxt.out]
  have etxt : (txt.toList == txt.toList) = true := by simp
  replace Xx0_0 := Lib.hid (Xx0_0.out.below b4 Xx0_0.out.size)
  replace K0 := Lib.hid (K0.out.below b4 K0.out.lt)
  replace Kx0 := Lib.hid (Kx0.out.below b4 Kx0.out.lt)
  replace HT := Lib.hid (HT.out.trans (b4.mono HT.out.size))
  clear b4
  clear zzKx0_0 zzKx0_1 zzKx0_2
  go_wp2_with fail
  have HS5 : Hid (∀ W', Below v4.heap.size v4 W' → W'.cell? ⟨v3.heap.size, 0, none⟩ = some (.int .i64 i0_0) ∧ W'.cell? ⟨v3.heap.size, 1, none⟩ = some (.int .i64 i0_1) ∧ W'.cell? ⟨v3.heap.size, 2, none⟩ = some (.slice gax0_0 y0_0.length gcx0_0) ∧ W'.cell? ⟨w.heap.size, 0, none⟩ = some (.int .i64 i0_0) ∧ W'.cell? ⟨w.heap.size, 1, none⟩ = some (.int .i64 i0_1) ∧ W'.cell? ⟨w.heap.size, 2, none⟩ = some (.slice a0_0 len0_0 cap0_0)) := Lib.hid (fun W' hW' => ⟨(Kx0.out.below hW' Kx0.out.lt).cell 0 rfl, (Kx0.out.below hW' Kx0.out.lt).cell 1 rfl, (Kx0.out.below hW' Kx0.out.lt).cell 2 rfl, (K0.out.below hW' K0.out.lt).cell 0 rfl, (K0.out.below hW' K0.out.lt).cell 1 rfl, (K0.out.below hW' K0.out.lt).cell 2 rfl⟩)
  have bd : Below v4.heap.size v4 v4.drew := (Below.refl _ _).drew
  have HD := Lib.hid bd
  replace Xx0_0 := Lib.hid (Xx0_0.out.below bd Xx0_0.out.size)
  replace K0 := Lib.hid (K0.out.below bd K0.out.lt)
  replace Kx0 := Lib.hid (Kx0.out.below bd Kx0.out.lt)
  replace HT := Lib.hid (HT.out.trans (bd.mono HT.out.size))
  clear bd
  go_region_held3 (fun w' => w'.cell? ⟨v3.heap.size, 0, none⟩ = some (.int .i64 i0_0) ∧ w'.cell? ⟨v3.heap.size, 1, none⟩ = some (.int .i64 i0_1) ∧ w'.cell? ⟨v3.heap.size, 2, none⟩ = some (.slice gax0_0 y0_0.length gcx0_0) ∧ w'.cell? ⟨w.heap.size, 0, none⟩ = some (.int .i64 i0_0) ∧ w'.cell? ⟨w.heap.size, 1, none⟩ = some (.int .i64 i0_1) ∧ w'.cell? ⟨w.heap.size, 2, none⟩ = some (.slice a0_0 len0_0 cap0_0)) (exact HS5.out _ HD.out) (first | (go_at_call 9; with_reducible refine (toMach i0_0 i0_1 _ y0_0 _ (R0_0.out.below HT.out (Nat.le_refl _))).mono ?_; rintro e w5 ⟨uc0_0, rfl, oc0_0, bq⟩; replace HD := Lib.hid (HD.out.trans (bq.mono HD.out.size)); have Sx0_0_c0_0 := Lib.hid (sep_of Xx0_0.out.top oc0_0.row.lt Xx0_0.out.size); have Lc0_0 := Lib.hid HT.out.size; replace Xx0_0 := Lib.hid (Xx0_0.out.below bq Xx0_0.out.size); replace K0 := Lib.hid (K0.out.below bq K0.out.lt); replace Kx0 := Lib.hid (Kx0.out.below bq Kx0.out.lt); replace HT := Lib.hid (HT.out.trans (bq.mono HT.out.size)); have Xc0_0 := Lib.hid oc0_0; obtain ⟨gac0_0, gcc0_0, huc0_0⟩ := oc0_0.shape; subst huc0_0; clear oc0_0; clear bq) | (go_at_call 11; with_reducible refine (eqMach _ _ _ _ _ _ Xx0_0.out.rd Xc0_0.out.rd).mono ?_; rintro e w5 ⟨rfl, bq⟩; replace HD := Lib.hid (HD.out.trans (bq.mono HD.out.size)); replace Xx0_0 := Lib.hid (Xx0_0.out.below bq Xx0_0.out.size); replace Xc0_0 := Lib.hid (Xc0_0.out.below bq Xc0_0.out.size); replace K0 := Lib.hid (K0.out.below bq K0.out.lt); replace Kx0 := Lib.hid (Kx0.out.below bq Kx0.out.lt); replace HT := Lib.hid (HT.out.trans (bq.mono HT.out.size)); clear bq))
  clear Xc0_0
  go_wp2
  go_ret
  exact ⟨rfl, HB0.out.trans (HT.out.mono HB0.out.size)⟩

set_option maxRecDepth 100000 in
theorem lifted (os : Os) (started : os.Started) (H : Type) (enc : TypeId × Value → H) :
    ReturnsInHanded {} Tryd.checked os 3 .any (fun w args => (Rows.fnExactMachineTextSpec.pre enc Tryd.prog Tryd.f3 [] false w args ∧ laidMetH Tryd.prog Rows.fnExactMachineTextRow.laid w) ∧ sizedMet enc Tryd.prog Tryd.f3 (OpenSpec.ofChange Rows.fnExactMachineTextSpec) false w args) (Rows.fnExactMachineTextSpec.post enc Tryd.prog Tryd.f3 false true false false) := by
  refine returnsInHanded_of_change_and (C := Tryd.checked) (X := fun w _ => laidMetH Tryd.prog Rows.fnExactMachineTextRow.laid w) (fun _ _ _ hh h => h.of_heap hh) own started (by kernel_rfl) Tryd.func3
    (ChangeSpec.witness_shaped (enc := enc) (C := Tryd.checked) (os := os) (X := fun w _ => laidMetH Tryd.prog Rows.fnExactMachineTextRow.laid w) false (World.laidAll Tryd.prog os Rows.fnExactMachineTextRow.laid) #[.agg #[.int .i64 0, .int .i64 0, .slice none 0 0]] 8 (World.laidAll_os _ _ _) (World.shaped_of_ZipB (by kernel_rfl) (by kernel_rfl)) (by kernel_rfl) (by kernel_rfl) (by kernel_rfl)
      (by rw [MakeChecks.laidMetH_plain _ _ _ (by kernel_rfl)]; exact laidMet_laidAll _ (by kernel_rfl) (by kernel_rfl))) ?_
  intro W base args ds gs before hval0 hW _ _ hL _
  have hval : ∀ (j : Nat) t v, Tryd.f3.params[j]? = some t → args[j]? = some v → Value.okWide Tryd.prog W .any base t v := hval0
  have hW' := hW
  obtain ⟨p, q, hA0, hV, rfl, hfz, hnd⟩ := hW
  have hA : DataW.TrodAll enc Tryd.prog W 0 (fun _ => true) true Tryd.f3.params.toList args.toList ds p := hA0
  rw [Tryd.params3] at hA hval
  obtain ⟨v0, vs0, d0, ds0, p0, q0, hargs, rfl, rfl, h0, r0⟩ := trodAll_cons hA
  obtain ⟨rfl, rfl, rfl⟩ := trodAll_nil r0
  obtain rfl : args = #[v0] := by cases args; simp_all
  have hV1 : DataW.TrodVars enc Tryd.prog W (fun _ => true) Rows.fnExactMachineTextSpec.vars gs q := hV
  have k0 := h0
  have lt0 : ∀ x ∈ p0, x.block < W.heap.size := by obtain ⟨m, hm⟩ := k0; exact DataW.trod_lt m _ _ _ hm
  obtain ⟨c0_0, c0_1, c0_2, y0_0, y0_1, y0_2, n0, rfl, _, _, t0_0, t0_1, t0_2⟩ := Go.Joins.open_agg3 Tryd.underlying24 (by kernel_rfl) (by kernel_rfl) (hval 0 24 v0 rfl rfl) h0
  obtain ⟨i0_0, e0_0, _, j0_0⟩ := DataW.trod_int Tryd.underlying2 t0_0
  simp only [List.cons.injEq, and_true] at e0_0
  subst e0_0
  obtain ⟨i0_1, e0_1, _, j0_1⟩ := DataW.trod_int Tryd.underlying2 t0_1
  simp only [List.cons.injEq, and_true] at e0_1
  subst e0_1
  obtain ⟨a0_0, len0_0, cap0_0, z0_0, e0_0, w0_0⟩ := open_rules t0_2
  simp only [List.cons.injEq, and_true] at e0_0
  subst e0_0
  clear hA0 hval0
  obtain ⟨gv, rfl⟩ : ∃ x, gs = [x] := by
    obtain ⟨_, _, _, _, x, _, rfl, _⟩ := trodVars_one (show DataW.TrodVars enc Tryd.prog W (fun _ => true) ["loop.example/g01079/impl.noRule"] gs q from hV1)
    exact ⟨x, rfl⟩
  refine (walk i0_0 i0_1 a0_0 len0_0 cap0_0 z0_0 W j0_0 j0_1 w0_0 (noR_of_laid4 hL) (tabV_of_laid4 hL)).mono fun e W' ⟨he, bel⟩ => ?_
  subst he
  exact ⟨_, rfl, _, _, _, [], _, q, hW', trodAll_mk1 (shut_bool Tryd.underlying4 _), (trodAll_cons_mk (Below.trod laidOut (by kernel_rfl) (of_decide_eq_true (by kernel_rfl)) k0 bel lt0) trodAll_mk0), bel.trodVars laidOut (by kernel_rfl) hV1, bel.frame _, fun h => by cases h⟩

theorem over : Rows.fnExactMachineTextRow.holds Tryd.pinned (OpenSpec.ofChange Rows.fnExactMachineTextSpec) :=
  OpenClaim.holds_of_wide 3 Tryd.f3 rfl rfl rfl rfl rfl rfl rfl ⟨rfl, rfl, rfl, rfl, rfl⟩ rfl rfl rfl rfl rfl (by kernel_rfl) Tryd.func3 (by kernel_rfl)
    (of_decide_eq_true (by kernel_rfl)) (by unfold Func.isWrapper; first | (rw [if_pos (by decide +kernel)]; kernel_rfl) | (rw [if_neg (by decide +kernel)]; exact ⟨rfl, rfl⟩))
    (fun os started H enc _ => lifted os started H enc)

/-- The statement: the tied card. -/
theorem proved : Rows.FnExactMachineTextCardSaid :=
  Claim7.holds_tied_plain_at .later [] [.data, .data, .data, .data] true (true, "0bff7f4c540059c54cc4c1985054ae9494e53be26d74328d60002052a3a173d2") true over (fun _ h => by cases h) (by kernel_rfl) (fun _ h => by cases h) fnExactMachineText_row_tie rfl ⟨rfl, rfl⟩ (by kernel_rfl) rfl
    (fun f fn hf hfn => by
      obtain rfl : f = 3 := Option.some.inj ((show Tryd.prog.funcNamed "loop.example/g01079/laws.FnExactMachineText" = some 3 by kernel_rfl).symm.trans hf) |>.symm
      obtain rfl : fn = Tryd.f3 := (Option.some.inj (Tryd.func3.symm.trans hfn)).symm
      exact ⟨by kernel_rfl, fun j t ht => by
        rw [Tryd.params3] at ht
        have hm : t ∈ [24] := by simpa using Array.mem_of_getElem? ht
        have hall : ([24].all fun u => !Tryd.prog.wantsStandIn u) = true := by kernel_rfl
        exact (show Tryd.prog.wantsStandIn t = false by simpa using List.all_eq_true.1 hall t hm)⟩)
    (by kernel_rfl)
#print axioms proved
end Go.Proofs.YtmbojhlcmgknbaaDoor.fnExactMachineText
