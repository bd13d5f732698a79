/-   for all lists the program's RootNatural answers as its model, root and code, leaves its argument alone, and its answer is memory of its own. No condition. -/
import Derived.Test.YtfnopnaaahkklaaRows
import Derived.WalkKit
import Derived.ProofKit
import Derived.OpenShut
import Derived.ShutString
import Derived.ChangeOld
import Derived.Below
import Derived.Handy
import Derived.Lib.Hide
import Derived.Test.YtfnopnaaahkklaaRtI
namespace Go.Proofs.Ytfnopnaaahkklaa.fnExactRootNatural
open Go.ChangeShapes Go.WideShapes Go.ChangeAt Go.RowKit
open Go.ChangeMaps (open_string shut_string)
set_option linter.unusedVariables false

theorem own : ownKnob Try.prog.godebug = none := by kernel_rfl
theorem laidOut : laidOutB Try.prog = true := by kernel_rfl

/-- WHAT THE WALK IS TOLD OF A SLICE OF INTEGERS THAT CAME IN: it is nil; or it leads to a row of 'cap' cells, the numbers 'zs' (the first 'len' are its elements, the rest its spare room), each fitting its kind. -/
def IsRow (k : IntKind) (w : World) (a : Option Addr) (len cap : Nat) (zs : List Int) : Prop :=
  (a = none ∧ len = 0 ∧ cap = 0 ∧ zs = []) ∨
  ∃ x, a = some x ∧ len ≤ cap ∧ cap ≤ maxLen ∧ zs.length = cap ∧ (∀ i, i < zs.length → w.cell? (x.add i) = some (.int k (zs.getD i 0))) ∧ ∀ n ∈ zs, (Lit.int k n).wf = true

open Ints

set_option maxHeartbeats 4000000 in
theorem walk (a0 : Option Addr) (len0 cap0 : Nat) (z0 : List Int) (w : World) (w0 : IsRow .i64 w a0 len0 cap0 z0) :
    Calls Try.prog 5 #[.slice a0 len0 cap0] w fun e w' => e = .returned (.bool true) ∧ Below w.heap.size w w' := by
  by_cases hb0 : len0 ≤ 1048576
  rotate_left
  · have hc0 : (1048576 : Int) < (len0 : Int) := by omega
    go_enter Try.func5, Try.ntmps5
    go_wp2
    go_ret
    exact ⟨rfl, Below.refl _ _⟩
  have hd0 : ¬ (1048576 : Int) < (len0 : Int) := by omega
  obtain ⟨y0, hy0⟩ : ∃ y, y = z0.take len0 := ⟨_, rfl⟩
  have R0 : Hid (Rd w (.slice a0 len0 cap0) y0) := Lib.hid (by rw [hy0]; exact rd_of_row w0 hb0)
  clear hy0 w0 hb0
  have HT : Hid (Below w.heap.size w w) := Lib.hid (Below.refl _ _)
  go_enter Try.func5, Try.ntmps5
  have Ls0 := Lib.hid HT.out.size
  go_wp2_with fail
  refine (toInts _ y0 _ (R0.out.below HT.out (Nat.le_refl _))).mono ?_
  rintro e v1 ⟨us0, rfl, os0, b1⟩
  replace HT := Lib.hid (HT.out.trans (b1.mono HT.out.size))
  have Xs0 := Lib.hid os0
  clear os0
  clear b1
  have Lw0 := Lib.hid HT.out.size
  have Tw0_s0 := Lib.hid Xs0.out.size
  go_wp2_with fail
  refine (specRootNatural _ y0 _ Xs0.out.rd).mono ?_
  rintro e v2 ⟨uw0, rfl, ow0, b2⟩
  replace Xs0 := Lib.hid (Xs0.out.below b2 Xs0.out.size)
  replace HT := Lib.hid (HT.out.trans (b2.mono HT.out.size))
  have Xw0 := Lib.hid ow0
  clear ow0
  clear b2
  have Lx0 := Lib.hid HT.out.size
  have Tx0_s0 := Lib.hid Xs0.out.size
  have Tx0_w0 := Lib.hid Xw0.out.size
  go_wp2_with fail
  refine (toInts _ y0 _ (R0.out.below HT.out (Nat.le_refl _))).mono ?_
  rintro e v3 ⟨ux0, rfl, ox0, b3⟩
  replace Xs0 := Lib.hid (Xs0.out.below b3 Xs0.out.size)
  replace Xw0 := Lib.hid (Xw0.out.below b3 Xw0.out.size)
  replace HT := Lib.hid (HT.out.trans (b3.mono HT.out.size))
  have Xx0 := Lib.hid ox0
  clear ox0
  clear b3
  have Lg0 := Lib.hid HT.out.size
  have Tg0_s0 := Lib.hid Xs0.out.size
  have Tg0_w0 := Lib.hid Xw0.out.size
  have Tg0_x0 := Lib.hid Xx0.out.size
  go_wp2_with fail
  refine (implRootNatural _ y0 _ Xx0.out.rd).mono ?_
  rintro e v4 ⟨ug0, rfl, og0, b4⟩
  replace Xs0 := Lib.hid (Xs0.out.below b4 Xs0.out.size)
  replace Xw0 := Lib.hid (Xw0.out.below b4 Xw0.out.size)
  replace Xx0 := Lib.hid (Xx0.out.below b4 Xx0.out.size)
  replace HT := Lib.hid (HT.out.trans (b4.mono HT.out.size))
  have Xg0 := Lib.hid og0
  clear og0
  clear b4
  go_wp2_with fail
  refine (eqInts _ _ _ _ Xg0.out.rd Xw0.out.rd).mono ?_
  rintro e v5 ⟨rfl, b5⟩
  replace Xs0 := Lib.hid (Xs0.out.below b5 Xs0.out.size)
  replace Xw0 := Lib.hid (Xw0.out.below b5 Xw0.out.size)
  replace Xx0 := Lib.hid (Xx0.out.below b5 Xx0.out.size)
  replace Xg0 := Lib.hid (Xg0.out.below b5 Xg0.out.size)
  replace HT := Lib.hid (HT.out.trans (b5.mono HT.out.size))
  clear b5
  have Lc0 := Lib.hid HT.out.size
  have Tc0_s0 := Lib.hid Xs0.out.size
  have Tc0_w0 := Lib.hid Xw0.out.size
  have Tc0_x0 := Lib.hid Xx0.out.size
  have Tc0_g0 := Lib.hid Xg0.out.size
  go_wp2_with fail
  refine (toInts _ y0 _ (R0.out.below HT.out (Nat.le_refl _))).mono ?_
  rintro e v6 ⟨uc0, rfl, oc0, b6⟩
  replace Xs0 := Lib.hid (Xs0.out.below b6 Xs0.out.size)
  replace Xw0 := Lib.hid (Xw0.out.below b6 Xw0.out.size)
  replace Xx0 := Lib.hid (Xx0.out.below b6 Xx0.out.size)
  replace Xg0 := Lib.hid (Xg0.out.below b6 Xg0.out.size)
  replace HT := Lib.hid (HT.out.trans (b6.mono HT.out.size))
  have Xc0 := Lib.hid oc0
  clear oc0
  clear b6
  go_wp2_with fail
  refine (eqInts _ _ _ _ Xx0.out.rd Xc0.out.rd).mono ?_
  rintro e v7 ⟨rfl, b7⟩
  replace Xs0 := Lib.hid (Xs0.out.below b7 Xs0.out.size)
  replace Xw0 := Lib.hid (Xw0.out.below b7 Xw0.out.size)
  replace Xx0 := Lib.hid (Xx0.out.below b7 Xx0.out.size)
  replace Xg0 := Lib.hid (Xg0.out.below b7 Xg0.out.size)
  replace Xc0 := Lib.hid (Xc0.out.below b7 Xc0.out.size)
  replace HT := Lib.hid (HT.out.trans (b7.mono HT.out.size))
  clear b7
  clear Xs0
  clear Xc0
  have s8w0 := (Xw0.out.apart Xx0.out (by have := Tx0_w0.out; omega)).1
  have s8g0 := (Xx0.out.apart Xg0.out (by have := Tg0_x0.out; omega)).2
  go_wp2_with fail
  refine (markInts _ _ 1 _ _ _ Xx0.out (by have r0 := R0.out.len; omega) (by have r0 := R0.out.len; omega)).mono ?_
  rintro e v8 ⟨rfl, o8, g8⟩
  replace Xw0 := Lib.hid (Xw0.out.grown g8 s8w0)
  clear s8w0
  replace Xg0 := Lib.hid (Xg0.out.grown g8 s8g0)
  clear s8g0
  replace HT := Lib.hid (HT.out.trans ((grown_below Xx0.out g8).mono (by have := Lx0.out; omega)))
  replace Xx0 := Lib.hid o8
  clear o8 g8
  go_wp2_with fail
  refine (eqInts _ _ _ _ Xg0.out.rd Xw0.out.rd).mono ?_
  rintro e v9 ⟨rfl, b9⟩
  replace Xw0 := Lib.hid (Xw0.out.below b9 Xw0.out.size)
  replace Xx0 := Lib.hid (Xx0.out.below b9 Xx0.out.size)
  replace Xg0 := Lib.hid (Xg0.out.below b9 Xg0.out.size)
  replace HT := Lib.hid (HT.out.trans (b9.mono HT.out.size))
  clear b9
  clear Xx0
  have s10w0 := (Xw0.out.apart Xg0.out (by have := Tg0_w0.out; omega)).1
  go_wp2_with fail
  refine (markInts _ _ 1 _ _ _ Xg0.out (by have r0 := R0.out.len; omega) (by have r0 := R0.out.len; omega)).mono ?_
  rintro e v10 ⟨rfl, o10, g10⟩
  replace Xw0 := Lib.hid (Xw0.out.grown g10 s10w0)
  clear s10w0
  replace HT := Lib.hid (HT.out.trans ((grown_below Xg0.out g10).mono (by have := Lg0.out; omega)))
  replace Xg0 := Lib.hid o10
  clear o10 g10
  go_wp2_with fail
  refine (heldInts _ _ 1 _ Xg0.out.rd (by omega) (by omega)).mono ?_
  rintro e v11 ⟨rfl, rfl⟩
  have Ld0 := Lib.hid HT.out.size
  have Td0_w0 := Lib.hid Xw0.out.size
  have Td0_g0 := Lib.hid Xg0.out.size
  go_wp2_with fail
  refine (toInts _ y0 _ (R0.out.below HT.out (Nat.le_refl _))).mono ?_
  rintro e v12 ⟨ud0, rfl, od0, b12⟩
  replace Xw0 := Lib.hid (Xw0.out.below b12 Xw0.out.size)
  replace Xg0 := Lib.hid (Xg0.out.below b12 Xg0.out.size)
  replace HT := Lib.hid (HT.out.trans (b12.mono HT.out.size))
  have Xd0 := Lib.hid od0
  clear od0
  clear b12
  have Lh0 := Lib.hid HT.out.size
  have Th0_w0 := Lib.hid Xw0.out.size
  have Th0_g0 := Lib.hid Xg0.out.size
  have Th0_d0 := Lib.hid Xd0.out.size
  go_wp2_with fail
  refine (implRootNatural _ y0 _ Xd0.out.rd).mono ?_
  rintro e v13 ⟨uh0, rfl, oh0, b13⟩
  replace Xw0 := Lib.hid (Xw0.out.below b13 Xw0.out.size)
  replace Xg0 := Lib.hid (Xg0.out.below b13 Xg0.out.size)
  replace Xd0 := Lib.hid (Xd0.out.below b13 Xd0.out.size)
  replace HT := Lib.hid (HT.out.trans (b13.mono HT.out.size))
  have Xh0 := Lib.hid oh0
  clear oh0
  clear b13
  go_wp2_with fail
  refine (eqInts _ _ _ _ Xh0.out.rd Xw0.out.rd).mono ?_
  rintro e v14 ⟨rfl, b14⟩
  replace Xw0 := Lib.hid (Xw0.out.below b14 Xw0.out.size)
  replace Xg0 := Lib.hid (Xg0.out.below b14 Xg0.out.size)
  replace Xd0 := Lib.hid (Xd0.out.below b14 Xd0.out.size)
  replace Xh0 := Lib.hid (Xh0.out.below b14 Xh0.out.size)
  replace HT := Lib.hid (HT.out.trans (b14.mono HT.out.size))
  clear b14
  go_wp2_with fail
  refine (heldInts _ _ 1 _ Xg0.out.rd (by omega) (by omega)).mono ?_
  rintro e v15 ⟨rfl, rfl⟩
  go_wp2
  go_ret
  exact ⟨rfl, HT.out⟩

/-! ### THE ROW's STEP: WRITTEN OUT: LEAVE IT -/
set_option maxRecDepth 100000 in
theorem lifted (os : Os) (started : os.Started) (H : Type) (enc : TypeId × Value → H) :
    ReturnsInHanded {} Try.checked os 5 .any (Rows.fnExactRootNaturalSpec.pre6 enc Try.prog Try.f5 Rows.fnExactRootNaturalRow.domain false) (Rows.fnExactRootNaturalSpec.post enc Try.prog Try.f5 false true false false) := by
  refine returnsInHanded_of_change (C := Try.checked) own started (by kernel_rfl) Try.func5
    (ChangeSpec.witness6 (enc := enc) (C := Try.checked) false ⟨#[], #[.slice none 0 0], []⟩ 8 (by kernel_rfl) (by kernel_rfl) (by kernel_rfl) (by kernel_rfl)) ?_
  intro W base args ds gs before hval0 hW hcnd _
  have hval : ∀ (j : Nat) t v, Try.f5.params[j]? = some t → args[j]? = some v → Value.okWide Try.prog W .any base t v := hval0
  have hW' := hW
  obtain ⟨p, q, hA0, hV, rfl, hfz, hnd⟩ := hW
  have hA : DataW.TrodAll enc Try.prog W 0 (fun _ => true) true Try.f5.params.toList args.toList ds p := hA0
  rw [Try.params5] at hA hval
  obtain ⟨v0, vs0, d0, ds0, p0, q0, hargs, rfl, rfl, h0, r0⟩ := trodAll_cons hA
  obtain ⟨rfl, rfl, rfl⟩ := trodAll_nil r0
  obtain rfl : args = #[v0] := by cases args; simp_all
  obtain ⟨rfl, rfl⟩ := trodVars_none hV
  obtain ⟨a0, len0, cap0, rfl⟩ := okWide_slice Try.underlying22 (hval 0 22 v0 rfl rfl)
  have k0 := h0
  have lt0 : ∀ x ∈ p0, x.block < W.heap.size := by obtain ⟨m, hm⟩ := k0; exact DataW.trod_lt m _ _ _ hm
  obtain ⟨z0, w0⟩ : ∃ zs, IsRow .i64 W a0 len0 cap0 zs := by
    obtain ⟨fuel, hf⟩ := h0
    rcases open_ints Try.underlying22 Try.underlying2 (by kernel_rfl) hf with ⟨hcs, _⟩ | ⟨x, l, c, zs, hcs, _, hl, hm, hz, _, hcell, hwz⟩
    · simp [Value.cells] at hcs
      obtain ⟨rfl, rfl, rfl⟩ := hcs
      exact ⟨[], .inl ⟨rfl, rfl, rfl, rfl⟩⟩
    · simp [Value.cells] at hcs
      obtain ⟨rfl, rfl, rfl⟩ := hcs
      exact ⟨zs, .inr ⟨_, rfl, hl, hm, by simpa using hz, hcell, hwz⟩⟩
  clear hA0 hval0
  refine (walk a0 len0 cap0 z0 W w0).mono fun e W' ⟨he, bel⟩ => ?_
  subst he
  exact ⟨_, rfl, _, _, _, [], _, [], hW', trodAll_mk1 (shut_bool Try.underlying4 _), (trodAll_cons_mk (Below.trod laidOut (by kernel_rfl) (of_decide_eq_true (by kernel_rfl)) k0 bel lt0) trodAll_mk0), rfl, bel.frame _, fun h => by cases h⟩

theorem over : Rows.fnExactRootNaturalRow.holds Try.pinned (OpenSpec.ofChange Rows.fnExactRootNaturalSpec) :=
  OpenClaim.holds_of_wide 5 Try.f5 rfl rfl rfl rfl rfl rfl rfl ⟨rfl, rfl, rfl, rfl, rfl⟩ rfl rfl rfl rfl rfl (by kernel_rfl) Try.func5 (by kernel_rfl)
    (of_decide_eq_true (by kernel_rfl)) (by unfold Func.isWrapper; first | (rw [if_pos (by decide +kernel)]; kernel_rfl) | (rw [if_neg (by decide +kernel)]; exact ⟨rfl, rfl⟩))
    (fun os started H enc _ => lifted os started H enc)

/-- ████ THE STATEMENT ████ -/
theorem proved : Rows.FnExactRootNaturalSaid := over
#print axioms proved
end Go.Proofs.Ytfnopnaaahkklaa.fnExactRootNatural
