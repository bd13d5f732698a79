/- Contracts of MirrorMachine, of the model and of the program. -/
import Derived.Test.YtmgogbcipdjddaaDoorHeld
import Derived.Test.YtmgogbcipdjddaaDoorTurI
namespace Go.Proofs.YtmgogbcipdjddaaDoor.Ints
open Go.RowKit
set_option linter.unusedVariables false
set_option linter.unusedSimpArgs false
/-- Rules appended to a new row, in a region. -/
theorem step_append_rules {w : World} {ops : Array Oper} {o : Oper} {a : Act} {K : Act → World → Prop} {Q : Exit → Act → World → Prop} {E : Prop} (hgd : o.guard = none) (s x : Operand)
    (ho : o.op = .call { callee := .builtin .append, args := #[s, x], argTypes := #[31, 31] })
    (base : Nat) (v u : Value) (ys : List Ru) (hs : a.eval s = v) (hown : w.ownsRow base 59 3 v 0 []) (hx : a.eval x = u) (hu : RdR w u ys) (hbase : base ≤ w.heap.size)
    (h : ∀ v' w', w'.ownsRow base 59 3 v' ys.length (rcs ys) → w.grownBy w' v.ownBlock → K (a.put o.dst v') w') :
    if Region.wanted o (yielded ops a.tmps) = true then Oper.wp Tryd.prog o a w K Q else E := by
  have hw : Region.wanted o (yielded ops a.tmps) = true := by simp [Region.wanted, hgd]
  rw [if_pos hw]
  obtain ⟨i0, hi, hz0, hz1, hz2⟩ := info_parts infoR
  have HU := hu
  obtain ⟨hl, hf, ad, c, rfl, hcap, hr⟩ := hu
  cases ad with
  | some ad =>
    exact wp_append_own w s x 31 ho base 59 i0 (.agg #[.int .i64 0, .int .i64 0, .int .i64 0]) 3 24 Tryd.underlying31 hi hz0 hz1 hz2 rfl (by decide) v 0 [] hs hown ad ys.length c (rcs ys) hx (by simp) (HU.cells (Below.refl _ _)).2.2 (rcs_oneCell ys)
      (by unfold maxLen; omega) (by omega) hbase (fun v' w' h1 h2 _ => h v' w' (by simpa using h1) h2)
  | none =>
    obtain rfl : ys = [] := by
      cases ys with
      | nil => rfl
      | cons z zs => obtain ⟨b, o, h, _⟩ := hr (by simp); cases h
    have hfin := h v w (by simpa using hown) (grown_refl _ _)
    obtain ⟨ao, cp, rfl⟩ := ownsRow_shape hown
    have hrun := run_append_nothing w 31 31 o.type 59 i0 Tryd.underlying31 hi ao 0 cp (Nat.zero_le _) (.slice none 0 c) (Src.ofNil w Tryd.underlying31 c)
    unfold Oper.wp
    simp [execOp, ho, resolve, invoke, builtin, hs, hx, hrun, Result.andThen]
    exact hfin
set_option maxRecDepth 100000 in
set_option maxHeartbeats 4000000 in
theorem specOwnM (g : Nat) (sy st : Int) (v : Value) (rs : List Ru) (w : World) (hv : RdR w v rs)
    (a0 : w.cell? ⟨g, 0, none⟩ = some (.int .i64 sy)) (a1 : w.cell? ⟨g, 1, none⟩ = some (.int .i64 st)) (a2 : w.cell? ⟨g, 2, none⟩ = some v) :
    Calls Tryd.prog 78 #[.pointer (some ⟨g, 0, none⟩)] w fun e w' => ∃ u, e = .returned (.agg #[.int .i64 sy, .int .i64 st, u]) ∧ OwR w' w.heap.size w'.heap.size u rs ∧ Below w.heap.size w w' := by
  have HV := Lib.hid hv
  obtain ⟨hl, hf, a, c, rfl, _, _⟩ := hv
  have HF := Lib.hid hf
  have hg := World.block_lt_of_cell? w _ a0
  obtain ⟨W0, hW0⟩ : ∃ W, W = w.alloc (Obj.cells #[.int .i64 0, .int .i64 0, .slice none 0 0] 33) := ⟨_, rfl⟩
  have K0 : Hid (Cels W0 w.heap.size 33 [.int .i64 0, .int .i64 0, .slice none 0 0]) := Lib.hid (by rw [hW0]; exact Cels.new _ _ _)
  have HB0 : Hid (Below w.heap.size w W0) := Lib.hid (by rw [hW0]; exact (Below.refl _ _).alloc (Nat.le_refl _) _)
  have hs0 : W0.heap.size = w.heap.size + 1 := by rw [hW0]; simp
  have HS0 := Lib.hid hs0
  have HW0 := Lib.hid hW0.symm
  have HS : Hid (∀ W, Below w.heap.size w W → W.cell? ⟨g, 0, none⟩ = some (.int .i64 sy) ∧ W.cell? ⟨g, 1, none⟩ = some (.int .i64 st) ∧ W.cell? ⟨g, 2, none⟩ = some (.slice a rs.length c)) := Lib.hid (fun W hb => 
    ⟨(hb.cell (p := ⟨g, 0, none⟩) hg).trans a0, (hb.cell (p := ⟨g, 1, none⟩) hg).trans a1, (hb.cell (p := ⟨g, 2, none⟩) hg).trans a2⟩)
  clear hW0 a0 a1 a2 hf hs0
  go_enter Tryd.func78, Tryd.ntmps78
  go_wp2_with fail
  rw [HW0.out]
  have HD : Hid (Below W0.heap.size W0 W0.drew) := Lib.hid (Below.refl _ _).drew
  have HDA : Hid (Below W0.heap.size W0 (W0.drew.alloc (Obj.cells #[] 59))) := Lib.hid (HD.out.alloc (Nat.le_refl _) _)
  have HZ : Hid (∀ W, Below W0.heap.size W0 W → Below w.heap.size w W) := Lib.hid (fun W h => HB0.out.trans (h.mono HB0.out.size))
  go_region_held3 (fun W => W.cell? ⟨g, 0, none⟩ = some (.int .i64 sy) ∧ W.cell? ⟨g, 1, none⟩ = some (.int .i64 st) ∧ W.cell? ⟨g, 2, none⟩ = some (.slice a rs.length c)) (first | exact HS.out _ (HZ.out _ HD.out) | exact HS.out _ (HZ.out _ HDA.out) | exact HS.out _ (below_set (HZ.out _ HD.out) (Nat.le_refl _) _ _) | exact HS.out _ (below_set (below_set (HZ.out _ HD.out) (Nat.le_refl _) _ _) (Nat.le_refl _) _ _) | exact HS.out _ (below_set (below_set (below_set (HZ.out _ HD.out) (Nat.le_refl _) _ _) (Nat.le_refl _) _ _) (Nat.le_refl _) _ _))
    (first
      | (refine step_append_rules (by rfl) _ _ (by rfl) W0.heap.size _ _ rs (by rfl) (World.ownsRow_made W0.drew #[] 0 (Nat.le_refl _) (by unfold maxLen; omega) (by simp)) (by rfl) (HV.out.below (HB0.out.trans (HDA.out.mono HB0.out.size)) (Nat.le_refl _)) HDA.out.size ?_; intro v' w4 hown4 hgrow4; obtain ⟨ga, gc, hv'⟩ := ownsRow_shape hown4; subst hv'; have HX := Lib.hid (HDA.out.grown hgrow4 HDA.out.size (fun k hk => by cases hk; exact Nat.le_refl _)); have HO4 := Lib.hid hown4; have K4 := Lib.hid (K0.out.below HX.out K0.out.lt); replace HD := HX; have HF3 := Lib.hid (put3 K4.out (.int .i64 sy) (.int .i64 st) (.slice ga rs.length gc)); obtain ⟨f1, f2, f3, f4, f5, f6, f7⟩ := HF3.out; clear hown4 hgrow4))
  have HD2 := HZ.out _ HD.out
  have hO : OwR w4 W0.heap.size w4.heap.size (.slice ga rs.length gc) rs := ⟨hl, HF.out, HO4.out, fun k hk => (HO4.out.lt k hk).2, Nat.le_refl _, HD.out.size⟩
  have hs0 := HS0.out
  obtain ⟨W, hW⟩ : ∃ W, W = ((w4.setCell ⟨w.heap.size, 0, none⟩ (.int .i64 sy)).setCell ⟨w.heap.size, 1, none⟩ (.int .i64 st)).setCell ⟨w.heap.size, 2, none⟩ (.slice ga rs.length gc) := ⟨_, rfl⟩
  have hB : Below w.heap.size w W ∧ OwR W W0.heap.size W.heap.size (.slice ga rs.length gc) rs := by
    rw [hW]
    exact ⟨below_set (below_set (below_set HD2 (Nat.le_refl _) _ _) (Nat.le_refl _) _ _) (Nat.le_refl _) _ _,
      (((hO.apartCell (by omega) _ _).apartCell (by omega) _ _).apartCell (by omega) _ _).up⟩
  rw [← hW] at f7 ⊢
  have z0 := f7.cell 0 rfl
  have z1 := f7.cell 1 rfl
  have z2 := f7.cell 2 rfl
  clear f1 f2 f3 f4 f5 f6 hW
  rename_i hk _
  refine hk _ _ ?_
  go_wp2
  refine bodyPost_ret (v := .agg #[.int .i64 sy, .int .i64 st, .slice ga rs.length gc]) (by simp [results, Tryd.f78, go_sem, z0, z1, z2]) rfl ⟨_, rfl, hB.2.mono (by omega) (Nat.le_refl _) (Nat.le_refl _), hB.1⟩
end Go.Proofs.YtmgogbcipdjddaaDoor.Ints
