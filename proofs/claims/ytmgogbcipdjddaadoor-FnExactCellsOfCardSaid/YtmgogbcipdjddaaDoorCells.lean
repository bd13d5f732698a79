/- Contracts of CellsOf, of the model and of the program; marks on configurations. -/
import Derived.Test.YtmgogbcipdjddaaDoorSideV
import Derived.Test.YtmgogbcipdjddaaDoorRevI
import Derived.Test.YtmgogbcipdjddaaDoorMark
import Derived.Test.YtmgogbcipdjddaaDoorMarkC
namespace Go.Proofs.YtmgogbcipdjddaaDoor.Ints
open Go.RowKit
set_option linter.unusedVariables false
set_option linter.unusedSimpArgs false
/-- The cells in use. -/
def clL (ls rs : List Int) : List Int := ls.reverse ++ rs ++ (if rs = [] then [0] else [])
noncomputable def coL (sy st : Int) (ms : List Ru) (cst : Int) (ls rs : List Int) : List Int := if vcB sy st ms cst ls rs = true then clL ls rs else []
noncomputable def coA (sy st : Int) (ms : List Ru) (cst : Int) (ls rs : List Int) : Int := if vcB sy st ms cst ls rs = true then (ls.length : Int) else 0
noncomputable def coC (sy st : Int) (ms : List Ru) (cst : Int) (ls rs : List Int) : Int := if vcB sy st ms cst ls rs = true then 0 else 1
theorem co_bad {sy st : Int} {ms : List Ru} {cst : Int} {ls rs : List Int} (h : vcB sy st ms cst ls rs = false) : coL sy st ms cst ls rs = [] ∧ coA sy st ms cst ls rs = 0 ∧ coC sy st ms cst ls rs = 1 := by simp [coL, coA, coC, h]
theorem co_good {sy st : Int} {ms : List Ru} {cst : Int} {ls rs : List Int} (h : vcB sy st ms cst ls rs = true) : coL sy st ms cst ls rs = clL ls rs ∧ coA sy st ms cst ls rs = (ls.length : Int) ∧ coC sy st ms cst ls rs = 0 := by simp [coL, coA, coC, h]
set_option maxHeartbeats 4000000 in
theorem specCellsOf (sy st : Int) (v : Value) (ms : List Ru) (cst : Int) (u : Value) (ls : List Int) (u' : Value) (rs : List Int) (w : World) (hv : RdR w v ms) (hu : Rd w u ls) (hu' : Rd w u' rs) :
    Calls Tryd.prog 19 #[.agg #[.int .i64 sy, .int .i64 st, v], .agg #[.int .i64 cst, u, u']] w fun e w' => ∃ r, e = .returned (.tuple #[r, .int .i64 (coA sy st ms cst ls rs), .int .i64 (coC sy st ms cst ls rs)]) ∧ Ow w' w.heap.size w'.heap.size r (coL sy st ms cst ls rs) ∧ Below w.heap.size w w' := by
  have HV := Lib.hid hv
  have HU := Lib.hid hu
  have HU' := Lib.hid hu'
  obtain ⟨_, _, a, c, rfl, _, _⟩ := hv
  obtain ⟨_, _, a1, c1, rfl, _, _⟩ := hu
  obtain ⟨_, _, a2, c2, rfl, _, _⟩ := hu'
  obtain ⟨i0, hi, hz0, hz1, hz2⟩ := info_parts infoE
  obtain ⟨W0, hW0⟩ : ∃ W, W = (w.alloc (Obj.cells #[.int .i64 sy, .int .i64 st, .slice a ms.length c] 33)).alloc (Obj.cells #[.int .i64 cst, .slice a1 ls.length c1, .slice a2 rs.length c2] 35) := ⟨_, rfl⟩
  have HB : Hid (Below w.heap.size w W0) := Lib.hid (by rw [hW0]; exact ((Below.refl w.heap.size w).alloc (Nat.le_refl _) _).alloc (by simp) _)
  have K1 : Hid (Cels W0 w.heap.size 33 [.int .i64 sy, .int .i64 st, .slice a ms.length c]) := Lib.hid (by rw [hW0]; exact (Cels.new _ _ _).alloc _)
  have K2 : Hid (Cels W0 (w.heap.size + 1) 35 [.int .i64 cst, .slice a1 ls.length c1, .slice a2 rs.length c2]) := Lib.hid (by rw [hW0]; have h := Cels.new (w.alloc (Obj.cells #[.int .i64 sy, .int .i64 st, .slice a ms.length c] 33)) 35 [.int .i64 cst, .slice a1 ls.length c1, .slice a2 rs.length c2]; rw [World.size_alloc] at h; exact h)
  have HW0 := Lib.hid hW0.symm
  clear hW0
  obtain ⟨bm, hbm⟩ : ∃ b, b = machB sy st ms := ⟨_, rfl⟩
  have HM := Lib.hid hbm
  obtain ⟨bg, hbg⟩ : ∃ b, b = goodB sy st cst ls rs := ⟨_, rfl⟩
  have HG := Lib.hid hbg
  clear hbm hbg
  go_enter Tryd.func19, Tryd.ntmps19
  go_wp2_with fail
  rw [HW0.out]
  refine (specIs w.heap.size sy st _ ms _ (HV.out.below HB.out (Nat.le_refl _)) (K1.out.cell 0 rfl) (K1.out.cell 1 rfl) (K1.out.cell 2 rfl)).mono ?_
  rintro e w1 ⟨rfl, hb1⟩
  rw [← HM.out]
  replace K1 := Lib.hid (K1.out.below hb1 K1.out.lt)
  replace K2 := Lib.hid (K2.out.below hb1 K2.out.lt)
  have HB1 := Lib.hid (HB.out.trans (hb1.mono HB.out.size))
  clear hb1
  rcases eqOr bm with hb | hb
  · subst hb
    have e := Lib.hid (co_bad (sy := sy) (st := st) (ms := ms) (cst := cst) (ls := ls) (rs := rs) (by rw [vcB, ← HM.out]; rfl))
    go_wp2_with fail
    go_ret3
    exact ⟨_, by rw [e.out.2.1, e.out.2.2] <;> rfl, by rw [e.out.1]; exact Ow.emptyUp HB1.out.size, HB1.out⟩
  subst hb
  have hmo := machB_ok HM.out.symm
  have q0 := hmo.s0
  have q1 := hmo.s1
  have q2 := hmo.t0
  have q3 := hmo.t1
  clear hmo
  go_wp2_with fail
  refine (specGood w.heap.size (w.heap.size + 1) sy st cst _ _ ls rs _ (HU.out.below HB1.out (Nat.le_refl _)) (HU'.out.below HB1.out (Nat.le_refl _)) (K1.out.cell 0 rfl) (K1.out.cell 1 rfl) (K2.out.cell 0 rfl) (K2.out.cell 1 rfl) (K2.out.cell 2 rfl) (by omega) (by omega) (by omega) (by omega)).mono ?_
  rintro e2 w2 ⟨rfl, hb2⟩
  rw [← HG.out]
  replace K2 := Lib.hid (K2.out.below hb2 K2.out.lt)
  have HB2 := Lib.hid (HB1.out.trans (hb2.mono HB1.out.size))
  clear hb2
  rcases eqOr bg with hb | hb
  · subst hb
    have e := Lib.hid (co_bad (sy := sy) (st := st) (ms := ms) (cst := cst) (ls := ls) (rs := rs) (by rw [vcB, ← HM.out, ← HG.out]; rfl))
    go_wp2_with fail
    go_ret3
    exact ⟨_, by rw [e.out.2.1, e.out.2.2] <;> rfl, by rw [e.out.1]; exact Ow.emptyUp HB2.out.size, HB2.out⟩
  subst hb
  have hvc : vcB sy st ms cst ls rs = true := by rw [vcB, ← HM.out, ← HG.out]; rfl
  have e := Lib.hid (co_good hvc)
  obtain ⟨l1, l2⟩ := vc_small hvc
  have z1 := K2.out.cell 1 rfl
  clear hvc
  go_wp2_with fail
  refine (specRev _ ls _ (HU.out.below HB2.out (Nat.le_refl _))).mono ?_
  rintro e3 w3 ⟨r, rfl, ho, hb3⟩
  have hk2 := K2.out.lt
  have hkn : ∀ q, r.ownBlock = some q → q ≠ w.heap.size + 1 := fun q hq => by have := (ho.row.lt q hq).1; omega
  replace K2 := Lib.hid (K2.out.below hb3 K2.out.lt)
  have HB3 := Lib.hid (HB2.out.trans (hb3.mono HB2.out.size))
  have HO := Lib.hid (ho.mono HB2.out.size (Nat.le_refl _) (Nat.le_refl _))
  obtain ⟨gr, cr, hr⟩ := HO.out.shape
  obtain ⟨L, hL⟩ : ∃ L, L = ls.reverse := ⟨_, rfl⟩
  have HLl : Hid (L.length = ls.length) := Lib.hid (by rw [hL]; simp)
  have HLL := Lib.hid hL
  rw [← hL] at HO hr
  subst hr
  have HRD := Lib.hid (HU'.out.below HB3.out (Nat.le_refl _))
  have hsz3 := HB3.out.size
  have z2 := K2.out.cell 2 rfl
  have hown := HO.out.row
  have hL200 : L.length ≤ 200 := by have := HLl.out; omega
  clear ho hb3 hL
  go_wp2_with (at_builtin; refine wpList_append_rd rfl _ _ rfl w.heap.size _ _ L rs rfl hown rfl HRD.out (by omega) hsz3 ?_)
  intro v' w4 hown4 hgrow4
  have hb4 : Below w.heap.size w3 w4 := (Below.refl _ _).grown hgrow4 hsz3 (fun k hk => (hown.lt k hk).1)
  have HB4 := Lib.hid (HB3.out.trans hb4)
  have HO4 : Hid (Ow w4 w.heap.size w4.heap.size v' (L ++ rs)) := Lib.hid ⟨by simp; omega, fun z hz => by
    rcases List.mem_append.1 hz with hz | hz
    · exact HO.out.fit z hz
    · exact HRD.out.fit z hz, by rw [List.length_append, List.map_append]; exact hown4, fun k hk => (hown4.lt k hk).2, Nat.le_refl _, HB4.out.size⟩
  have z2' : w4.cell? ⟨w.heap.size + 1, 2, none⟩ = some (.slice a2 rs.length c2) := (World.cell?_of_block (a := ⟨w.heap.size + 1, 2, none⟩) (hgrow4.block _ K2.out.lt (fun e => hkn _ e.symm rfl))).trans z2
  clear z1 z2 hown hown4 hgrow4 hb4 hkn hk2
  by_cases h0 : rs = []
  · have hE : Hid (L ++ rs ++ [0] = clL ls rs) := Lib.hid (by rw [HLL.out, h0, clL]; simp)
    have hz : ((rs.length : Int) == 0) = true := by rw [h0]; rfl
    obtain ⟨Z, hZ⟩ : ∃ Z, Z = L ++ rs := ⟨_, rfl⟩
    have hZl : Z.length ≤ 200 := by rw [hZ, h0]; simp; omega
    rw [← hZ] at HO4 hE
    clear hZ h0
    have hown5 := HO4.out.row
    have hsz4 := HB4.out.size
    go_wp2_with (at_builtin; refine wpList_append_own _ rfl _ _ 25 rfl w.heap.size 2 i0 (.int .i64 0) 1 8 Tryd.underlying25 hi hz0 hz1 hz2 rfl (by decide) _ _ _ rfl (hown5.alloc _) ⟨_, 0, none⟩ 1 1 [.int .i64 0] rfl rfl ?c1 ?c2 ?c3 ?c4 ?c5 ?_)
    case c1 => exact cellNew _ _ _
    case c2 => first | exact oneCell _ | rfl
    case c3 => unfold maxLen; omega
    case c4 => omega
    case c5 => first | omega | (simp; omega)
    intro v5 w5 hown6 hgrow6 _
    obtain ⟨hs1, hs2⟩ := HO4.out.snoc (x := (0 : Int)) (by omega) (by omega) (by simpa using hown6) hgrow6
    have HO6 := Lib.hid hs1
    have HB6 := Lib.hid (HB4.out.trans hs2)
    clear hown6 hgrow6 hown5 hs1 hs2
    go_wp2
    go_ret3
    exact ⟨_, by rw [e.out.2.1, e.out.2.2, ← HLl.out] <;> rfl, by rw [e.out.1, ← hE.out]; exact HO6.out, HB6.out⟩
  · have hE : Hid (L ++ rs = clL ls rs) := Lib.hid (by rw [HLL.out, clL, if_neg h0]; simp)
    have hz : ((rs.length : Int) == 0) = false := by
      simp only [beq_eq_false_iff_ne]
      intro h
      exact h0 (List.eq_nil_of_length_eq_zero (by omega))
    clear h0
    go_wp2
    go_ret3
    exact ⟨_, by rw [e.out.2.1, e.out.2.2, ← HLl.out] <;> rfl, by rw [e.out.1, ← hE.out]; exact HO4.out, HB4.out⟩
set_option maxHeartbeats 4000000 in
set_option maxRecDepth 100000 in
theorem implCellsOf (sy st : Int) (v : Value) (ms : List Ru) (cst : Int) (u : Value) (ls : List Int) (u' : Value) (rs : List Int) (w : World) (hv : RdR w v ms) (hu : Rd w u ls) (hu' : Rd w u' rs) (hnr : NoR w) :
    Calls Tryd.prog 20 #[.agg #[.int .i64 sy, .int .i64 st, v], .agg #[.int .i64 cst, u, u']] w fun e w' => ∃ r, e = .returned (.tuple #[r, .int .i64 (coA sy st ms cst ls rs), .int .i64 (coC sy st ms cst ls rs)]) ∧ Ow w' w.heap.size w'.heap.size r (coL sy st ms cst ls rs) ∧ Below w.heap.size w w' := by
  have HV := Lib.hid hv
  have HU := Lib.hid hu
  have HU' := Lib.hid hu'
  obtain ⟨_, _, a, c, rfl, _, _⟩ := hv
  obtain ⟨_, _, a1, c1, rfl, _, _⟩ := hu
  obtain ⟨_, _, a2, c2, rfl, _, _⟩ := hu'
  obtain ⟨i0, hi, hz0, hz1, hz2⟩ := info_parts infoE
  obtain ⟨W0, hW0⟩ : ∃ W, W = (w.alloc (Obj.cells #[.int .i64 sy, .int .i64 st, .slice a ms.length c] 33)).alloc (Obj.cells #[.int .i64 cst, .slice a1 ls.length c1, .slice a2 rs.length c2] 35) := ⟨_, rfl⟩
  have HB : Hid (Below w.heap.size w W0) := Lib.hid (by rw [hW0]; exact ((Below.refl w.heap.size w).alloc (Nat.le_refl _) _).alloc (by simp) _)
  have K2 : Hid (Cels W0 (w.heap.size + 1) 35 [.int .i64 cst, .slice a1 ls.length c1, .slice a2 rs.length c2]) := Lib.hid (by rw [hW0]; have h := Cels.new (w.alloc (Obj.cells #[.int .i64 sy, .int .i64 st, .slice a ms.length c] 33)) 35 [.int .i64 cst, .slice a1 ls.length c1, .slice a2 rs.length c2]; rw [World.size_alloc] at h; exact h)
  have HW0 := Lib.hid hW0.symm
  have HN := Lib.hid (hnr.below HB.out (Nat.le_refl _))
  clear hW0 hnr
  obtain ⟨bm, hbm⟩ : ∃ b, b = vcB sy st ms cst ls rs := ⟨_, rfl⟩
  have HM := Lib.hid hbm
  clear hbm
  go_enter Tryd.func20, Tryd.ntmps20
  go_wp2_with fail
  rw [HW0.out]
  refine (implValidConfig sy st _ ms cst _ ls _ rs _ (HV.out.below HB.out (Nat.le_refl _)) (HU.out.below HB.out (Nat.le_refl _)) (HU'.out.below HB.out (Nat.le_refl _)) HN.out).mono ?_
  rintro e w1 ⟨rfl, hb1⟩
  rw [← HM.out]
  replace K2 := Lib.hid (K2.out.below hb1 K2.out.lt)
  have HB2 := Lib.hid (HB.out.trans (hb1.mono HB.out.size))
  clear hb1
  rcases eqOr bm with hb | hb
  · subst hb
    have e := Lib.hid (co_bad HM.out.symm)
    go_wp2_with fail
    go_ret3
    exact ⟨_, by rw [e.out.2.1, e.out.2.2] <;> rfl, by rw [e.out.1]; exact Ow.emptyUp HB2.out.size, HB2.out⟩
  subst hb
  have e := Lib.hid (co_good HM.out.symm)
  obtain ⟨l1, l2⟩ := vc_small HM.out.symm
  obtain ⟨L, hL⟩ : ∃ L, L = ls.reverse := ⟨_, rfl⟩
  have HLl : Hid (L.length = ls.length) := Lib.hid (by rw [hL]; simp)
  have hL200 : L.length ≤ 200 := by have := HLl.out; omega
  have HLL := Lib.hid hL
  clear hL
  have HS : Hid (∀ W, Below w1.heap.size w1 W → W.cell? ⟨w.heap.size + 1, 1, none⟩ = some (.slice a1 ls.length c1) ∧ W.cell? ⟨w.heap.size + 1, 2, none⟩ = some (.slice a2 rs.length c2)) := Lib.hid (fun W h => ⟨(K2.out.below h K2.out.lt).cell 1 rfl, (K2.out.below h K2.out.lt).cell 2 rfl⟩)
  go_wp2_with fail
  have HD : Hid (Below w1.heap.size w1 w1.drew) := Lib.hid (Below.refl _ _).drew
  go_region_held3 (fun W => W.cell? ⟨w.heap.size + 1, 1, none⟩ = some (.slice a1 ls.length c1) ∧ W.cell? ⟨w.heap.size + 1, 2, none⟩ = some (.slice a2 rs.length c2)) (exact HS.out _ HD.out)
    (first
      | (go_at_call 52; with_reducible refine (implReversed _ ls _ (HU.out.below (HB2.out.trans (HD.out.mono HB2.out.size)) (Nat.le_refl _))).mono ?_; rintro e3 w3 ⟨r, rfl, ho, hb3⟩; rw [← HLL.out] at ho; have HSZ := Lib.hid HD.out.size; replace HD := Lib.hid (HD.out.trans (hb3.mono HD.out.size)); have HO := Lib.hid (ho.mono HSZ.out (Nat.le_refl _) (Nat.le_refl _)); clear ho hb3)
      | (refine step_append_rd (by rfl) _ _ (by rfl) w1.heap.size _ _ L rs (by rfl) HO.out.row (by rfl) (HU'.out.below (HB2.out.trans (HD.out.mono HB2.out.size)) (Nat.le_refl _)) (by omega) HD.out.size ?_; intro v' w4 hown4 hgrow4; have HX := Lib.hid (HD.out.grown hgrow4 HD.out.size (fun k hk => (HO.out.row.lt k hk).1)); have HO4 := Lib.hid hown4; have HGR := Lib.hid hgrow4; replace HD := HX; clear hown4 hgrow4))
  have HB4 := Lib.hid (HB2.out.trans (HD.out.mono HB2.out.size))
  have HO5 : Hid (Ow w4 w1.heap.size w4.heap.size v' (L ++ rs)) := Lib.hid ⟨by rw [List.length_append]; omega, fun z hz => by
    rcases List.mem_append.1 hz with hz | hz
    · exact HO.out.fit z hz
    · exact HU'.out.fit z hz, by rw [List.length_append]; exact HO4.out, fun k hk => (HO4.out.lt k hk).2, Nat.le_refl _, HD.out.size⟩
  obtain ⟨z1, z2⟩ := HS.out _ HD.out
  clear HO4 HGR HX
  by_cases h0 : rs = []
  · have hE : Hid (L ++ rs ++ [0] = clL ls rs) := Lib.hid (by rw [HLL.out, h0, clL]; simp)
    have hz : ((rs.length : Int) == 0) = true := by rw [h0]; rfl
    obtain ⟨Z, hZ⟩ : ∃ Z, Z = L ++ rs := ⟨_, rfl⟩
    have hZl : Z.length ≤ 200 := by rw [hZ, h0]; simp; omega
    rw [← hZ] at HO5 hE
    clear hZ h0
    have hown5 := HO5.out.row
    have hsz4 := HD.out.size
    go_wp2_with (at_builtin; refine wpList_append_own _ rfl _ _ 25 rfl w1.heap.size 2 i0 (.int .i64 0) 1 8 Tryd.underlying25 hi hz0 hz1 hz2 rfl (by decide) _ _ _ rfl (hown5.alloc _) ⟨_, 0, none⟩ 1 1 [.int .i64 0] rfl rfl ?c1 ?c2 ?c3 ?c4 ?c5 ?_)
    case c1 => exact cellNew _ _ _
    case c2 => first | exact oneCell _ | rfl
    case c3 => unfold maxLen; omega
    case c4 => omega
    case c5 => first | omega | (simp; omega)
    intro v5 w5 hown6 hgrow6 _
    obtain ⟨hs1, hs2⟩ := HO5.out.snoc (x := (0 : Int)) (by omega) (by omega) (by simpa using hown6) hgrow6
    have HO6 := Lib.hid (hs1.mono HB2.out.size (Nat.le_refl _) (Nat.le_refl _))
    have HD6 := Lib.hid (HD.out.trans hs2)
    have HB6 := Lib.hid (HB2.out.trans (HD6.out.mono HB2.out.size))
    clear hown6 hgrow6 hown5 hs1 hs2 z1 z2
    obtain ⟨z1, z2⟩ := HS.out _ HD6.out
    go_wp2
    go_quiet (fail)
    go_wp2
    go_ret3
    exact ⟨_, by rw [e.out.2.1, e.out.2.2] <;> rfl, by rw [e.out.1, ← hE.out]; exact HO6.out.below (below_drewN (Below.refl _ _) _) (Nat.le_refl _), below_drewN HB6.out _⟩
  · have hE : Hid (L ++ rs = clL ls rs) := Lib.hid (by rw [HLL.out, clL, if_neg h0]; simp)
    have hz : ((rs.length : Int) == 0) = false := by
      simp only [beq_eq_false_iff_ne]
      intro h
      exact h0 (List.eq_nil_of_length_eq_zero (by omega))
    have HO6 := Lib.hid (HO5.out.mono HB2.out.size (Nat.le_refl _) (Nat.le_refl _))
    clear h0
    go_wp2
    go_quiet (fail)
    go_wp2
    go_ret3
    exact ⟨_, by rw [e.out.2.1, e.out.2.2] <;> rfl, by rw [e.out.1, ← hE.out]; exact HO6.out.below (below_drewN (Below.refl _ _) _) (Nat.le_refl _), below_drewN HB4.out _⟩
end Go.Proofs.YtmgogbcipdjddaaDoor.Ints
