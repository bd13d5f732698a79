/- MachineText whole, of the model and of the program. -/
import Derived.Test.YtmbojhlcmgknbaaDoorMcI
import Derived.Test.YtmbojhlcmgknbaaDoorTurV
namespace Go.Proofs.YtmbojhlcmgknbaaDoor.Ints
open Go.RowKit
set_option linter.unusedVariables false
set_option linter.unusedSimpArgs false
set_option maxHeartbeats 4000000 in
theorem specMcText (sy st : Int) (v : Value) (rs : List Ru) (w : World) (hv : RdR w v rs) :
    Calls Tryd.prog 8 #[.agg #[.int .i64 sy, .int .i64 st, v]] w fun e w' => e = .returned (.string (bs (mtV sy st rs))) ∧ Below w.heap.size w w' := by
  have HV := Lib.hid hv
  obtain ⟨_, _, a, c, rfl, _, _⟩ := hv
  have HB : Hid (Below w.heap.size w (w.alloc (Obj.cells #[.int .i64 sy, .int .i64 st, .slice a rs.length c] 29))) := Lib.hid ((Below.refl _ _).alloc (Nat.le_refl _) _)
  have K1 := Lib.hid (Cels.new w 29 [.int .i64 sy, .int .i64 st, .slice a rs.length c])
  obtain ⟨bm, hbm⟩ : ∃ b, b = machB sy st rs := ⟨_, rfl⟩
  have HM := Lib.hid hbm
  clear hbm
  go_enter Tryd.func8, Tryd.ntmps8
  go_wp2_with fail
  refine (specIs w.heap.size sy st _ rs _ (HV.out.below HB.out (Nat.le_refl _)) (K1.out.cell 0 rfl) (K1.out.cell 1 rfl) (K1.out.cell 2 rfl)).mono ?_
  rintro e w1 ⟨rfl, hb1⟩
  rw [← HM.out]
  have HK := Lib.hid (K1.out.below hb1 (by simp))
  have HB1 := Lib.hid (HB.out.trans (hb1.mono HB.out.size))
  clear hb1
  rcases eqOr bm with hb | hb
  · subst hb
    have e := Lib.hid (show mtV sy st rs = [] by rw [mtV, ← HM.out]; simp)
    go_wp2
    go_ret
    exact ⟨by rw [e.out] <;> rfl, HB1.out⟩
  subst hb
  have e := Lib.hid (show mtV sy st rs = mtX sy.toNat st.toNat rs by rw [mtV, ← HM.out]; simp)
  go_wp2_with fail
  refine (specMcT w.heap.size sy st _ rs _ (HV.out.below HB1.out (Nat.le_refl _)) (machB_ok HM.out.symm) HK.out).mono ?_
  rintro e2 w2 ⟨rfl, hb2⟩
  have HB2 := Lib.hid (HB1.out.trans (hb2.mono HB1.out.size))
  clear hb2
  go_wp2
  go_ret
  exact ⟨by rw [e.out] <;> rfl, HB2.out⟩
theorem rowT_small {sy : Nat} {rs : List Ru} (h : RuR rs) (s : Nat) (hs : sy ≤ 6) : (rowT sy rs s).length ≤ 400 := by
  have h1 := join_small (((rs.drop (s * sy)).take sy).map rlT) [44] 50 (fun y hy => by
    obtain ⟨f, hf, rfl⟩ := List.mem_map.1 hy
    exact rlT_small (h f (List.mem_of_mem_drop (List.mem_of_mem_take hf))))
  simp only [List.length_map, List.length_take, List.length_drop, List.length_singleton] at h1
  unfold rowT
  have h2 : min sy (rs.length - s * sy) ≤ 6 := by omega
  have h3 : min sy (rs.length - s * sy) * (50 + 1) ≤ 6 * (50 + 1) := Nat.mul_le_mul_right _ h2
  omega
theorem mtX_small {sy st : Nat} {rs : List Ru} (h : RuR rs) (hs : sy ≤ 6) (ht : st ≤ 1000) : (mtX sy st rs).length ≤ 1000000 := by
  have h1 := join_small ((List.range st).map (rowT sy rs)) [59] 400 (fun y hy => by
    obtain ⟨s, _, rfl⟩ := List.mem_map.1 hy
    exact rowT_small h s hs)
  simp only [List.length_map, List.length_range, List.length_singleton] at h1
  unfold mtX
  omega
theorem rl_succ (R : List Ru) (k : Nat) (h : k < R.length) : (R.take (k + 1)).map rlT = (R.take k).map rlT ++ [rlT (R.getD k ru0)] := by
  rw [List.take_succ_eq_append_getElem h, List.map_append, List.getD_eq_getElem?_getD, List.getElem?_eq_getElem h]; rfl
set_option maxRecDepth 100000 in
set_option maxHeartbeats 16000000 in
theorem implMcText (sy st : Int) (v : Value) (rs : List Ru) (w : World) (hv : RdR w v rs) (hnr : NoR w) (htb : TabV w) :
    Calls Tryd.prog 10 #[.agg #[.int .i64 sy, .int .i64 st, v]] w fun e w' => e = .returned (.string (bs (mtV sy st rs))) ∧ Below w.heap.size w w' := by
  have HV := Lib.hid hv
  have HNR := Lib.hid hnr
  have HTB := Lib.hid htb
  obtain ⟨_, _, a, c, rfl, _, _⟩ := hv
  obtain ⟨W0, hW0⟩ : ∃ W, W = w.alloc (Obj.cells #[.int .i64 sy, .int .i64 st, .slice a rs.length c] 29) := ⟨_, rfl⟩
  have HB : Hid (Below w.heap.size w W0) := Lib.hid (by rw [hW0]; exact (Below.refl _ _).alloc (Nat.le_refl _) _)
  have K0 : Hid (Cels W0 w.heap.size 29 [.int .i64 sy, .int .i64 st, .slice a rs.length c]) := Lib.hid (by rw [hW0]; exact Cels.new _ _ _)
  have HW0 := Lib.hid hW0.symm
  obtain ⟨bm, hbm⟩ : ∃ b, b = machB sy st rs := ⟨_, rfl⟩
  have HM := Lib.hid hbm
  clear hbm hW0 hnr htb
  go_enter Tryd.func10, Tryd.ntmps10
  go_wp2_with fail
  rw [HW0.out]
  refine (implValidMachine sy st _ rs _ (HV.out.below HB.out (Nat.le_refl _)) (HNR.out.below HB.out (Nat.le_refl _))).mono ?_
  rintro e w1 ⟨rfl, hb1⟩
  rw [← HM.out]
  have HB1 := Lib.hid (HB.out.trans (hb1.mono HB.out.size))
  have HK1 := Lib.hid (K0.out.below hb1 K0.out.lt)
  clear hb1
  rcases eqOr bm with hb | hb
  · subst hb
    have e := Lib.hid (show mtV sy st rs = [] by rw [mtV, ← HM.out]; simp)
    go_wp2
    go_ret
    exact ⟨by rw [e.out] <;> rfl, HB1.out⟩
  subst hb
  have hmo := machB_ok HM.out.symm
  have e := Lib.hid (show mtV sy st rs = mtX sy.toNat st.toNat rs by rw [mtV, ← HM.out]; simp)
  obtain ⟨sn, rfl⟩ : ∃ n : Nat, sy = n := ⟨sy.toNat, by have := hmo.s0; omega⟩
  obtain ⟨tn, rfl⟩ : ∃ n : Nat, st = n := ⟨st.toNat, by have := hmo.t0; omega⟩
  have HRU := Lib.hid (mok_rur hmo)
  have hs0 : 2 ≤ sn := by have := hmo.s0; omega
  have hs1 : sn ≤ 6 := by have := hmo.s1; omega
  have ht1 : tn ≤ 1000 := by have := hmo.t1; omega
  have hll : rs.length = tn * sn := by have h := hmo.len; rw [Int.mul_comm] at h; exact_mod_cast h
  have hmul : tn * sn ≤ 1000 * 6 := Nat.mul_le_mul ht1 hs1
  have HL := Lib.hid (And.intro hll (show rs.length ≤ 6000 by omega))
  have E := Lib.hid (show mtV (sn : Int) (tn : Int) rs = mtX sn tn rs by rw [e.out, Int.toNat_natCast, Int.toNat_natCast])
  have HJJ : Hid ((Lib.join ((List.range tn).map (rowT sn rs)) [59]).length ≤ 100000000) := Lib.hid (by have := mtX_small HRU.out hs1 ht1; unfold mtX at this; omega)
  obtain ⟨i0, hi, hz0, hz1, hz2⟩ := info_parts infoS
  have z1 := HK1.out.cell 1 rfl
  clear hmo hll hmul e HM
  go_wp2
  go_loopw [3, 13] (fun o s wr => ∃ (k : Nat) (ov : Value), o = ov ∧ k ≤ tn ∧ s = .int .i64 k ∧ wr.ownsRow w1.heap.size 9 1 ov k (strs ((List.range k).map (rowT sn rs))) ∧ Below w1.heap.size w1 wr) (fun _ s _ => tn - (intOf s).toNat)
  case atStart => exact ⟨0, _, rfl, Nat.zero_le _, rfl, by simpa [strs] using World.ownsRow_nil w1 w1.heap.size 9 1, Below.refl _ _⟩
  case round =>
    obtain ⟨k, ov, hov, hk, rfl, hown, hbel1⟩ := hrel
    obtain rfl := hov.symm
    have HW := Lib.hid (HB1.out.trans (hbel1.mono HB1.out.size))
    have HWW := Lib.hid hbel1
    have HO := Lib.hid hown
    by_cases hlt : k < tn
    · have HK := Lib.hid (HK1.out.below hbel1 HK1.out.lt)
      have y0 := HK.out.cell 0 rfl
      have y1 := HK.out.cell 1 rfl
      have y2 := HK.out.cell 2 rfl
      have hle : (k + 1) * sn ≤ rs.length := by rw [HL.out.1]; exact Nat.mul_le_mul_right sn hlt
      have HLE := Lib.hid hle
      have i0' : (0 : Int) ≤ (k : Int) := by omega
      have i1 : (k : Int) < (tn : Int) := by omega
      clear hown hbel1 hle
      go_wp2_with fail
      refine (implRow sn k (tn : Int) a c rs _ (HV.out.below HW.out (Nat.le_refl _)) (by omega) HLE.out HL.out.2).mono ?_
      rintro e2 w2 ⟨u, rfl, hu, hb2⟩
      obtain ⟨R, hR⟩ : ∃ R, R = (rs.drop (k * sn)).take sn := ⟨_, rfl⟩
      have hRl : R.length = sn := by
        have h1 : (k + 1) * sn = k * sn + sn := by rw [Nat.add_mul, Nat.one_mul]
        rw [hR, List.length_take, List.length_drop]; have := HLE.out; omega
      have HRR : Hid (RuR R) := Lib.hid (fun r hr => HRU.out r (List.mem_of_mem_drop (List.mem_of_mem_take (by rw [← hR]; exact hr))))
      have HROW : Hid (rowT sn rs k = Lib.join (R.map rlT) [44]) := Lib.hid (by rw [hR]; rfl)
      rw [← hR] at hu
      have HO2 := Lib.hid (ownB_below HO.out hb2 (Nat.le_refl _))
      have HW2 := Lib.hid (HW.out.trans (hb2.mono HW.out.size))
      have HWW2 := Lib.hid (HWW.out.trans (hb2.mono HWW.out.size))
      obtain ⟨hul, _, ua, uc, rfl, hucap, hur⟩ := hu
      have HUR := Lib.hid hur
      have HJ : Hid ((Lib.join (R.map rlT) [44]).length ≤ 100000000) := Lib.hid (by rw [← HROW.out]; have := rowT_small HRU.out k hs1; omega)
      clear hb2 hR hur y0 y1 y2
      go_wp2
      go_loopw [5, 20] (fun o s wr => ∃ (j : Nat) (ov2 : Value), o = ov2 ∧ j ≤ R.length ∧ s = .int .i64 j ∧ wr.ownsRow w2.heap.size 9 1 ov2 j (strs ((R.take j).map rlT)) ∧ Below w2.heap.size w2 wr) (fun _ s _ => R.length - (intOf s).toNat)
      case atStart => exact ⟨0, _, rfl, Nat.zero_le _, rfl, by simpa [strs] using World.ownsRow_nil w2 w2.heap.size 9 1, Below.refl _ _⟩
      case round =>
        obtain ⟨j, ov2, hov2, hj, rfl, hown2, hbel2⟩ := hrel
        obtain rfl := hov2.symm
        have HV2 := Lib.hid hbel2
        by_cases hlt2 : j < R.length
        · obtain ⟨b, o, rfl, hb, hcell⟩ := HUR.out (by intro h0; rw [h0] at hlt2; simp at hlt2)
          obtain ⟨c0, c1, c2⟩ := hcell j hlt2
          replace c0 := (hbel2.cell (p := ⟨b, o + j * 3, none⟩) hb).trans c0
          replace c1 := (hbel2.cell (p := ⟨b, o + j * 3 + 1, none⟩) hb).trans c1
          replace c2 := (hbel2.cell (p := ⟨b, o + j * 3 + 2, none⟩) hb).trans c2
          have hbd := HRR.out.one j hlt2
          have hm := rl_succ R j hlt2
          obtain ⟨r, hr0⟩ : ∃ r, r = R.getD j ru0 := ⟨_, rfl⟩
          rw [← hr0] at c0 c1 c2 hbd hm
          obtain ⟨x, y, z⟩ := r
          dsimp only at c0 c1 c2 hbd
          have HBD := Lib.hid hbd
          have HS := Lib.hid hm
          have j0' : (0 : Int) ≤ (j : Int) := by omega
          have j1 : (j : Int) < (R.length : Int) := by omega
          have hb0 : ∀ ob : Obj, Hid (Below w2.heap.size w2 (wr.alloc ob)) := fun ob => Lib.hid (hbel2.alloc hbel2.size ob)
          have hown0 : ∀ ob : Obj, Hid ((wr.alloc ob).ownsRow w2.heap.size 9 1 ov2 j (strs ((R.take j).map rlT))) := fun ob => Lib.hid (hown2.alloc ob)
          clear hbel2 hcell hm hr0 hown2 hbd
          go_wp2_with fail
          refine (implRuT x y z _ ⟨HBD.out.1, HBD.out.2.1⟩ HBD.out.2.2 (HNR.out.below (HW2.out.trans ((hb0 _).out.mono HW2.out.size)) (Nat.le_refl _)) (HTB.out.below (HW2.out.trans ((hb0 _).out.mono HW2.out.size)) (Nat.le_refl _))).mono ?_
          rintro e3 w3 ⟨rfl, hb3⟩
          have HO3 : Hid (w3.ownsRow w2.heap.size 9 1 ov2 j (strs ((R.take j).map rlT))) := Lib.hid (ownB_below (hown0 _).out hb3 (Nat.le_refl _))
          replace HV2 := Lib.hid ((hb0 _).out.trans (hb3.mono (hb0 _).out.size))
          have hsz := HV2.out.size
          have hown3 := HO3.out
          obtain ⟨t, ht⟩ : ∃ t, t = bs (rlT ⟨x, y, z⟩) := ⟨_, rfl⟩
          have HTt := Lib.hid ht
          rw [← ht]
          clear hb3 ht c0 c1 c2 hb0 hown0
          go_wp2_with (at_builtin; refine wpList_append_own _ rfl _ _ 83 rfl w2.heap.size 9 i0 (.string ⟨#[]⟩) 1 16 Tryd.underlying83 hi hz0 hz1 hz2 rfl (by decide) _ _ _ rfl (hown3.alloc _) ⟨_, 0, none⟩ 1 1 [.string t] rfl rfl ?c1 ?c2 ?c3 ?c4 ?c5 ?_)
          try (case c1 => exact cellNewB _)
          case c2 => first | rfl | (intro u hu; simp at hu; subst hu; rfl)
          case c3 => unfold maxLen; omega
          case c4 => omega
          case c5 => first | omega | (simp; omega)
          intro v' w4 hown4 hgrow _
          have HO4 : Hid (w4.ownsRow w2.heap.size 9 1 v' (j + 1) (strs ((R.take (j + 1)).map rlT))) := Lib.hid (by rw [HS.out, strs_snoc, ← HTt.out]; first | exact hown4 | (rw [List.map_take]; exact hown4))
          have HQ := Lib.hid ((HV2.out.alloc hsz (Obj.cells #[Value.string t] 9)).grown hgrow (by simp; omega) (fun q hq => (hown3.lt q hq).1))
          clear hown4 hgrow hown3 HO3
          go_wp2
          go_roundw
          case rel => exact ⟨j + 1, v', rfl, by omega, by go_num, HO4.out, HQ.out⟩
          case measure => simp [intOf]; omega
        · obtain rfl : j = R.length := by omega
          have HOR : Hid (wr.ownsRow w2.heap.size 9 1 ov2 (R.map rlT).length (strs (R.map rlT))) := Lib.hid (by rw [List.take_length] at hown2; rw [List.length_map]; exact hown2)
          have hnlt : ¬ ((R.length : Int) < (R.length : Int)) := by omega
          have HO5 := Lib.hid (ownB_below HO2.out hbel2 (Nat.le_refl _))
          have HW5 := Lib.hid (HW2.out.trans (hbel2.mono HW2.out.size))
          have HWW5 := Lib.hid (HWW2.out.trans (hbel2.mono HWW2.out.size))
          clear hown2 hbel2 hlt2
          go_wp2_with fail
          refine (joinRow _ _ (R.map rlT) [44] _ HOR.out (by rw [List.length_map]; omega) HJ.out).mono ?_
          rintro e6 w6 ⟨rfl, hb6⟩
          rw [← HROW.out]
          obtain ⟨t, ht⟩ : ∃ t, t = bs (rowT sn rs k) := ⟨_, rfl⟩
          have HTt := Lib.hid ht
          rw [← ht]
          have HO6 := Lib.hid (ownB_below HO5.out hb6 (Nat.le_refl _))
          have HW6 := Lib.hid (HW5.out.trans (hb6.mono HW5.out.size))
          have HWW6 := Lib.hid (HWW5.out.trans (hb6.mono HWW5.out.size))
          have hown6 := HO6.out
          have hsz := HW6.out.size
          have hsz1 := HWW6.out.size
          have hszb := HB1.out.size
          clear hb6 ht
          go_wp2_with (at_builtin; refine wpList_append_own _ rfl _ _ 83 rfl w1.heap.size 9 i0 (.string ⟨#[]⟩) 1 16 Tryd.underlying83 hi hz0 hz1 hz2 rfl (by decide) _ _ _ rfl (hown6.alloc _) ⟨_, 0, none⟩ 1 1 [.string t] rfl rfl ?d1 ?d2 ?d3 ?d4 ?d5 ?_)
          try (case d1 => exact cellNewB _)
          case d2 => first | rfl | (intro u hu; simp at hu; subst hu; rfl)
          case d3 => unfold maxLen; omega
          case d4 => omega
          case d5 => first | omega | (simp; omega)
          intro v' w7 hown7 hgrow _
          have HO7 : Hid (w7.ownsRow w1.heap.size 9 1 v' (k + 1) (strs ((List.range (k + 1)).map (rowT sn rs)))) := Lib.hid (by rw [List.range_succ, List.map_append, List.map_singleton, strs_snoc, ← HTt.out]; exact hown7)
          have HQ := Lib.hid ((HWW6.out.alloc hsz1 (Obj.cells #[Value.string t] 9)).grown hgrow (by simp; omega) (fun q hq => (hown6.lt q hq).1))
          clear hown7 hgrow hown6 HO6
          go_wp2
          go_roundw
          case rel => exact ⟨k + 1, v', rfl, by omega, by go_num, HO7.out, HQ.out⟩
          case measure => simp [intOf]; omega
    · obtain rfl : k = tn := by omega
      have hnlt : ¬ ((k : Int) < (k : Int)) := by omega
      have HOR : Hid (wr.ownsRow w1.heap.size 9 1 ov ((List.range k).map (rowT sn rs)).length (strs ((List.range k).map (rowT sn rs)))) := Lib.hid (by rw [List.length_map, List.length_range]; exact HO.out)
      clear hown hbel1 hlt
      go_wp2_with fail
      refine (joinRow _ _ ((List.range k).map (rowT sn rs)) [59] _ HOR.out (by rw [List.length_map, List.length_range]; omega) HJJ.out).mono ?_
      rintro e6 w6 ⟨rfl, hb6⟩
      have HW6 := Lib.hid (HW.out.trans (hb6.mono HW.out.size))
      clear hb6
      go_wp2
      go_ret
      exact ⟨by rw [E.out] <;> rfl, HW6.out⟩
end Go.Proofs.YtmbojhlcmgknbaaDoor.Ints
