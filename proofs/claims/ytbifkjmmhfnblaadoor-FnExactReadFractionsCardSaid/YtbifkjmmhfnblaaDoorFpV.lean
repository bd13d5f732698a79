/- Fractions read from texts, of the model. -/
import Derived.Test.YtbifkjmmhfnblaaDoorRkV
import Derived.Test.YtbifkjmmhfnblaaDoorRlS
import Derived.Test.YtbifkjmmhfnblaaDoorCut
import Derived.Test.YtbifkjmmhfnblaaDoorFrcS
import Derived.Test.YtbifkjmmhfnblaaDoorFrT
namespace Go.Proofs.YtbifkjmmhfnblaaDoor.Ints
open Go.RowKit
set_option linter.unusedVariables false
set_option linter.unusedSimpArgs false
/-- A text of one fraction. -/
def fcOne (t : List UInt8) : Prop := (pcs 47 t).length = 2 ∧ NumOk ((pcs 47 t).getD 0 []) ∧ NumOk ((pcs 47 t).getD 1 [])
def fcV (t : List UInt8) : Fra := ⟨valL ((pcs 47 t).getD 0 []), valL ((pcs 47 t).getD 1 [])⟩
theorem fcOne.parts {t : List UInt8} (h : fcOne t) : ∃ a b, pcs 47 t = [a, b] ∧ NumOk a ∧ NumOk b ∧ fcV t = ⟨valL a, valL b⟩ := by
  obtain ⟨h1, h2, h3⟩ := h
  obtain ⟨a, b, e⟩ : ∃ a b, pcs 47 t = [a, b] := by
    match pcs 47 t, h1 with
    | [a, b], _ => exact ⟨a, b, rfl⟩
  refine ⟨a, b, e, by simpa [e] using h2, by simpa [e] using h3, by simp [fcV, e]⟩
theorem fcOne_of {t a b : List UInt8} (e : pcs 47 t = [a, b]) (ha : NumOk a) (hb : NumOk b) : fcOne t := ⟨by rw [e]; rfl, by simpa [e] using ha, by simpa [e] using hb⟩
theorem fcOne.text {t : List UInt8} (h : fcOne t) : frT (fcV t) = t := by
  obtain ⟨a, b, e, ha, hb, hv⟩ := h.parts
  rw [hv, frT, itoa_valL ha, itoa_valL hb]
  have := join_pcs 47 t
  rw [e, show ([a, b] : List (List UInt8)) = [a] ++ [b] from rfl, join_snoc _ _ _ (by simp), Lib.join_one] at this
  exact this
theorem fcOne.fit {t : List UInt8} (h : fcOne t) : (fcV t).fit := by
  obtain ⟨a, b, e, ha, hb, hv⟩ := h.parts
  rw [hv]
  have h1 := valL_small ha
  have h2 := valL_small hb
  exact ⟨⟨by show _ ≤ valL a; omega, by show valL a ≤ _; omega⟩, ⟨by show _ ≤ valL b; omega, by show valL b ≤ _; omega⟩⟩
def AllFc (ts : List (List UInt8)) : Prop := ∀ j, j < ts.length → fcOne (ts.getD j [])
def rfOk (ts : List (List UInt8)) : Prop := AllFc ts ∧ frsB (ts.map fcV) = true
open Classical in
noncomputable def rfB (l : List UInt8) : Bool := decide (rfOk (pcs 32 l))
open Classical in
noncomputable def rfV (l : List UInt8) : List Fra := if rfOk (pcs 32 l) then (pcs 32 l).map fcV else []
theorem rf_bad {l : List UInt8} (k : ¬ rfOk (pcs 32 l)) : rfB l = false ∧ rfV l = [] := by simp [rfB, rfV, k]
theorem rf_good {l : List UInt8} (k : rfOk (pcs 32 l)) : rfB l = true ∧ rfV l = (pcs 32 l).map fcV := by simp [rfB, rfV, k]
theorem rfV_len (l : List UInt8) : (rfV l).length ≤ 100 := by
  unfold rfV
  split
  · rename_i h; have := (frsB_ok h.2).hi; exact this
  · simp
theorem rf_text {l : List UInt8} (h : AllFc (pcs 32 l)) : frX ((pcs 32 l).map fcV) = l := by
  unfold frX
  rw [List.map_map]
  have e : (pcs 32 l).map (frT ∘ fcV) = pcs 32 l := by
    conv => rhs; rw [← List.map_id (pcs 32 l)]
    refine List.map_congr_left fun t ht => ?_
    obtain ⟨i, hi, rfl⟩ := List.getElem_of_mem ht
    have := h i hi
    rw [List.getD_eq_getElem?_getD, List.getElem?_eq_getElem hi] at this
    exact fcOne.text this
  rw [e, join_pcs]
theorem fc_fit {ts : List (List UInt8)} (h : AllFc ts) : FitFra (ts.map fcV) := fun r hr => by
  obtain ⟨t, ht, rfl⟩ := List.mem_map.1 hr
  obtain ⟨i, hi, rfl⟩ := List.getElem_of_mem ht
  have := h i hi
  rw [List.getD_eq_getElem?_getD, List.getElem?_eq_getElem hi] at this
  exact fcOne.fit this
theorem all_takeS {P : List UInt8 → Prop} {ts : List (List UInt8)} {k : Nat} (h : ∀ j, j < k → P (ts.getD j [])) (hk : P (ts.getD k [])) : ∀ j, j < k + 1 → P (ts.getD j []) := fun j hj => by
  by_cases he : j = k
  · subst he; exact hk
  · exact h j (by omega)
set_option maxRecDepth 100000 in
set_option maxHeartbeats 8000000 in
theorem specReadFr (s : ByteArray) (w : World) (hs : s.size ≤ 1048576) :
    Calls Tryd.prog 26 #[.string s] w fun e w' => ∃ u, e = .returned (.tuple #[u, .bool (rfB s.data.toList)]) ∧ OwFra w' w.heap.size w'.heap.size u (rfV s.data.toList) ∧ Below w.heap.size w w' := by
  obtain ⟨l, hl⟩ : ∃ l, l = s.data.toList := ⟨_, rfl⟩
  rw [← hl]
  have HL := Lib.hid hl
  obtain ⟨ts, hts⟩ : ∃ ts, ts = pcs 32 l := ⟨_, rfl⟩
  have HTs := Lib.hid hts
  have HPz : Hid (∀ j, j < ts.length → (ts.getD j []).length ≤ 1048576) := Lib.hid (fun j hj => by
    have := pcs_piece 32 l (ts.getD j []) (by rw [← hts, List.getD_eq_getElem?_getD, List.getElem?_eq_getElem hj]; exact List.getElem_mem hj)
    have h2 := Lib.size_eq s
    rw [hl] at this
    omega)
  have HBad : Hid (¬ rfOk ts → rfB l = false ∧ rfV l = []) := Lib.hid (fun h => rf_bad (by rw [← hts]; exact h))
  have HSp := Lib.hid (specSplit s 32 32 rfl w hs)
  have HS := Lib.hid hs
  clear hl hts hs
  go_enter Tryd.func26, Tryd.ntmps26
  go_wp2_with fail
  refine HSp.out.mono ?_
  rintro e w1 ⟨u, rfl, hr, hb1⟩
  rw [← HL.out, ← HTs.out] at hr
  have HB1 := Lib.hid hb1
  obtain ⟨b, c, rfl, hcap, hbl, hcell⟩ := hr
  have HC := Lib.hid hcell
  clear hcell hb1
  by_cases hlen : ts.length ≤ 100
  rotate_left
  · have HF := Lib.hid (HBad.out (fun h => hlen (by have := (frsB_ok h.2).hi; rwa [List.length_map] at this)))
    have f1 : decide ((100 : Int) < (ts.length : Int)) = true := decide_eq_true (by omega)
    have f2 : decide (100 < ts.length) = true := decide_eq_true (by omega)
    clear hlen
    go_wp2
    go_ret2
    exact ⟨_, by rw [HF.out.1] <;> rfl, by rw [HF.out.2]; exact OwFra.emptyUp HB1.out.size, HB1.out⟩
  have f1 : decide ((100 : Int) < (ts.length : Int)) = false := decide_eq_false (by omega)
  have f2 : decide (100 < ts.length) = false := decide_eq_false (by omega)
  have HLn := Lib.hid hlen
  clear hlen
  go_wp2
  go_loopw [5, 6] (fun o i wr => ∃ (k : Nat), k ≤ ts.length ∧ i = .int .i64 (k : Int) ∧ (∀ j, j < k → fcOne (ts.getD j [])) ∧ OwFra wr w1.heap.size wr.heap.size o ((ts.take k).map fcV) ∧ Below w1.heap.size w1 wr) (fun _ i _ => ts.length - (intOf i).toNat)
  case atStart => exact ⟨0, Nat.zero_le _, rfl, fun j hj => by omega, OwFra.made _, (Below.refl _ _).alloc (Nat.le_refl _) _⟩
  case round =>
    obtain ⟨k, hk, rfl, hall, hown, hbel⟩ := hrel
    obtain ⟨go, co, hso⟩ := hown.shape
    have HA := Lib.hid hall
    have HW := Lib.hid hbel
    have HBW : Hid (Below w.heap.size w wr) := Lib.hid (HB1.out.trans (hbel.mono HB1.out.size))
    by_cases hlt : k < ts.length
    · have HO := Lib.hid hown
      obtain ⟨n, hn⟩ : ∃ n, n = ((ts.take k).map fcV).length := ⟨_, rfl⟩
      rw [← hn] at hso
      subst hso
      obtain ⟨t, ht⟩ : ∃ t, t = ts.getD k [] := ⟨_, rfl⟩
      have hc : wr.cell? ⟨b, k, none⟩ = some (.string (bs t)) := by rw [ht]; exact (hbel.cell hbl).trans (HC.out k hlt)
      have i0' : (0 : Int) ≤ (k : Int) := by omega
      have i1 : (k : Int) < (ts.length : Int) := by omega
      have HT := Lib.hid ht
      have HSz : Hid ((bs t).size ≤ 1048576) := Lib.hid (by rw [bs_size, ht]; exact HPz.out k hlt)
      have HNo : Hid (¬ fcOne t → rfB l = false ∧ rfV l = []) := Lib.hid (fun h => HBad.out (fun h2 => h (by rw [HT.out]; exact h2.1 k hlt)))
      clear hbel ht hall hown hn
      go_wp2_with fail
      refine (specSplit (bs t) 47 47 rfl _ HSz.out).mono ?_
      rintro e w2 ⟨u2, rfl, hr2, hb2⟩
      rw [bs_list] at hr2
      obtain ⟨ps, hps⟩ : ∃ ps, ps = pcs 47 t := ⟨_, rfl⟩
      rw [← hps] at hr2
      have HPs := Lib.hid hps
      have HB2 := Lib.hid hb2
      have HO2 := Lib.hid (HO.out.below hb2 (Nat.le_refl _)).up
      have HW2 := Lib.hid (HW.out.trans (hb2.mono HW.out.size))
      have HBW2 := Lib.hid (HBW.out.trans (hb2.mono HBW.out.size))
      obtain ⟨b2, c2, rfl, hcap2, hbl2, hcell2⟩ := hr2
      have HC2 := Lib.hid hcell2
      clear hcell2 hb2 hps
      by_cases h2 : ps.length = 2
      rotate_left
      · have HF := Lib.hid (HNo.out (fun h => h2 (by rw [HPs.out]; exact h.1)))
        have e3 : ((ps.length : Int) == 2) = false := by rw [beq_eq_false_iff_ne]; omega
        have e3' : ¬ (ps.length : Int) = 2 := by omega
        clear h2
        go_wp2
        go_ret2
        exact ⟨_, by rw [HF.out.1] <;> rfl, by rw [HF.out.2]; exact OwFra.emptyUp HBW2.out.size, HBW2.out⟩
      obtain ⟨t0, t1, rfl⟩ : ∃ a b, ps = [a, b] := by
        match ps, h2 with
        | [a, b], _ => exact ⟨a, b, rfl⟩
      have hcc := HC2.out
      have H0 : Hid (∀ W, Below w2.heap.size w2 W → W.cell? ⟨b2, 0, none⟩ = some (.string (bs t0))) := Lib.hid (fun W hW => (hW.cell hbl2).trans (hcc 0 (by simp)))
      have H1 : Hid (∀ W, Below w2.heap.size w2 W → W.cell? ⟨b2, 1, none⟩ = some (.string (bs t1))) := Lib.hid (fun W hW => (hW.cell hbl2).trans (hcc 1 (by simp)))
      have hpz : ∀ q ∈ [t0, t1], q.length ≤ 1048576 := fun q hq => by
        have := pcs_piece 47 t q (by rw [← HPs.out]; exact hq)
        have h3 := HSz.out
        rw [bs_size] at h3
        omega
      have HS0 : Hid ((bs t0).size ≤ 1048576) := Lib.hid (by rw [bs_size]; exact hpz t0 (by simp))
      have HS1 : Hid ((bs t1).size ≤ 1048576) := Lib.hid (by rw [bs_size]; exact hpz t1 (by simp))
      have HNm : Hid (fcOne t → NumOk t0 ∧ NumOk t1) := Lib.hid (fun h => by
        obtain ⟨a, b, e, ha, hb, _⟩ := h.parts
        rw [← HPs.out] at e
        simp at e
        obtain ⟨rfl, rfl⟩ := e
        exact ⟨ha, hb⟩)
      clear hcc hpz h2
      obtain ⟨n0, hn0⟩ : ∃ n, n = numV (bs t0).data.toList := ⟨_, rfl⟩
      obtain ⟨q0, hq0⟩ : ∃ n, n = numB (bs t0).data.toList := ⟨_, rfl⟩
      have HN0 := Lib.hid hn0
      have HQ0 := Lib.hid hq0
      have HY0 : Hid (q0 = true → NumOk t0 ∧ n0 = valL t0) := Lib.hid (fun hq => by
        rw [hq0, bs_list] at hq
        rcases Classical.em (NumOk t0) with h | h
        · exact ⟨h, by rw [hn0, bs_list, (num_yes h).2]⟩
        · rw [(num_no h).1] at hq; cases hq)
      have HX0 : Hid (q0 = false → ¬ NumOk t0) := Lib.hid (fun hq h => by rw [hq0, bs_list, (num_yes h).1] at hq; cases hq)
      clear hn0 hq0
      obtain ⟨n1, hn1⟩ : ∃ n, n = numV (bs t1).data.toList := ⟨_, rfl⟩
      obtain ⟨q1, hq1⟩ : ∃ n, n = numB (bs t1).data.toList := ⟨_, rfl⟩
      have HN1 := Lib.hid hn1
      have HQ1 := Lib.hid hq1
      have HY1 : Hid (q1 = true → NumOk t1 ∧ n1 = valL t1) := Lib.hid (fun hq => by
        rw [hq1, bs_list] at hq
        rcases Classical.em (NumOk t1) with h | h
        · exact ⟨h, by rw [hn1, bs_list, (num_yes h).2]⟩
        · rw [(num_no h).1] at hq; cases hq)
      have HX1 : Hid (q1 = false → ¬ NumOk t1) := Lib.hid (fun hq h => by rw [hq1, bs_list, (num_yes h).1] at hq; cases hq)
      clear hn1 hq1
      have HX2b := Lib.hid (Below.refl w2.heap.size w2)
      have hc0 : w2.cell? ⟨b2, 0, none⟩ = some (.string (bs t0)) := H0.out _ HX2b.out
      go_wp2_with fail
      refine (specNumber (bs t0) _ HS0.out).mono ?_
      rintro e w3 ⟨rfl, bb⟩
      rw [← HN0.out, ← HQ0.out]
      have HX3b := Lib.hid (HX2b.out.trans (bb.mono HX2b.out.size))
      have HO3 := Lib.hid (HO2.out.below bb (Nat.le_refl _)).up
      have HW3 := Lib.hid (HW2.out.trans (bb.mono HW2.out.size))
      have HBW3 := Lib.hid (HBW2.out.trans (bb.mono HBW2.out.size))
      clear bb hc0
      have hc1 : w3.cell? ⟨b2, 1, none⟩ = some (.string (bs t1)) := H1.out _ HX3b.out
      go_wp2_with fail
      refine (specNumber (bs t1) _ HS1.out).mono ?_
      rintro e w4 ⟨rfl, bb⟩
      rw [← HN1.out, ← HQ1.out]
      have HX4b := Lib.hid (HX3b.out.trans (bb.mono HX3b.out.size))
      have HO4 := Lib.hid (HO3.out.below bb (Nat.le_refl _)).up
      have HW4 := Lib.hid (HW3.out.trans (bb.mono HW3.out.size))
      have HBW4 := Lib.hid (HBW3.out.trans (bb.mono HBW3.out.size))
      clear bb hc1
      rcases eqOr q0 with hb | hb
      · have HF := Lib.hid (HNo.out (fun h => HX0.out hb (HNm.out h).1))
        subst hb
        go_wp2
        go_ret2
        exact ⟨_, by rw [HF.out.1] <;> rfl, by rw [HF.out.2]; exact OwFra.emptyUp HBW4.out.size, HBW4.out⟩
      have HY0' := Lib.hid (HY0.out hb)
      subst hb
      rcases eqOr q1 with hb | hb
      · have HF := Lib.hid (HNo.out (fun h => HX1.out hb (HNm.out h).2))
        subst hb
        go_wp2
        go_ret2
        exact ⟨_, by rw [HF.out.1] <;> rfl, by rw [HF.out.2]; exact OwFra.emptyUp HBW4.out.size, HBW4.out⟩
      have HY1' := Lib.hid (HY1.out hb)
      subst hb
      have HOne : Hid (fcOne t) := Lib.hid (fcOne_of HPs.out.symm HY0'.out.1 HY1'.out.1)
      have HFv : Hid (fcV t = ⟨n0, n1⟩) := Lib.hid (by
        obtain ⟨a, b, e, _, _, hv⟩ := HOne.out.parts
        rw [← HPs.out] at e
        simp at e
        obtain ⟨rfl, rfl⟩ := e
        rw [hv, HY0'.out.2, HY1'.out.2])
      have HFit : Hid ((⟨n0, n1⟩ : Fra).fit) := Lib.hid (by rw [← HFv.out]; exact fcOne.fit HOne.out)
      have HSn : Hid ((ts.take (k + 1)).map fcV = (ts.take k).map fcV ++ [⟨n0, n1⟩]) := Lib.hid (by rw [map_takeS fcV ts k hlt, ← HT.out, HFv.out])
      have HAn : Hid (∀ j, j < k + 1 → fcOne (ts.getD j [])) := Lib.hid (all_takeS HA.out (by rw [← HT.out]; exact HOne.out))
      have hln8 := HLn.out
      obtain ⟨Z, hZ⟩ : ∃ Z, Z = (ts.take k).map fcV := ⟨_, rfl⟩
      have hor := HO4.out
      rw [← hZ] at hor
      have HOR := Lib.hid hor
      have HZ := Lib.hid hZ
      have hlz : Z.length ≤ 100 := by rw [hZ]; simp; have := HLn.out; omega
      have hb6 : ∀ ob : Obj, Hid (Below w4.heap.size w4 (w4.alloc ob)) := fun ob => Lib.hid ((Below.refl _ _).alloc (Nat.le_refl _) ob)
      clear hor hZ
      go_wp2_with (at_builtin; refine wpList_append_Fra rfl _ _ rfl w1.heap.size _ _ Z [⟨n0, n1⟩] rfl (HOR.out.below (hb6 _).out (Nat.le_refl _)).row rfl (rdFra_one (Cels.new _ _ _) HFit.out) (by simp; omega) (Nat.le_trans HOR.out.base (hb6 _).out.size) ?_)
      intro v5 w5 hown6 hgrow6
      have HX := Lib.hid (HOR.out.snoc HFit.out (by omega) (by simpa [csFra_append, csFra_cons, Fra.cs] using hown6) hgrow6)
      have HB6 := Lib.hid (HW4.out.trans (HX.out.2.mono (Nat.le_refl _)))
      clear hown6 hgrow6
      go_wp2
      go_roundw
      case rel => exact ⟨k + 1, by omega, by go_num, HAn.out, by rw [HSn.out, ← HZ.out]; exact HX.out.1, HB6.out⟩
      case measure => simp [intOf]; omega
    · obtain rfl : k = ts.length := by omega
      have hnlt : ¬ ((ts.length : Int) < (ts.length : Int)) := by omega
      rw [List.take_length] at hown hso
      obtain ⟨Z, hZ⟩ : ∃ Z, Z = ts.map fcV := ⟨_, rfl⟩
      rw [← hZ] at hown hso
      have HZ := Lib.hid hZ
      have HO := Lib.hid hown
      have hlz : Z.length = ts.length := by rw [hZ, List.length_map]
      rw [hlz] at hso
      subst hso
      have HAll : Hid (AllFc ts) := Lib.hid HA.out
      obtain ⟨q, hq⟩ : ∃ q, q = frsB Z := ⟨_, rfl⟩
      have HQ := Lib.hid hq
      clear hlt hbel hq hZ hown hall hlz
      go_wp2_with fail
      refine (specFIs _ Z _ HO.out.rd).mono ?_
      rintro e w2 ⟨rfl, rfl⟩
      rw [← HQ.out]
      rcases eqOr q with hb | hb
      · subst hb
        have HF := Lib.hid (HBad.out (fun h => by have := h.2; rw [← HZ.out, ← HQ.out] at this; cases this))
        go_wp2
        go_ret2
        exact ⟨_, by rw [HF.out.1] <;> rfl, by rw [HF.out.2]; exact OwFra.emptyUp HBW.out.size, HBW.out⟩
      subst hb
      have HFr : Hid (FrR Z) := Lib.hid (frsB_r HQ.out.symm)
      have HTx : Hid (bs (frX Z) = s) := Lib.hid (by rw [HZ.out, HTs.out, rf_text (by rw [← HTs.out]; exact HAll.out), HL.out, bs_of])
      have HF := Lib.hid (rf_good (l := l) (by rw [← HTs.out]; exact ⟨HAll.out, by rw [← HZ.out]; exact HQ.out.symm⟩))
      have es : (s.toList == s.toList) = true := by simp
      go_wp2_with fail
      refine (specFrT _ Z _ HO.out.rd HFr.out).mono ?_
      rintro e w3 ⟨rfl, hb3⟩
      rw [HTx.out]
      have HO3 := Lib.hid (HO.out.below hb3 (Nat.le_refl _)).up
      have HB3 := Lib.hid (HBW.out.trans (hb3.mono HBW.out.size))
      clear hb3
      go_wp2
      go_ret2
      exact ⟨_, by rw [HF.out.1] <;> rfl, by rw [HF.out.2, ← HTs.out, ← HZ.out]; exact HO3.out.mono HB1.out.size (Nat.le_refl _) (Nat.le_refl _), HB3.out⟩
end Go.Proofs.YtbifkjmmhfnblaaDoor.Ints
