/- Rewriting rules read from a text, of the model. -/
import Derived.Test.YtbigoljfanendaaDoorRdX
import Derived.Test.YtbigoljfanendaaDoorRvR
import Derived.Test.YtbigoljfanendaaDoorRwU
import Derived.Test.YtbigoljfanendaaDoorRkV
import Derived.Test.YtbigoljfanendaaDoorRlS
import Derived.Test.YtbigoljfanendaaDoorPgP
namespace Go.Proofs.YtbigoljfanendaaDoor.Ints
open Go.RowKit
set_option linter.unusedVariables false
set_option linter.unusedSimpArgs false
theorem wdT_read {s : ByteArray} (h : rdB s = true) : wdT (rdV s) = s.data.toList := by
  by_cases hd : s.toList = [45]
  · rw [(rd_dash hd).2, ← ByteArray.toList_eq s, hd]; rfl
  · by_cases hk : Rok s
    · rw [(rd_good hd hk).2]
      have hl : s.data.toList.length = s.size := by simp
      have hne : rdL s ≠ [] := fun e => by
        have := congrArg List.length e
        rw [rdL_length] at this
        exact hk.1 this
      rw [wdT, if_neg hne]
      apply List.ext_getElem
      · rw [dgT_length, rdL_length, hl]
      · intro i h1 h2
        have hi : i < s.size := by omega
        have hd2 := hk.2.2 i hi
        unfold Dgt at hd2
        have hb := bt_gets hi
        simp only [dgT, rdL, List.getElem_map, List.getElem_range]
        have e : (48 + ((bt s i : Int) - 48).toNat) = bt s i := by omega
        rw [e, hb, List.getD_eq_getElem?_getD, List.getElem?_eq_getElem (by omega)]
        show UInt8.ofNat (s.data.toList[i]).toNat = _
        simp
    · have := (rd_bad hd hk).1; rw [this] at h; cases h
theorem rd_mem {s : ByteArray} {c : UInt8} (h : rdB s = true) (hc : c ∈ s.data.toList) : c = 45 ∨ (48 ≤ c.toNat ∧ c.toNat ≤ 57) := by
  by_cases hd : s.toList = [45]
  · rw [ByteArray.toList_eq s] at hd
    rw [hd] at hc; simp at hc; exact .inl hc
  · by_cases hk : Rok s
    · obtain ⟨i, hi, e⟩ := List.getElem_of_mem hc
      have hl : s.data.toList.length = s.size := by simp
      have hi2 : i < s.size := by omega
      have hd2 := hk.2.2 i hi2
      unfold Dgt at hd2
      have hb := bt_gets hi2
      rw [List.getD_eq_getElem?_getD, List.getElem?_eq_getElem hi, e] at hb
      have e2 : bt s i = c.toNat := hb
      exact .inr (by omega)
    · have := (rd_bad hd hk).1; rw [this] at h; cases h
theorem rd_empty : rdB (bs []) = false := (rd_bad (s := bs []) (by rw [ByteArray.toList_eq, bs_list]; simp) (fun h => h.1 (by rw [bs_size]; rfl))).1
theorem rdV_fit (s : ByteArray) : Fit (rdV s) := by
  by_cases hd : s.toList = [45]
  · rw [(rd_dash hd).2]; exact Fit.nil
  · by_cases hk : Rok s
    · rw [(rd_good hd hk).2]; exact rdL_fit hk.2.2
    · rw [(rd_bad hd hk).2]; exact Fit.nil
/-- A text of one rule. -/
def rwOne (t : List UInt8) : Prop := (pcs 62 t).length = 2 ∧ rdB (bs ((pcs 62 t).getD 0 [])) = true ∧ rdB (bs ((pcs 62 t).getD 1 [])) = true
noncomputable def tpV (t : List UInt8) : Tp := ⟨rdV (bs ((pcs 62 t).getD 0 [])), rdV (bs ((pcs 62 t).getD 1 []))⟩
theorem rwOne.parts {t : List UInt8} (h : rwOne t) : ∃ a b, pcs 62 t = [a, b] ∧ rdB (bs a) = true ∧ rdB (bs b) = true ∧ tpV t = ⟨rdV (bs a), rdV (bs b)⟩ := by
  obtain ⟨h1, h2, h3⟩ := h
  obtain ⟨a, b, e⟩ : ∃ a b, pcs 62 t = [a, b] := by
    match pcs 62 t, h1 with
    | [a, b], _ => exact ⟨a, b, rfl⟩
  refine ⟨a, b, e, by simpa [e] using h2, by simpa [e] using h3, by simp [tpV, e]⟩
theorem rwOne_of {t a b : List UInt8} (e : pcs 62 t = [a, b]) (ha : rdB (bs a) = true) (hb : rdB (bs b) = true) : rwOne t ∧ tpV t = ⟨rdV (bs a), rdV (bs b)⟩ := ⟨⟨by rw [e]; rfl, by simpa [e] using ha, by simpa [e] using hb⟩, by simp [tpV, e]⟩
theorem rwOne.text {t : List UInt8} (h : rwOne t) : rwT (tpV t) = t := by
  obtain ⟨a, b, e, ha, hb, hv⟩ := h.parts
  rw [hv, rwT, wdT_read ha, wdT_read hb, bs_list, bs_list]
  have := join_pcs 62 t
  rw [e, show ([a, b] : List (List UInt8)) = [a] ++ [b] from rfl, join_snoc _ _ _ (by simp), Lib.join_one] at this
  exact this
/-- How the program reads a rule: cut at the sign. -/
theorem rw_cut (t : List UInt8) : rwOne t ↔ rdB (bs (Lib.cut t [62]).1) = true ∧ rdB (bs (Lib.cut t [62]).2.1) = true := by
  constructor
  · intro h
    obtain ⟨a, b, e, ha, hb, _⟩ := h.parts
    obtain ⟨e1, h1, h2⟩ := pcs_two_eq e
    rw [e1, cut_at 62 a b h1]; exact ⟨ha, hb⟩
  · rintro ⟨ha, hb⟩
    rcases cut_pcs 62 t with ⟨_, _, e⟩ | ⟨a, b, hn, e, e1, e2⟩
    · rw [e] at hb
      have hb' : rdB (bs []) = true := hb
      rw [rd_empty] at hb'; cases hb'
    · rw [e2] at ha hb
      have hno : (62 : UInt8) ∉ b := fun hm => by
        have hm2 : (62 : UInt8) ∈ (bs b).data.toList := by rw [bs_list]; exact hm
        rcases rd_mem hb hm2 with h | h
        · cases h
        · have : (62 : UInt8).toNat = 62 := rfl
          omega
      rw [pcs_no 62 b hno] at e1
      exact (rwOne_of e1 ha hb).1
theorem rw_val {t : List UInt8} (h : rwOne t) : tpV t = ⟨rdV (bs (Lib.cut t [62]).1), rdV (bs (Lib.cut t [62]).2.1)⟩ := by
  obtain ⟨a, b, e, _, _, hv⟩ := h.parts
  obtain ⟨e1, h3, _⟩ := pcs_two_eq e
  rw [hv, e1, cut_at 62 a b h3]
def AllRw (ts : List (List UInt8)) : Prop := ∀ j, j < ts.length → rwOne (ts.getD j [])
def rqOk (ts : List (List UInt8)) : Prop := AllRw ts ∧ rwsB (ts.map tpV) = true
open Classical in
noncomputable def rqB (l : List UInt8) : Bool := decide (rqOk (pcs 32 l))
open Classical in
noncomputable def rqV (l : List UInt8) : List Tp := if rqOk (pcs 32 l) then (pcs 32 l).map tpV else []
theorem rq_bad {l : List UInt8} (k : ¬ rqOk (pcs 32 l)) : rqB l = false ∧ rqV l = [] := by simp [rqB, rqV, k]
theorem rq_good {l : List UInt8} (k : rqOk (pcs 32 l)) : rqB l = true ∧ rqV l = (pcs 32 l).map tpV := by simp [rqB, rqV, k]
theorem totR_bound (ts : List Tp) (n : Nat) (h : ∀ t ∈ ts, t.l.length ≤ 400 ∧ t.r.length ≤ 400) : totR ts ≤ 800 * ts.length := by
  induction ts with
  | nil => simp [totR]
  | cons t ts ih =>
    have h1 := h t (by simp)
    have h2 := ih (fun u hu => h u (by simp [hu]))
    simp only [totR, List.length_cons]
    omega
theorem rqV_tot (l : List UInt8) : totR (rqV l) ≤ 48000 := by
  unfold rqV
  split
  · rename_i h
    have h1 := (rwsB_len h.2).2
    have h2 := totR_bound ((pcs 32 l).map tpV) 0 (fun t ht => by
      obtain ⟨p, hp, rfl⟩ := List.mem_map.1 ht
      exact ⟨rdV_len _, rdV_len _⟩)
    omega
  · simp [totR]
theorem rq_text {l : List UInt8} (h : AllRw (pcs 32 l)) : rwX ((pcs 32 l).map tpV) = l := by
  unfold rwX
  rw [List.map_map]
  have e : (pcs 32 l).map (rwT ∘ tpV) = pcs 32 l := by
    conv => rhs; rw [← List.map_id (pcs 32 l)]
    refine List.map_congr_left fun t ht => ?_
    obtain ⟨i, hi, rfl⟩ := List.getElem_of_mem ht
    have := h i hi
    rw [List.getD_eq_getElem?_getD, List.getElem?_eq_getElem hi] at this
    exact rwOne.text this
  rw [e, join_pcs]
theorem all_takeW {ts : List (List UInt8)} {k : Nat} (h : ∀ j, j < k → rwOne (ts.getD j [])) (hk : rwOne (ts.getD k [])) : ∀ j, j < k + 1 → rwOne (ts.getD j []) := fun j hj => by
  by_cases he : j = k
  · subst he; exact hk
  · exact h j (by omega)
theorem wordRow {w : World} {B T : Nat} {u : Value} {zs : List Int} (h : Ow w B T u zs) : ∃ a c, u = .slice a zs.length c := h.shape
/-- What l10Both answers. -/
def BothPost (t : List UInt8) (w : World) (e : Ending) (w' : World) : Prop :=
  (∃ u v q, e = .returned (.tuple #[u, v, .bool q]) ∧ ((q = true ∧ rwOne t ∧ Ow w' w.heap.size w'.heap.size u (tpV t).l ∧ Ow w' w.heap.size w'.heap.size v (tpV t).r ∧ Sep u v) ∨ (q = false ∧ ¬ rwOne t))) ∧ Below w.heap.size w w'
set_option maxHeartbeats 4000000 in
theorem specBoth (s : ByteArray) (w : World) (hs : s.size ≤ 1048576) : Calls Tryd.prog 66 #[.string s] w (BothPost s.data.toList w) := by
  obtain ⟨l, hl⟩ : ∃ l, l = s.data.toList := ⟨_, rfl⟩
  rw [← hl]
  have HL := Lib.hid hl
  obtain ⟨ts, hts⟩ : ∃ ts, ts = pcs 62 l := ⟨_, rfl⟩
  have HTs := Lib.hid hts
  have HPz : Hid (∀ q ∈ ts, q.length ≤ 1048576) := Lib.hid (fun q hq => by
    have := pcs_piece 62 l q (by rw [← hts]; exact hq)
    have h2 := Lib.size_eq s
    rw [hl] at this
    omega)
  have HSp := Lib.hid (specSplit s 62 62 rfl w hs)
  clear hl hts hs
  go_enter Tryd.func66, Tryd.ntmps66
  go_wp2_with fail
  refine HSp.out.mono ?_
  rintro e w1 ⟨u, rfl, hr, hb1⟩
  rw [← HL.out, ← HTs.out] at hr
  obtain ⟨b, c1, rfl, hcap, hbl, hcell⟩ := hr
  have HC := Lib.hid hcell
  have HB1 := Lib.hid hb1
  clear hcell hb1
  by_cases h2 : ts.length = 2
  rotate_left
  · have e3 : ((ts.length : Int) == 2) = false := by rw [beq_eq_false_iff_ne]; omega
    have e3' : ¬ (ts.length : Int) = 2 := by omega
    have HN2 : Hid (¬ rwOne l) := Lib.hid (fun h => h2 (by rw [HTs.out]; exact h.1))
    clear h2
    go_wp2
    refine bodyPost_ret (v := .tuple #[.slice none 0 0, .slice none 0 0, .bool false]) (by simp [results, Tryd.f66, go_sem]) rfl ?_
    exact ⟨⟨_, _, _, rfl, .inr ⟨rfl, HN2.out⟩⟩, HB1.out⟩
  obtain ⟨t0, t1, rfl⟩ : ∃ a b, ts = [a, b] := by
    match ts, h2 with
    | [a, b], _ => exact ⟨a, b, rfl⟩
  have hcc := HC.out
  have H0 : Hid (∀ W, Below w1.heap.size w1 W → W.cell? ⟨b, 0, none⟩ = some (.string (bs t0))) := Lib.hid (fun W hW => (hW.cell hbl).trans (hcc 0 (by simp)))
  have H1 : Hid (∀ W, Below w1.heap.size w1 W → W.cell? ⟨b, 1, none⟩ = some (.string (bs t1))) := Lib.hid (fun W hW => (hW.cell hbl).trans (hcc 1 (by simp)))
  have HS0 : Hid ((bs t0).size ≤ 1048576) := Lib.hid (by rw [bs_size]; exact HPz.out t0 (by simp))
  have HS1 : Hid ((bs t1).size ≤ 1048576) := Lib.hid (by rw [bs_size]; exact HPz.out t1 (by simp))
  have HNo : Hid (rwOne l → rdB (bs t0) = true ∧ rdB (bs t1) = true) := Lib.hid (fun h => by
    obtain ⟨a, b, e, ha, hb, _⟩ := h.parts
    rw [← HTs.out] at e
    simp at e
    obtain ⟨rfl, rfl⟩ := e
    exact ⟨ha, hb⟩)
  have HYs : Hid (rdB (bs t0) = true → rdB (bs t1) = true → rwOne l ∧ tpV l = ⟨rdV (bs t0), rdV (bs t1)⟩) := Lib.hid (fun h0 h1 => rwOne_of HTs.out.symm h0 h1)
  obtain ⟨q0, hq0⟩ : ∃ q, q = rdB (bs t0) := ⟨_, rfl⟩
  obtain ⟨q1, hq1⟩ : ∃ q, q = rdB (bs t1) := ⟨_, rfl⟩
  have HQ0 := Lib.hid hq0
  have HQ1 := Lib.hid hq1
  clear hcc h2 hq0 hq1
  have hc0 := H0.out _ (Below.refl _ _)
  go_wp2_with fail
  refine (specRead3 (bs t0) _ HS0.out).mono ?_
  rintro e w2 ⟨u0, rfl, bb, ho0⟩
  rw [← HQ0.out] at ho0 ⊢
  have HO0 := Lib.hid ho0
  have HX2 := Lib.hid bb
  have HB2 := Lib.hid (HB1.out.trans (bb.mono HB1.out.size))
  clear bb hc0 ho0
  have hc1 := H1.out _ HX2.out
  go_wp2_with fail
  refine (specRead3 (bs t1) _ HS1.out).mono ?_
  rintro e w3 ⟨u1, rfl, bb, ho1⟩
  rw [← HQ1.out] at ho1 ⊢
  have HO1 := Lib.hid ho1
  have HX3 := Lib.hid bb
  have HB3 := Lib.hid (HB2.out.trans (bb.mono HB2.out.size))
  clear bb hc1 ho1
  rcases eqOr q0 with hb | hb
  · have HF : Hid (¬ rwOne l) := Lib.hid (fun h => by have := (HNo.out h).1; rw [← HQ0.out, hb] at this; cases this)
    subst hb
    go_wp2
    refine bodyPost_ret (v := .tuple #[u0, u1, .bool false]) (by simp [results, Tryd.f66, go_sem]) rfl ?_
    exact ⟨⟨_, _, _, rfl, .inr ⟨rfl, HF.out⟩⟩, HB3.out⟩
  have HO0' := Lib.hid (HO0.out hb)
  have HE0 := Lib.hid hb
  subst hb
  rcases eqOr q1 with hb | hb
  · have HF : Hid (¬ rwOne l) := Lib.hid (fun h => by have := (HNo.out h).2; rw [← HQ1.out, hb] at this; cases this)
    subst hb
    go_wp2
    refine bodyPost_ret (v := .tuple #[u0, u1, .bool false]) (by simp [results, Tryd.f66, go_sem]) rfl ?_
    exact ⟨⟨_, _, _, rfl, .inr ⟨rfl, HF.out⟩⟩, HB3.out⟩
  have HO1' := Lib.hid (HO1.out hb)
  subst hb
  have HGd := Lib.hid (HYs.out HQ0.out.symm HQ1.out.symm)
  have HSep : Hid (Sep u0 u1) := Lib.hid (sep_of HO0'.out.top HO1'.out.row.lt (Nat.le_refl _))
  go_wp2
  refine bodyPost_ret (v := .tuple #[u0, u1, .bool true]) (by simp [results, Tryd.f66, go_sem]) rfl ?_
  refine ⟨⟨_, _, _, rfl, .inl ⟨rfl, HGd.out.1, ?_, ?_, HSep.out⟩⟩, HB3.out⟩
  · rw [HGd.out.2]; exact (HO0'.out.below HX3.out (Nat.le_refl _)).up.mono HB1.out.size (Nat.le_refl _) (Nat.le_refl _)
  · rw [HGd.out.2]; exact HO1'.out.mono HB2.out.size (Nat.le_refl _) (Nat.le_refl _)
set_option maxRecDepth 100000 in
set_option maxHeartbeats 8000000 in
theorem specReadRw (s : ByteArray) (w : World) (hs : s.size ≤ 1048576) :
    Calls Tryd.prog 21 #[.string s] w fun e w' => ∃ u, e = .returned (.tuple #[u, .bool (rqB s.data.toList)]) ∧ OwRN w' w.heap.size w'.heap.size u (rqV s.data.toList) ∧ Below w.heap.size w w' := by
  obtain ⟨n0, hi, hz0, hz1, hz2⟩ := info_parts infoT
  obtain ⟨l, hl⟩ : ∃ l, l = s.data.toList := ⟨_, rfl⟩
  rw [← hl]
  have HL := Lib.hid hl
  obtain ⟨ts, hts⟩ : ∃ ts, ts = pcs 32 l := ⟨_, rfl⟩
  have HTs := Lib.hid hts
  have HSm := Lib.hid (pcs_small 32 s hs)
  rw [← hl, ← hts] at HSm
  have HBad : Hid (¬ rqOk ts → rqB l = false ∧ rqV l = []) := Lib.hid (fun h => rq_bad (by rw [← hts]; exact h))
  have HSp := Lib.hid (specSplit s 32 32 rfl w hs)
  clear hl hts hs
  go_enter Tryd.func21, Tryd.ntmps21
  go_wp2_with fail
  refine HSp.out.mono ?_
  rintro e w1 ⟨u, rfl, hr, hb1⟩
  rw [← HL.out, ← HTs.out] at hr
  have HB1 := Lib.hid hb1
  obtain ⟨b, c, rfl, hcap, hbl, hcell⟩ := hr
  have HC := Lib.hid hcell
  clear hcell hb1
  by_cases hlen : ts.length ≤ 60
  rotate_left
  · have HF := Lib.hid (HBad.out (fun h => hlen (by have := (rwsB_len h.2).2; rwa [List.length_map] at this)))
    have f1 : decide ((60 : Int) < (ts.length : Int)) = true := decide_eq_true (by omega)
    have f2 : decide (60 < ts.length) = true := decide_eq_true (by omega)
    clear hlen
    go_wp2
    go_ret2
    exact ⟨_, by rw [HF.out.1] <;> rfl, by rw [HF.out.2]; exact OwRN.none HB1.out.size, HB1.out⟩
  have f1 : decide ((60 : Int) < (ts.length : Int)) = false := decide_eq_false (by omega)
  have f2 : decide (60 < ts.length) = false := decide_eq_false (by omega)
  have HLn := Lib.hid hlen
  have HR0 : Hid ((w1.alloc (.cells #[] 97)).ownsRow w1.heap.size 97 2 (.slice (some ⟨w1.heap.size, 0, none⟩) 0 0) 0 []) := Lib.hid (World.ownsRow_made w1 #[] 0 (Nat.le_refl _) (by unfold maxLen; omega) (by simp))
  clear hlen
  go_wp2
  go_loopw [5, 6] (fun o i wr => ∃ (k : Nat) (ov : Value), o = ov ∧ k ≤ ts.length ∧ i = .int .i64 (k : Int) ∧ (∀ j, j < k → rwOne (ts.getD j [])) ∧ GrT wr w1.heap.size ov ((ts.take k).map tpV) ∧ Below w1.heap.size w1 wr) (fun _ i _ => ts.length - (intOf i).toNat)
  case atStart => exact ⟨0, _, rfl, Nat.zero_le _, rfl, fun j hj => by omega, ⟨[], by simpa using HR0.out, fun i hi => by simp at hi, fun i j x y _ hj => by simp at hj⟩, (Below.refl _ _).alloc (Nat.le_refl _) _⟩
  case round =>
    obtain ⟨k, ov, hov, hk, rfl, hall, hgr, hbel⟩ := hrel
    obtain rfl := hov.symm
    have HA := Lib.hid hall
    have HW := Lib.hid hbel
    have HGR := Lib.hid hgr
    have HBW : Hid (Below w.heap.size w wr) := Lib.hid (HB1.out.trans (hbel.mono HB1.out.size))
    have hln8 := HLn.out
    clear hall hgr
    by_cases hlt : k < ts.length
    · obtain ⟨t, ht⟩ : ∃ t, t = ts.getD k [] := ⟨_, rfl⟩
      have hc : wr.cell? ⟨b, k, none⟩ = some (.string (bs t)) := by rw [ht]; exact (hbel.cell hbl).trans (HC.out k hlt)
      have i0' : (0 : Int) ≤ (k : Int) := by omega
      have i1 : (k : Int) < (ts.length : Int) := by omega
      have HT := Lib.hid ht
      have HSz : Hid ((bs t).size ≤ 1048576) := Lib.hid (by rw [bs_size, ht]; exact HSm.out.1 k hlt)
      have HNo : Hid (¬ rwOne t → rqB l = false ∧ rqV l = []) := Lib.hid (fun h => HBad.out (fun h2 => h (by rw [HT.out]; exact h2.1 k hlt)))
      clear hbel ht
      go_wp2_with fail
      refine (specBoth (bs t) _ HSz.out).mono ?_
      rintro e w2 ⟨⟨u0, v0, q, rfl, hq⟩, bb⟩
      rw [bs_list] at hq
      have HQ := Lib.hid hq
      have HX2 := Lib.hid bb
      have HW2 := Lib.hid (HW.out.trans (bb.mono HW.out.size))
      have HBW2 := Lib.hid (HBW.out.trans (bb.mono HBW.out.size))
      clear bb hq
      rcases eqOr q with hb | hb
      · have HF := Lib.hid (HNo.out (by
          rcases HQ.out with ⟨h, _⟩ | ⟨_, h⟩
          · rw [hb] at h; cases h
          · exact h))
        subst hb
        go_wp2
        go_ret2
        exact ⟨_, by rw [HF.out.1] <;> rfl, by rw [HF.out.2]; exact OwRN.none HBW2.out.size, HBW2.out⟩
      have hy : rwOne t ∧ Ow w2 wr.heap.size w2.heap.size u0 (tpV t).l ∧ Ow w2 wr.heap.size w2.heap.size v0 (tpV t).r ∧ Sep u0 v0 := by
        rcases HQ.out with ⟨_, h⟩ | ⟨h, _⟩
        · exact h
        · rw [hb] at h; cases h
      obtain ⟨hone, hp, hq, hsep⟩ := hy
      obtain ⟨ga, gc, hsa⟩ := hp.shape
      obtain ⟨gb, gd, hsb⟩ := hq.shape
      obtain ⟨n1, hn1⟩ : ∃ n, n = (tpV t).l.length := ⟨_, rfl⟩
      obtain ⟨n2, hn2⟩ : ∃ n, n = (tpV t).r.length := ⟨_, rfl⟩
      rw [← hn1] at hsa
      rw [← hn2] at hsb
      subst hsa
      subst hsb
      have HP := Lib.hid hp
      have HQ2 := Lib.hid hq
      have HSEP := Lib.hid hsep
      have HOne := Lib.hid hone
      have HSn : Hid ((ts.take (k + 1)).map tpV = (ts.take k).map tpV ++ [tpV t]) := Lib.hid (by rw [map_takeS tpV ts k hlt, ← HT.out])
      have HAn : Hid (∀ j, j < k + 1 → rwOne (ts.getD j [])) := Lib.hid (all_takeW HA.out (by rw [← HT.out]; exact HOne.out))
      obtain ⟨cs, hown, hcop, hsq⟩ := HGR.out
      have HCO := Lib.hid hcop
      have HSQ := Lib.hid hsq
      have hlk : ((ts.take k).map tpV).length = k := by simp; omega
      have HLK := Lib.hid hlk
      have hown1 : w2.ownsRow w1.heap.size 97 2 ov k cs := by rw [hlk] at hown; exact ownC_below hown HX2.out (Nat.le_refl _)
      have HOW := Lib.hid hown1
      have hsz := Nat.le_trans HW.out.size HX2.out.size
      subst hb
      clear hp hq hsep hown hcop hsq hlk hn1 hn2 hone
      go_wp2_with (at_builtin; refine wpList_append_own _ rfl _ _ 46 rfl w1.heap.size 97 n0 (.agg #[.slice none 0 0, .slice none 0 0]) 2 48 Tryd.underlying46 hi hz0 hz1 hz2 rfl (by decide) _ _ _ rfl (hown1.alloc _) ⟨_, 0, none⟩ 1 1 [.slice ga n1 gc, .slice gb n2 gd] rfl rfl ?c1 ?c2 ?c3 ?c4 ?c5 ?_)
      case c1 => exact cellNew2 _ _ _ _
      case c2 => intro u hu; simp at hu; rcases hu with rfl | rfl <;> rfl
      case c3 => unfold maxLen; omega
      case c4 => omega
      case c5 => first | omega | (simp; omega)
      intro v' w5 hown2 hgrow _
      have HBA : Hid (Below wr.heap.size wr (w2.alloc (Obj.cells #[.slice ga n1 gc, .slice gb n2 gd] 97))) := Lib.hid (HX2.out.alloc HX2.out.size _)
      have hbw : Below w2.heap.size w2 (w2.alloc (Obj.cells #[.slice ga n1 gc, .slice gb n2 gd] 97)) := (Below.refl _ _).alloc (Nat.le_refl _) _
      have HG2 : Hid (GrT w5 w1.heap.size v' ((ts.take (k + 1)).map tpV)) := Lib.hid (by
        rw [HSn.out]
        have hlk := HLK.out
        exact rows_snoc (t := tpV t) (w0 := wr) (w := w2.alloc (Obj.cells #[.slice ga n1 gc, .slice gb n2 gd] 97)) HCO.out HSQ.out HBA.out HW.out.size (by rw [hlk]; exact HOW.out.alloc _) (HP.out.below hbw (Nat.le_refl _)).up (HQ2.out.below hbw (Nat.le_refl _)).up HSEP.out hgrow (by rw [hlk]; exact hown2))
      have HBX := Lib.hid ((HW.out.trans (HBA.out.mono HW.out.size)).grown hgrow (by simp; omega) (fun q hq => (HOW.out.lt q hq).1))
      clear hown2 hgrow hown1 hbw
      go_wp2
      go_roundw
      case rel => exact ⟨k + 1, v', rfl, by omega, by go_num, HAn.out, HG2.out, HBX.out⟩
      case measure => simp [intOf]; omega
    · obtain rfl : k = ts.length := by omega
      have hnlt : ¬ ((ts.length : Int) < (ts.length : Int)) := by omega
      obtain ⟨Z, hZ⟩ : ∃ Z, Z = ts.map tpV := ⟨_, rfl⟩
      have HZ := Lib.hid hZ
      have hlz : Z.length = ts.length := by rw [hZ, List.length_map]
      have HO : Hid (OwRN wr w1.heap.size wr.heap.size ov Z) := Lib.hid (by
        have h1 := HGR.out
        rw [List.take_length, ← hZ] at h1
        exact h1.own (by omega) HW.out.size)
      have HAll : Hid (AllRw ts) := Lib.hid HA.out
      obtain ⟨q, hq⟩ : ∃ q, q = rwsB Z := ⟨_, rfl⟩
      have HQ := Lib.hid hq
      obtain ⟨av, cv, hsh⟩ := HO.out.shape
      rw [hlz] at hsh
      subst hsh
      clear hlt hbel hq hZ hlz
      go_wp2_with fail
      refine (specRws _ Z _ HO.out.rdt).mono ?_
      rintro e w2 ⟨rfl, rfl⟩
      rw [← HQ.out]
      rcases eqOr q with hb | hb
      · have HF := Lib.hid (HBad.out (fun h => by have := h.2; rw [← HZ.out, ← HQ.out, hb] at this; cases this))
        subst hb
        go_wp2
        go_ret2
        exact ⟨_, by rw [HF.out.1] <;> rfl, by rw [HF.out.2]; exact OwRN.none HBW.out.size, HBW.out⟩
      have HRr : Hid (RwR Z) := Lib.hid (rw_r (by rw [← HQ.out]; exact hb))
      have HTx : Hid (bs (rwX Z) = s) := Lib.hid (by rw [HZ.out, HTs.out, rq_text (by rw [← HTs.out]; exact HAll.out), HL.out, bs_of])
      have HF := Lib.hid (rq_good (l := l) (by rw [← HTs.out]; exact ⟨HAll.out, by rw [← HZ.out, ← HQ.out]; exact hb⟩))
      subst hb
      have es : (s.toList == s.toList) = true := by simp
      go_wp2_with fail
      refine (specRwT _ Z _ HO.out.rdt HRr.out).mono ?_
      rintro e w3 ⟨rfl, hb3⟩
      rw [HTx.out]
      have HO3 := Lib.hid ((HO.out.below hb3 (Nat.le_refl _)).wide HB1.out.size hb3.size)
      have HB3 := Lib.hid (HBW.out.trans (hb3.mono HBW.out.size))
      clear hb3
      go_wp2
      go_ret2
      exact ⟨_, by rw [HF.out.1] <;> rfl, by rw [HF.out.2, ← HTs.out, ← HZ.out]; exact HO3.out, HB3.out⟩
end Go.Proofs.YtbigoljfanendaaDoor.Ints
