/- Cyclic tag systems read from texts: values, and the model. -/
import Derived.Test.YtbifkjmmhfnblaaDoorRlS
import Derived.Test.YtbifkjmmhfnblaaDoorRkV
import Derived.Test.YtbifkjmmhfnblaaDoorCut
import Derived.Test.YtbifkjmmhfnblaaDoorTgV
import Derived.Test.YtbifkjmmhfnblaaDoorQrn
namespace Go.Proofs.YtbifkjmmhfnblaaDoor.Ints
open Go.RowKit
set_option linter.unusedVariables false
set_option linter.unusedSimpArgs false
def AllNu (ts : List (List UInt8)) : Prop := ∀ j, j < ts.length → NumOk (ts.getD j [])
/-- A text of a word of letters. -/
def twOk (t : List UInt8) : Prop := t = [45] ∨ AllNu (pcs 46 t)
noncomputable def twV (t : List UInt8) : List Int := if t = [45] then [] else (pcs 46 t).map valL
theorem twV_dash : twV [45] = [] := by simp [twV]
theorem twV_pcs {t : List UInt8} (h : t ≠ [45]) : twV t = (pcs 46 t).map valL := if_neg h
theorem twV_len {t : List UInt8} : (twV t).length ≤ (pcs 46 t).length := by
  unfold twV
  split
  · simp
  · simp
theorem twOk.ne {t : List UInt8} (h : twOk t) : t ≠ [] := fun e => by
  subst e
  rcases h with h | h
  · cases h
  · have e2 : pcs 46 [] = [[]] := by simp [pcs, pcRun]
    rw [e2] at h
    exact num_empty (h 0 (by simp))
def AllTw (ts : List (List UInt8)) : Prop := ∀ j, j < ts.length → twOk (ts.getD j [])
theorem all_takeT {ts : List (List UInt8)} {k : Nat} (h : ∀ j, j < k → twOk (ts.getD j [])) (hk : twOk (ts.getD k [])) : ∀ j, j < k + 1 → twOk (ts.getD j []) := fun j hj => by
  by_cases he : j = k
  · subst he; exact hk
  · exact h j (by omega)
theorem snocRecQ {P : List (List UInt8) → Prop} (h0 : P []) (h1 : ∀ xs c, P xs → P (xs ++ [c])) (l : List (List UInt8)) : P l := by
  have h : ∀ r : List (List UInt8), P r.reverse := fun r => by
    induction r with
    | nil => exact h0
    | cons c r ih => rw [List.reverse_cons]; exact h1 _ _ ih
  have h2 := h l.reverse
  rwa [List.reverse_reverse] at h2
theorem join_longQ (c : UInt8) (ts : List (List UInt8)) (h : ∀ t ∈ ts, t ≠ []) : ts.length ≤ (Lib.join ts [c]).length := by
  refine snocRecQ (P := fun ts => (∀ t ∈ ts, t ≠ []) → ts.length ≤ (Lib.join ts [c]).length) ?_ ?_ ts h
  · intro _; simp
  · intro ts t ih hm
    have ht : 0 < t.length := List.length_pos_iff.2 (hm t (by simp))
    have h1 := ih (fun u hu => hm u (by simp [hu]))
    by_cases hn : ts = []
    · subst hn
      rw [List.nil_append, Lib.join_one]; simp; omega
    · rw [join_snoc _ _ _ hn]
      simp only [List.length_append, List.length_cons, List.length_nil]
      omega
theorem all_shortT {l : List UInt8} (h : AllTw (pcs 44 l)) : (pcs 44 l).length ≤ l.length := by
  have := join_longQ 44 (pcs 44 l) (fun t ht => by
    obtain ⟨i, hi, e⟩ := List.getElem_of_mem ht
    have := h i hi
    rw [List.getD_eq_getElem?_getD, List.getElem?_eq_getElem hi, e] at this
    exact this.ne)
  rw [join_pcs] at this
  exact this
def cyOk (ts : List (List UInt8)) : Prop := AllTw ts ∧ cycB (ts.map twV) = true
open Classical in
noncomputable def cyB (l : List UInt8) : Bool := decide (cyOk (pcs 44 l))
open Classical in
noncomputable def cyV (l : List UInt8) : List (List Int) := if cyOk (pcs 44 l) then (pcs 44 l).map twV else []
theorem cy_bad {l : List UInt8} (k : ¬ cyOk (pcs 44 l)) : cyB l = false ∧ cyV l = [] := by simp [cyB, cyV, k]
theorem cy_good {l : List UInt8} (k : cyOk (pcs 44 l)) : cyB l = true ∧ cyV l = (pcs 44 l).map twV := by simp [cyB, cyV, k]
theorem tot_bound (n : Nat) (ts : List (List Int)) (h : ∀ t ∈ ts, t.length ≤ n) : tot ts ≤ n * ts.length := by
  induction ts with
  | nil => simp [tot]
  | cons t ts ih =>
    have h1 := h t (by simp)
    have h2 := ih (fun u hu => h u (by simp [hu]))
    simp only [tot, List.length_cons]
    rw [Nat.mul_succ]
    omega
theorem cyc_parts {zss : List (List Int)} (h : cycB zss = true) : zss.length ≤ 400 ∧ ∀ i, i < zss.length → (zss.getD i []).length ≤ 1000 := by
  simp only [cycB, Bool.and_eq_true, decide_eq_true_eq] at h
  exact ⟨by omega, fun i hi => (overB_ok (allQ_at h.2 hi)).1⟩
theorem cyV_tot (l : List UInt8) : tot (cyV l) ≤ 400000 := by
  unfold cyV
  split
  · rename_i h
    obtain ⟨h1, h2⟩ := cyc_parts h.2
    have := tot_bound 1000 ((pcs 44 l).map twV) (fun t ht => by
      obtain ⟨i, hi, e⟩ := List.getElem_of_mem ht
      have := h2 i hi
      rwa [List.getD_eq_getElem?_getD, List.getElem?_eq_getElem hi, Option.getD_some, e] at this)
    omega
  · simp [tot]
theorem getD_mapT {ts : List (List UInt8)} {i : Nat} (hi : i < ts.length) : (ts.map twV).getD i [] = twV (ts.getD i []) := by
  rw [List.getD_eq_getElem?_getD, List.getD_eq_getElem?_getD, List.getElem?_map, List.getElem?_eq_getElem hi]; rfl
def LetPost (l : List UInt8) (w : World) (e : Ending) (w' : World) : Prop :=
  (∃ u q, e = .returned (.tuple #[u, .bool q]) ∧ ((q = true ∧ twOk l ∧ (twV l).length ≤ 1000 ∧ Ow w' w.heap.size w'.heap.size u (twV l)) ∨ (q = false ∧ u = .slice none 0 0 ∧ ¬ (twOk l ∧ (twV l).length ≤ 1000)))) ∧ Below w.heap.size w w'
set_option maxRecDepth 100000 in
set_option maxHeartbeats 4000000 in
theorem specLetQ (s : ByteArray) (w : World) (hs : s.size ≤ 1048576) : Calls Tryd.prog 102 #[.string s] w (LetPost s.data.toList w) := by
  obtain ⟨n0, hi, hz0, hz1, hz2⟩ := info_parts infoE
  obtain ⟨l, hl⟩ : ∃ l, l = s.data.toList := ⟨_, rfl⟩
  rw [← hl]
  have HL := Lib.hid hl
  by_cases hd : s.toList = [45]
  · have hd2 : l = [45] := by rw [hl, ← ByteArray.toList_eq s]; exact hd
    have e1 : (s.toList == [45]) = true := by simp [hd]
    have HO := Lib.hid (Ow.made w)
    have HD := Lib.hid hd2
    clear hd hl hd2
    go_enter Tryd.func102, Tryd.ntmps102
    go_wp2
    go_ret2
    exact ⟨⟨_, true, rfl, .inl ⟨rfl, .inl HD.out, by rw [HD.out, twV_dash]; simp, by rw [HD.out, twV_dash]; exact HO.out⟩⟩, (Below.refl _ _).alloc (Nat.le_refl _) _⟩
  have e1 : (s.toList == [45]) = false := by simpa using hd
  have HDs : Hid (l ≠ [45]) := Lib.hid (by rw [hl, ← ByteArray.toList_eq s]; exact hd)
  obtain ⟨ts, hts⟩ : ∃ ts, ts = pcs 46 l := ⟨_, rfl⟩
  have HTs := Lib.hid hts
  have HSm := Lib.hid (pcs_small 46 s hs)
  rw [← hl, ← hts] at HSm
  have HV : Hid (twV l = ts.map valL) := Lib.hid (by rw [hts]; exact twV_pcs HDs.out)
  have HOk : Hid (twOk l ↔ AllNu ts) := Lib.hid ⟨fun h => by rcases h with h | h; exact absurd h HDs.out; rw [hts]; exact h, fun h => .inr (by rw [← hts]; exact h)⟩
  have HSp := Lib.hid (specSplitC s 46 46 rfl (w.alloc (.cells #[] 2)) hs)
  have HBA : Hid (Below w.heap.size w (w.alloc (.cells #[] 2))) := Lib.hid ((Below.refl _ _).alloc (Nat.le_refl _) _)
  have HOM := Lib.hid (Ow.made w)
  clear hl hts hs hd
  go_enter Tryd.func102, Tryd.ntmps102
  go_wp2_with fail
  refine HSp.out.mono ?_
  rintro e w1 ⟨u, rfl, hr, hb1⟩
  rw [← HL.out, ← HTs.out] at hr
  have HB1 := Lib.hid (HBA.out.trans (hb1.mono HBA.out.size))
  have HO1 := Lib.hid (HOM.out.below hb1 (Nat.le_refl _)).up
  obtain ⟨b, c, cs, rfl, hcap, hcels, hcell⟩ := hr
  have HC := Lib.hid hcell
  have HK := Lib.hid hcels
  clear hcell hb1 hcels
  by_cases hlen : ts.length ≤ 1000
  rotate_left
  · have HF : Hid (¬ (twOk l ∧ (twV l).length ≤ 1000)) := Lib.hid (fun h => hlen (by have := h.2; rwa [HV.out, List.length_map] at this))
    have f1 : decide ((1000 : Int) < (ts.length : Int)) = true := decide_eq_true (by omega)
    have f2 : decide (1000 < ts.length) = true := decide_eq_true (by omega)
    clear hlen
    go_wp2
    go_ret2
    exact ⟨⟨_, false, rfl, .inr ⟨rfl, rfl, HF.out⟩⟩, HB1.out⟩
  have f1 : decide ((1000 : Int) < (ts.length : Int)) = false := decide_eq_false (by omega)
  have f2 : decide (1000 < ts.length) = false := decide_eq_false (by omega)
  have HLn := Lib.hid hlen
  clear hlen
  go_wp2
  go_loopw [4, 6] (fun o i wr => ∃ (k : Nat) (ov : Value), o = ov ∧ k ≤ ts.length ∧ i = .int .i64 (k : Int) ∧ (∀ j, j < k → NumOk (ts.getD j [])) ∧ Ow wr w.heap.size wr.heap.size ov ((ts.take k).map valL) ∧ Cels wr b 9 cs ∧ Below w.heap.size w wr) (fun _ i _ => ts.length - (intOf i).toNat)
  case atStart => exact ⟨0, _, rfl, Nat.zero_le _, rfl, fun j hj => by omega, HO1.out, HK.out, HB1.out⟩
  case round =>
    obtain ⟨k, ov, hov, hk, rfl, hall, hown, hkr, hbel⟩ := hrel
    obtain rfl := hov.symm
    have HA := Lib.hid hall
    have HBW := Lib.hid hbel
    have HKR := Lib.hid hkr
    have HO := Lib.hid hown
    have hln8 := HLn.out
    clear hall hown
    by_cases hlt : k < ts.length
    · obtain ⟨t, ht⟩ : ∃ t, t = ts.getD k [] := ⟨_, rfl⟩
      have hc : wr.cell? ⟨b, k, none⟩ = some (.string (bs t)) := by rw [ht]; exact hkr.cell k (HC.out k hlt)
      have i0' : (0 : Int) ≤ (k : Int) := by omega
      have i1 : (k : Int) < (ts.length : Int) := by omega
      have HT := Lib.hid ht
      have HSz : Hid ((bs t).size ≤ 1048576) := Lib.hid (by rw [bs_size, ht]; exact HSm.out.1 k hlt)
      obtain ⟨n, hn⟩ : ∃ n, n = numV (bs t).data.toList := ⟨_, rfl⟩
      obtain ⟨q, hq⟩ : ∃ n, n = numB (bs t).data.toList := ⟨_, rfl⟩
      have HN := Lib.hid hn
      have HQ := Lib.hid hq
      clear hbel ht hn hq hkr
      go_wp2_with fail
      refine (specNumber (bs t) _ HSz.out).mono ?_
      rintro e w2 ⟨rfl, hb2⟩
      rw [← HN.out, ← HQ.out]
      have HO2 := Lib.hid (HO.out.below hb2 (Nat.le_refl _)).up
      have HK2 := Lib.hid (HKR.out.below hb2 HKR.out.lt)
      have HBW2 := Lib.hid (HBW.out.trans (hb2.mono HBW.out.size))
      clear hb2
      rcases eqOr q with hb | hb
      · subst hb
        have HF : Hid (¬ (twOk l ∧ (twV l).length ≤ 1000)) := Lib.hid (fun h => by
          have h2 := HOk.out.1 h.1 k hlt
          rw [← HT.out] at h2
          have := (num_yes h2).1; rw [← bs_list t, ← HQ.out] at this; cases this)
        go_wp2
        go_ret2
        exact ⟨⟨_, false, rfl, .inr ⟨rfl, rfl, HF.out⟩⟩, HBW2.out⟩
      subst hb
      have hnum : NumOk t := by
        rcases Classical.em (NumOk t) with h | h
        · exact h
        · have := (num_no h).1; rw [← bs_list t, ← HQ.out] at this; cases this
      have hval : n = valL t := by rw [HN.out]; first | rw [bs_list, (num_yes hnum).2] | rw [(num_yes hnum).2]
      have HFit : Hid (-9223372036854775808 ≤ n ∧ n ≤ 9223372036854775807) := Lib.hid (by rw [hval]; have := valL_small hnum; omega)
      have HS : Hid ((ts.take (k + 1)).map valL = (ts.take k).map valL ++ [n]) := Lib.hid (by rw [map_takeS valL ts k hlt, ← HT.out, hval])
      have HAn : Hid (∀ j, j < k + 1 → NumOk (ts.getD j [])) := Lib.hid (fun j hj => by
        by_cases he : j = k
        · subst he; rw [← HT.out]; exact hnum
        · exact HA.out j (by omega))
      obtain ⟨zs, hzs⟩ : ∃ z, z = (ts.take k).map valL := ⟨_, rfl⟩
      have hlk : zs.length = k := by rw [hzs]; simp; omega
      have HLk := Lib.hid hlk
      have HZs := Lib.hid hzs
      have HO2' : Hid (Ow w2 w.heap.size w2.heap.size ov zs) := Lib.hid (by rw [hzs]; exact HO2.out)
      have hown2 : w2.ownsRow w.heap.size 2 1 ov k (zs.map (Value.int .i64)) := by have := HO2'.out.row; rwa [hlk] at this
      have hsz1 := HBW2.out.size
      clear hval hnum hlk hzs
      go_wp2_with (at_builtin; refine wpList_append_own _ rfl _ _ 22 rfl w.heap.size 2 n0 (.int .i64 0) 1 8 Tryd.underlying22 hi hz0 hz1 hz2 rfl (by decide) _ _ _ rfl (hown2.alloc _) ⟨_, 0, none⟩ 1 1 [.int .i64 n] rfl rfl ?c1 ?c2 ?c3 ?c4 ?c5 ?_)
      try (case c1 => exact cellNew _ _ _)
      case c2 => first | exact oneCell _ | rfl
      case c3 => unfold maxLen; omega
      case c4 => omega
      case c5 => first | omega | (simp; omega)
      intro v' w4 hown4 hgrow _
      have HK4 : Hid (Cels w4 b 9 cs) := Lib.hid ((HK2.out.alloc _).grown hgrow (HO2'.out.nblk HK2.out (by decide)))
      obtain ⟨ho, hb4⟩ := HO2'.out.snoc (x := n) HFit.out (by rw [HLk.out]; omega) (by rw [HLk.out]; exact hown4) hgrow
      rw [HZs.out, ← HS.out] at ho
      have HO4 := Lib.hid ho
      have HW4 := Lib.hid (HBW2.out.trans (hb4.mono (Nat.le_refl _)))
      clear ho hb4 hown4 hgrow hown2
      go_wp2
      go_roundw
      case rel => exact ⟨k + 1, v', rfl, by omega, by go_num, HAn.out, HO4.out, HK4.out, HW4.out⟩
      case measure => simp [intOf]; omega
    · obtain rfl : k = ts.length := by omega
      have hnlt : ¬ ((ts.length : Int) < (ts.length : Int)) := by omega
      have HO5 : Hid (Ow wr w.heap.size wr.heap.size ov (twV l)) := Lib.hid (by have := HO.out; rw [List.take_length] at this; rw [HV.out]; exact this)
      have HGd : Hid (twOk l ∧ (twV l).length ≤ 1000) := Lib.hid ⟨HOk.out.2 HA.out, by rw [HV.out, List.length_map]; exact hln8⟩
      clear hlt hbel
      go_wp2
      go_ret2
      exact ⟨⟨_, true, rfl, .inl ⟨rfl, HGd.out.1, HGd.out.2, HO5.out⟩⟩, HBW.out⟩
def WordsPost (m : Nat) (ts : List (List UInt8)) (w : World) (e : Ending) (w' : World) : Prop :=
  (∃ u q, e = .returned (.tuple #[u, .bool q]) ∧ ((q = true ∧ AllTw ts ∧ OwQN w' w.heap.size w'.heap.size u (ts.map twV)) ∨ (q = false ∧ u = .slice none 0 0 ∧ ¬ (AllTw ts ∧ ts.length ≤ m ∧ ∀ j, j < ts.length → (twV (ts.getD j [])).length ≤ 1000)))) ∧ Below w.heap.size w w'
set_option maxRecDepth 100000 in
set_option maxHeartbeats 4000000 in
theorem specWordsQ (s : ByteArray) (m : Nat) (w : World) (hs : s.size ≤ 1048576) (hm : m ≤ 1000) : Calls Tryd.prog 67 #[.string s, .int .i64 (m : Int)] w (WordsPost m (pcs 44 s.data.toList) w) := by
  obtain ⟨n0, hi, hz0, hz1, hz2⟩ := info_parts infoQ
  obtain ⟨l, hl⟩ : ∃ l, l = s.data.toList := ⟨_, rfl⟩
  rw [← hl]
  have HL := Lib.hid hl
  obtain ⟨ts, hts⟩ : ∃ ts, ts = pcs 44 l := ⟨_, rfl⟩
  have HTs := Lib.hid hts
  have HSm := Lib.hid (pcs_small 44 s hs)
  rw [← hl, ← hts] at HSm
  have HSp := Lib.hid (specSplit s 44 44 rfl w hs)
  rw [← hts]
  clear hl hts hs
  go_enter Tryd.func67, Tryd.ntmps67
  go_wp2_with fail
  refine HSp.out.mono ?_
  rintro e w1 ⟨u, rfl, hr, hb1⟩
  rw [← HL.out, ← HTs.out] at hr
  have HB1 := Lib.hid hb1
  obtain ⟨b, c, rfl, hcap, hbl, hcell⟩ := hr
  have HC := Lib.hid hcell
  clear hcell hb1
  by_cases hlen : ts.length ≤ m
  rotate_left
  · have HF : Hid (¬ (AllTw ts ∧ ts.length ≤ m ∧ ∀ j, j < ts.length → (twV (ts.getD j [])).length ≤ 1000)) := Lib.hid (fun h => hlen h.2.1)
    have f1 : decide ((m : Int) < (ts.length : Int)) = true := decide_eq_true (by omega)
    have f2 : decide (m < ts.length) = true := decide_eq_true (by omega)
    clear hlen
    go_wp2
    go_ret2
    exact ⟨⟨_, false, rfl, .inr ⟨rfl, rfl, HF.out⟩⟩, HB1.out⟩
  have f1 : decide ((m : Int) < (ts.length : Int)) = false := decide_eq_false (by omega)
  have f2 : decide (m < ts.length) = false := decide_eq_false (by omega)
  have HLn : Hid (ts.length ≤ 1000) := Lib.hid (by omega)
  have HR0 : Hid ((w1.alloc (.cells #[] 22)).ownsRow w1.heap.size 22 1 (.slice (some ⟨w1.heap.size, 0, none⟩) 0 0) 0 []) := Lib.hid (World.ownsRow_made w1 #[] 0 (Nat.le_refl _) (by unfold maxLen; omega) (by simp))
  clear hlen
  go_wp2
  go_loopw [7, 8] (fun o i wr => ∃ (k : Nat) (ov : Value), o = ov ∧ k ≤ ts.length ∧ i = .int .i64 (k : Int) ∧ (∀ j, j < k → twOk (ts.getD j [])) ∧ GrQ wr w1.heap.size ov ((ts.take k).map twV) ∧ Below w1.heap.size w1 wr) (fun _ i _ => ts.length - (intOf i).toNat)
  case atStart => exact ⟨0, _, rfl, Nat.zero_le _, rfl, fun j hj => by omega, ⟨[], by simpa using HR0.out, fun i hi => by simp at hi, fun i j x y _ hj => by simp at hj⟩, (Below.refl _ _).alloc (Nat.le_refl _) _⟩
  case round =>
    obtain ⟨k, ov, hov, hk, rfl, hall, hgr, hbel⟩ := hrel
    obtain rfl := hov.symm
    have HA := Lib.hid hall
    have HW := Lib.hid hbel
    have HGR := Lib.hid hgr
    have HBW : Hid (Below w.heap.size w wr) := Lib.hid (HB1.out.trans (hbel.mono HB1.out.size))
    have hln8 := HLn.out
    clear hall hgr
    by_cases hlt : k < ts.length
    · obtain ⟨t, ht⟩ : ∃ t, t = ts.getD k [] := ⟨_, rfl⟩
      have hc : wr.cell? ⟨b, k, none⟩ = some (.string (bs t)) := by rw [ht]; exact (hbel.cell hbl).trans (HC.out k hlt)
      have i0' : (0 : Int) ≤ (k : Int) := by omega
      have i1 : (k : Int) < (ts.length : Int) := by omega
      have HT := Lib.hid ht
      have HSz : Hid ((bs t).size ≤ 1048576) := Lib.hid (by rw [bs_size, ht]; exact HSm.out.1 k hlt)
      clear hbel ht
      go_wp2_with fail
      refine (specLetQ (bs t) _ HSz.out).mono ?_
      rintro e w2 ⟨⟨u0, q, rfl, hq⟩, bb⟩
      rw [bs_list] at hq
      have HQ := Lib.hid hq
      have HX2 := Lib.hid bb
      have HW2 := Lib.hid (HW.out.trans (bb.mono HW.out.size))
      have HBW2 := Lib.hid (HBW.out.trans (bb.mono HBW.out.size))
      clear bb hq
      rcases eqOr q with hb | hb
      · have HF : Hid (¬ (AllTw ts ∧ ts.length ≤ m ∧ ∀ j, j < ts.length → (twV (ts.getD j [])).length ≤ 1000)) := Lib.hid (fun h => by
          rcases HQ.out with ⟨h3, _⟩ | ⟨_, _, h3⟩
          · rw [hb] at h3; cases h3
          · exact h3 (by rw [HT.out]; exact ⟨h.1 k hlt, h.2.2 k hlt⟩))
        subst hb
        go_wp2
        go_ret2
        exact ⟨⟨_, false, rfl, .inr ⟨rfl, rfl, HF.out⟩⟩, HBW2.out⟩
      have hy : twOk t ∧ (twV t).length ≤ 1000 ∧ Ow w2 wr.heap.size w2.heap.size u0 (twV t) := by
        rcases HQ.out with ⟨_, h⟩ | ⟨h, _⟩
        · exact h
        · rw [hb] at h; cases h
      obtain ⟨hone, _, hp⟩ := hy
      subst hb
      obtain ⟨ga, gc, hsa⟩ := hp.shape
      obtain ⟨n1, hn1⟩ : ∃ n, n = (twV t).length := ⟨_, rfl⟩
      rw [← hn1] at hsa
      subst hsa
      have HP := Lib.hid hp
      have HOne := Lib.hid hone
      have HSn : Hid ((ts.take (k + 1)).map twV = (ts.take k).map twV ++ [twV t]) := Lib.hid (by rw [map_takeS twV ts k hlt, ← HT.out])
      have HAn : Hid (∀ j, j < k + 1 → twOk (ts.getD j [])) := Lib.hid (all_takeT HA.out (by rw [← HT.out]; exact HOne.out))
      obtain ⟨cs, hown, hcop, hsq⟩ := HGR.out
      have HCO := Lib.hid hcop
      have HSQ := Lib.hid hsq
      have hlk : ((ts.take k).map twV).length = k := by simp; omega
      have HLK := Lib.hid hlk
      have hown1 : w2.ownsRow w1.heap.size 22 1 ov k cs := by rw [hlk] at hown; exact ownQ_below hown HX2.out (Nat.le_refl _)
      have HOW := Lib.hid hown1
      have hsz := Nat.le_trans HW.out.size HX2.out.size
      clear hp hown hcop hsq hlk hn1 hone
      go_wp2_with (at_builtin; refine wpList_append_own _ rfl _ _ 51 rfl w1.heap.size 22 n0 (.slice none 0 0) 1 24 Tryd.underlying51 hi hz0 hz1 hz2 rfl (by decide) _ _ _ rfl (hown1.alloc _) ⟨_, 0, none⟩ 1 1 [.slice ga n1 gc] rfl rfl ?c1 ?c2 ?c3 ?c4 ?c5 ?_)
      case c1 => exact cellNew1 _ _ _
      case c2 => intro u hu; simp at hu; subst hu; rfl
      case c3 => unfold maxLen; omega
      case c4 => omega
      case c5 => first | omega | (simp; omega)
      intro v' w5 hown2 hgrow _
      have HBA : Hid (Below wr.heap.size wr (w2.alloc (Obj.cells #[.slice ga n1 gc] 22))) := Lib.hid (HX2.out.alloc HX2.out.size _)
      have hbw : Below w2.heap.size w2 (w2.alloc (Obj.cells #[.slice ga n1 gc] 22)) := (Below.refl _ _).alloc (Nat.le_refl _) _
      have HG2 : Hid (GrQ w5 w1.heap.size v' ((ts.take (k + 1)).map twV)) := Lib.hid (by
        rw [HSn.out]
        have hlk := HLK.out
        exact rowsQ_snoc (t := twV t) (w0 := wr) (w := w2.alloc (Obj.cells #[.slice ga n1 gc] 22)) HCO.out HSQ.out HBA.out HW.out.size (by rw [hlk]; exact HOW.out.alloc _) (HP.out.below hbw (Nat.le_refl _)).up hgrow (by rw [hlk]; exact hown2))
      have HBX := Lib.hid ((HW.out.trans (HBA.out.mono HW.out.size)).grown hgrow (by simp; omega) (fun q hq => (HOW.out.lt q hq).1))
      clear hown2 hgrow hown1 hbw
      go_wp2
      go_roundw
      case rel => exact ⟨k + 1, v', rfl, by omega, by go_num, HAn.out, HG2.out, HBX.out⟩
      case measure => simp [intOf]; omega
    · obtain rfl : k = ts.length := by omega
      have hnlt : ¬ ((ts.length : Int) < (ts.length : Int)) := by omega
      have HO5 : Hid (OwQN wr w.heap.size wr.heap.size ov (ts.map twV)) := Lib.hid (by
        have h1 := HGR.out
        rw [List.take_length] at h1
        exact (h1.own (by rw [List.length_map]; omega) HW.out.size).wide HB1.out.size (Nat.le_refl _))
      have HAll : Hid (AllTw ts) := Lib.hid HA.out
      clear hlt hbel
      go_wp2
      refine bodyPost_ret (v := .tuple #[ov, .bool true]) (by simp [results, Tryd.f67, go_sem]) rfl ?_
      exact ⟨⟨_, true, rfl, .inl ⟨rfl, HAll.out, HO5.out⟩⟩, HBW.out⟩
set_option maxHeartbeats 4000000 in
theorem specReadCy (s : ByteArray) (w : World) (hs : s.size ≤ 1048576) :
    Calls Tryd.prog 31 #[.string s] w fun e w' => ∃ u, e = .returned (.tuple #[.agg #[u], .bool (cyB s.data.toList)]) ∧ OwQN w' w.heap.size w'.heap.size u (cyV s.data.toList) ∧ Below w.heap.size w w' := by
  obtain ⟨l, hl⟩ : ∃ l, l = s.data.toList := ⟨_, rfl⟩
  rw [← hl]
  obtain ⟨W0, hW0⟩ : ∃ W, W = w.alloc (Obj.cells #[.slice none 0 0] 53) := ⟨_, rfl⟩
  have HB0 : Hid (Below w.heap.size w W0) := Lib.hid (by rw [hW0]; exact (Below.refl w.heap.size w).alloc (Nat.le_refl _) _)
  have K0 : Hid (Cels W0 w.heap.size 53 [.slice none 0 0]) := Lib.hid (by rw [hW0]; exact Cels.new _ _ _)
  have HW0 := Lib.hid hW0.symm
  have HSp := Lib.hid (specWordsQ s 400 W0 hs (by omega))
  rw [← hl] at HSp
  have HLt : Hid (w.heap.size < W0.heap.size) := Lib.hid K0.out.lt
  clear hl hW0 hs
  go_enter Tryd.func31, Tryd.ntmps31
  go_wp2_with fail
  rw [HW0.out]
  refine HSp.out.mono ?_
  rintro e w1 ⟨⟨u, q, rfl, hq⟩, hb1⟩
  have HQ := Lib.hid hq
  have HB1 := Lib.hid (HB0.out.trans (hb1.mono HB0.out.size))
  have K1 := Lib.hid (K0.out.below hb1 K0.out.lt)
  clear hb1 hq
  rcases eqOr q with hb | hb
  · have hu : u = .slice none 0 0 ∧ ¬ cyOk (pcs 44 l) := by
      rcases HQ.out with ⟨h3, _⟩ | ⟨_, h3, h4⟩
      · rw [hb] at h3; cases h3
      · refine ⟨h3, fun h => h4 ?_⟩
        obtain ⟨h5, h6⟩ := cyc_parts h.2
        rw [List.length_map] at h5 h6
        exact ⟨h.1, h5, fun j hj => by have := h6 j hj; rwa [getD_mapT hj] at this⟩
    obtain ⟨rfl, hn⟩ := hu
    have HF := Lib.hid (cy_bad hn)
    subst hb
    clear hn
    have K6 : Hid (Cels (w1.alloc (Obj.cells #[.slice none 0 0] 53)) w.heap.size 53 [.slice none 0 0]) := Lib.hid (K1.out.alloc _)
    have HB6 : Hid (Below w.heap.size w (w1.alloc (Obj.cells #[.slice none 0 0] 53))) := Lib.hid (HB1.out.alloc HB1.out.size _)
    have f1 := K6.out.cell 0 rfl
    have f2 := K6.out.frozen 0
    have F7 := Lib.hid (K6.out.set 0 (.slice none 0 0))
    go_wp2
    have f7 := F7.out
    obtain ⟨Wf, hWf⟩ : ∃ Wf, Wf = ((w1.alloc (Obj.cells #[.slice none 0 0] 53)).setCell ⟨w.heap.size, 0, none⟩ (.slice none 0 0)) := ⟨_, rfl⟩
    have hB : Below w.heap.size w Wf := by rw [hWf]; exact below_set HB6.out (Nat.le_refl _) _ _
    have hO : OwQN Wf w.heap.size Wf.heap.size (.slice none 0 0) [] := OwQN.none hB.size
    rw [← hWf] at f7 ⊢
    have z0 := f7.cell 0 rfl
    clear f1 f2 hWf
    refine bodyPost_ret (v := .tuple #[.agg #[.slice none 0 0], .bool false]) (by simp [results, Tryd.f31, go_sem, z0]) rfl ⟨.slice none 0 0, ?_, ?_, hB⟩
    · rw [HF.out.1]
    · rw [HF.out.2]; exact hO
  have hy : AllTw (pcs 44 l) ∧ OwQN w1 W0.heap.size w1.heap.size u ((pcs 44 l).map twV) := by
    rcases HQ.out with ⟨_, h⟩ | ⟨h, _⟩
    · exact h
    · rw [hb] at h; cases h
  obtain ⟨hall, ho⟩ := hy
  subst hb
  obtain ⟨zss, hz⟩ : ∃ z, z = (pcs 44 l).map twV := ⟨_, rfl⟩
  rw [← hz] at ho
  have HZ := Lib.hid hz
  have HAll := Lib.hid hall
  obtain ⟨ga, gc, hsa⟩ := ho.shape
  obtain ⟨n1, hn1⟩ : ∃ n, n = zss.length := ⟨_, rfl⟩
  rw [← hn1] at hsa
  subst hsa
  have K6 : Hid (Cels (w1.alloc (Obj.cells #[.slice ga n1 gc] 53)) w.heap.size 53 [.slice none 0 0]) := Lib.hid (K1.out.alloc _)
  have KC : Hid (Cels (w1.alloc (Obj.cells #[.slice ga n1 gc] 53)) w1.heap.size 53 [.slice ga n1 gc]) := Lib.hid (Cels.new _ _ _)
  have HB6 : Hid (Below w.heap.size w (w1.alloc (Obj.cells #[.slice ga n1 gc] 53))) := Lib.hid (HB1.out.alloc HB1.out.size _)
  have HO6 : Hid (OwQN (w1.alloc (Obj.cells #[.slice ga n1 gc] 53)) W0.heap.size (w1.alloc (Obj.cells #[.slice ga n1 gc] 53)).heap.size (.slice ga n1 gc) zss) := Lib.hid ((ho.below ((Below.refl w1.heap.size w1).alloc (Nat.le_refl _) _) (Nat.le_refl _)).wide (Nat.le_refl _) (by simp))
  obtain ⟨q2, hq2⟩ : ∃ q, q = cycB zss := ⟨_, rfl⟩
  have HQ2 := Lib.hid hq2
  clear ho hz hall hn1 hq2
  go_wp2_with fail
  refine (specCycIs _ _ zss _ HO6.out.rdl KC.out).mono ?_
  rintro e w7 ⟨rfl, rfl⟩
  rw [← HQ2.out]
  rcases eqOr q2 with hb | hb
  · have HF := Lib.hid (cy_bad (l := l) (fun h => by have := h.2; rw [← HZ.out, ← HQ2.out, hb] at this; cases this))
    subst hb
    have f1 := K6.out.cell 0 rfl
    have f2 := K6.out.frozen 0
    have F7 := Lib.hid (K6.out.set 0 (.slice none 0 0))
    go_wp2
    have f7 := F7.out
    obtain ⟨Wf, hWf⟩ : ∃ Wf, Wf = ((w1.alloc (Obj.cells #[.slice ga n1 gc] 53)).setCell ⟨w.heap.size, 0, none⟩ (.slice none 0 0)) := ⟨_, rfl⟩
    have hB : Below w.heap.size w Wf := by rw [hWf]; exact below_set HB6.out (Nat.le_refl _) _ _
    have hO : OwQN Wf w.heap.size Wf.heap.size (.slice none 0 0) [] := OwQN.none hB.size
    rw [← hWf] at f7 ⊢
    have z0 := f7.cell 0 rfl
    clear f1 f2 hWf
    refine bodyPost_ret (v := .tuple #[.agg #[.slice none 0 0], .bool false]) (by simp [results, Tryd.f31, go_sem, z0]) rfl ⟨.slice none 0 0, ?_, ?_, hB⟩
    · rw [HF.out.1]
    · rw [HF.out.2]; exact hO
  have HF := Lib.hid (cy_good (l := l) ⟨HAll.out, by rw [← HZ.out, ← HQ2.out]; exact hb⟩)
  rw [← HZ.out] at HF
  subst hb
  have m0 := KC.out.cell 0 rfl
  have f1 := K6.out.cell 0 rfl
  have f2 := K6.out.frozen 0
  have F7 := Lib.hid (K6.out.set 0 (.slice ga n1 gc))
  go_wp2
  have f7 := F7.out
  obtain ⟨Wf, hWf⟩ : ∃ Wf, Wf = ((w1.alloc (Obj.cells #[.slice ga n1 gc] 53)).setCell ⟨w.heap.size, 0, none⟩ (.slice ga n1 gc)) := ⟨_, rfl⟩
  have hB : Below w.heap.size w Wf := by rw [hWf]; exact below_set HB6.out (Nat.le_refl _) _ _
  have hO : OwQN Wf w.heap.size Wf.heap.size (.slice ga n1 gc) zss := by rw [hWf]; exact (HO6.out.low HLt.out 0 _).wide (Nat.le_of_lt HLt.out) (Nat.le_refl _)
  rw [← hWf] at f7 ⊢
  have z0 := f7.cell 0 rfl
  clear f1 f2 hWf
  refine bodyPost_ret (v := .tuple #[.agg #[.slice ga n1 gc], .bool true]) (by simp [results, Tryd.f31, go_sem, z0]) rfl ⟨.slice ga n1 gc, ?_, ?_, hB⟩
  · rw [HF.out.1]
  · rw [HF.out.2]; exact hO
end Go.Proofs.YtbifkjmmhfnblaaDoor.Ints
