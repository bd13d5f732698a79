/- Lists read from texts, of the program. -/
import Derived.Test.YtbifkjmmhfnblaaDoorRlS
import Derived.Test.YtbifkjmmhfnblaaDoorSplI
import Derived.Test.YtbifkjmmhfnblaaDoorLtI
namespace Go.Proofs.YtbifkjmmhfnblaaDoor.Ints
open Go.RowKit
set_option linter.unusedVariables false
set_option linter.unusedSimpArgs false
theorem betB_bet {lo hi : Int} {zs : List Int} (h : betB lo hi zs = true) : Bet lo hi zs := by simpa [betB] using h
theorem rl_fit {ts : List (List UInt8)} (h : ∀ j, j < ts.length → NumOk (ts.getD j [])) : rlOk ts ↔ fitB (ts.map valL) = true := by
  unfold rlOk fitB rlOne
  rw [Bool.and_eq_true, decide_eq_true_eq, List.length_map]
  constructor
  · rintro ⟨h1, h2⟩
    refine ⟨h1, betB_true fun i hi => ?_⟩
    rw [List.length_map] at hi
    have := (h2 i hi).2
    rw [List.getD_eq_getElem?_getD, List.getElem?_eq_getElem hi] at this
    rw [List.getD_eq_getElem?_getD, List.getElem?_map, List.getElem?_eq_getElem hi]
    exact this
  · rintro ⟨h1, h2⟩
    refine ⟨h1, fun j hj => ⟨h j hj, ?_⟩⟩
    have := betB_bet h2 j (by rw [List.length_map]; exact hj)
    rw [List.getD_eq_getElem?_getD, List.getElem?_map, List.getElem?_eq_getElem hj] at this
    rw [List.getD_eq_getElem?_getD, List.getElem?_eq_getElem hj]
    exact this
theorem dash_not : ¬ NumOk [45] := fun h => h.ne rfl
set_option maxHeartbeats 4000000 in
theorem implReadList (s : ByteArray) (w : World) (hs : s.size ≤ 1048576) (ht : TabV w) (he : ErrV w) (hm : MaxV w) :
    Calls Tryd.prog 10 #[.string s] w fun e w' => ∃ u, e = .returned (.tuple #[u, .bool (rlsB s.data.toList)]) ∧ Ow w' w.heap.size w'.heap.size u (rlsV s.data.toList) ∧ Below w.heap.size w w' := by
  obtain ⟨n0, hi, hz0, hz1, hz2⟩ := info_parts infoE
  have HTab := Lib.hid ht
  have HErr := Lib.hid he
  have HMax := Lib.hid hm
  clear ht he hm
  by_cases hd : s.toList = [45]
  · have HF := Lib.hid (rls_dash (l := s.data.toList) (by rw [← ByteArray.toList_eq s]; exact hd))
    have e1 : (s.toList == [45]) = true := by simp [hd]
    clear hd
    go_enter Tryd.func10, Tryd.ntmps10
    go_wp2
    go_ret2
    exact ⟨_, by rw [HF.out.1] <;> rfl, by rw [HF.out.2]; exact Ow.empty w, Below.refl _ _⟩
  have e1 : (s.toList == [45]) = false := by simpa using hd
  have HDs : Hid (s.data.toList ≠ [45]) := Lib.hid (by rw [← ByteArray.toList_eq s]; exact hd)
  obtain ⟨ts, hts⟩ : ∃ ts, ts = pcs 44 s.data.toList := ⟨_, rfl⟩
  have HTs := Lib.hid hts
  have HPz : Hid (∀ j, j < ts.length → (ts.getD j []).length ≤ 1048576) := Lib.hid (fun j hj => by
    have := pcs_piece 44 s.data.toList (ts.getD j []) (by rw [← hts, List.getD_eq_getElem?_getD, List.getElem?_eq_getElem hj]; exact List.getElem_mem hj)
    have h2 := Lib.size_eq s
    omega)
  have HLn : Hid (ts.length ≤ 1048577) := Lib.hid (by rw [hts]; have := pcs_len 44 s.data.toList; have h2 := Lib.size_eq s; omega)
  clear hd hts
  go_enter Tryd.func10, Tryd.ntmps10
  go_wp2_with fail
  refine (implSplit s 44 _ _ hs rfl HMax.out).mono ?_
  rintro e w1 ⟨u, rfl, hr, hb1⟩
  rw [← HTs.out] at hr
  have HB1 := Lib.hid hb1
  have HTab1 := Lib.hid (HTab.out.below hb1 (Nat.le_refl _))
  have HErr1 := Lib.hid (HErr.out.below hb1 (Nat.le_refl _))
  obtain ⟨b, c, rfl, hcap, hbl, hcell⟩ := hr
  have HC := Lib.hid hcell
  clear hcell hb1
  go_wp2
  go_loopw [4, 14] (fun o i wr => ∃ (k : Nat) (ov : Value), o = ov ∧ k ≤ ts.length ∧ i = .int .i64 (k : Int) ∧ (∀ j, j < k → NumOk (ts.getD j [])) ∧ Ow wr w1.heap.size wr.heap.size ov ((ts.take k).map valL) ∧ Below w1.heap.size w1 wr) (fun _ i _ => ts.length - (intOf i).toNat)
  case atStart => exact ⟨0, _, rfl, Nat.zero_le _, rfl, fun j hj => by omega, Ow.empty _, Below.refl _ _⟩
  case round =>
    obtain ⟨k, ov, hov, hk, rfl, hall, hown, hbel⟩ := hrel
    obtain rfl := hov.symm
    have HA := Lib.hid hall
    have HW := Lib.hid hbel
    have HO := Lib.hid hown
    have HBW : Hid (Below w.heap.size w wr) := Lib.hid (HB1.out.trans (hbel.mono HB1.out.size))
    clear hall hown
    by_cases hlt : k < ts.length
    · obtain ⟨t, ht⟩ : ∃ t, t = ts.getD k [] := ⟨_, rfl⟩
      have hc : wr.cell? ⟨b, k, none⟩ = some (.string (bs t)) := by rw [ht]; exact (hbel.cell hbl).trans (HC.out k hlt)
      have i0' : (0 : Int) ≤ (k : Int) := by omega
      have i1 : (k : Int) < (ts.length : Int) := by omega
      have HT := Lib.hid ht
      have HSz : Hid ((bs t).size ≤ 1048576) := Lib.hid (by rw [bs_size, ht]; exact HPz.out k hlt)
      obtain ⟨n, hn⟩ : ∃ n, n = numV (bs t).data.toList := ⟨_, rfl⟩
      obtain ⟨q, hq⟩ : ∃ n, n = numB (bs t).data.toList := ⟨_, rfl⟩
      have HN := Lib.hid hn
      have HQ := Lib.hid hq
      have HBad : Hid (¬ NumOk t → rlsB s.data.toList = false ∧ rlsV s.data.toList = []) := Lib.hid (fun h => rls_bad HDs.out (fun h2 => h (by rw [HT.out, HTs.out]; exact (h2.2 k (by rw [← HTs.out]; exact hlt)).1)))
      clear hbel ht hn hq
      go_wp2_with fail
      refine (implRdDec (bs t) _ HSz.out (HTab1.out.below HW.out (Nat.le_refl _)) (HErr1.out.below HW.out (Nat.le_refl _))).mono ?_
      rintro e w2 ⟨rfl, hb2⟩
      rw [← HN.out, ← HQ.out]
      have HO2 := Lib.hid (HO.out.below hb2 (Nat.le_refl _)).up
      have HW2 := Lib.hid (HW.out.trans (hb2.mono HW.out.size))
      have HBW2 := Lib.hid (HBW.out.trans (hb2.mono HBW.out.size))
      clear hb2
      rcases eqOr q with hb | hb
      · subst hb
        have HF := Lib.hid (HBad.out (fun h => by have := (num_yes h).1; rw [← bs_list t, ← HQ.out] at this; cases this))
        go_wp2
        go_ret2
        exact ⟨_, by rw [HF.out.1] <;> rfl, by rw [HF.out.2]; exact Ow.emptyUp HBW2.out.size, HBW2.out⟩
      subst hb
      have hnum : NumOk t := by
        rcases Classical.em (NumOk t) with h | h
        · exact h
        · have := (num_no h).1; rw [← bs_list t, ← HQ.out] at this; cases this
      have hval : n = valL t := by rw [HN.out]; first | rw [bs_list, (num_yes hnum).2] | rw [(num_yes hnum).2]
      have HG : Hid (-1000000000000000000 < n ∧ n < 1000000000000000000) := Lib.hid (by rw [hval]; exact valL_small hnum)
      have HS : Hid ((ts.take (k + 1)).map valL = (ts.take k).map valL ++ [n]) := Lib.hid (by rw [map_takeS valL ts k hlt, ← HT.out, hval])
      have HNum := Lib.hid hnum
      have HAn : Hid (∀ j, j < k + 1 → NumOk (ts.getD j [])) := Lib.hid (fun j hj => by
        by_cases he : j = k
        · subst he; rw [← HT.out]; exact HNum.out
        · exact HA.out j (by omega))
      obtain ⟨zs, hzs⟩ : ∃ z, z = (ts.take k).map valL := ⟨_, rfl⟩
      have hlk : zs.length = k := by rw [hzs]; simp; omega
      have HLk := Lib.hid hlk
      have HZs := Lib.hid hzs
      have HO2' : Hid (Ow w2 w1.heap.size w2.heap.size ov zs) := Lib.hid (by rw [hzs]; exact HO2.out)
      have hlen64 := HLn.out
      have hown2 : w2.ownsRow w1.heap.size 2 1 ov k (zs.map (Value.int .i64)) := by have := HO2'.out.row; rwa [hlk] at this
      have hsz1 := HW2.out.size
      clear hval hnum hlk hzs
      go_wp2_with (at_builtin; refine wpList_append_own _ rfl _ _ 22 rfl w1.heap.size 2 n0 (.int .i64 0) 1 8 Tryd.underlying22 hi hz0 hz1 hz2 rfl (by decide) _ _ _ rfl (hown2.alloc _) ⟨_, 0, none⟩ 1 1 [.int .i64 n] rfl rfl ?c1 ?c2 ?c3 ?c4 ?c5 ?_)
      try (case c1 => exact cellNew _ _ _)
      case c2 => first | exact oneCell _ | rfl
      case c3 => unfold maxLen; omega
      case c4 => omega
      case c5 => first | omega | (simp; omega)
      intro v' w4 hown4 hgrow _
      obtain ⟨ho, hb4⟩ := HO2'.out.snoc (x := n) (by have := HG.out; omega) (by rw [HLk.out]; omega) (by rw [HLk.out]; exact hown4) hgrow
      rw [HZs.out, ← HS.out] at ho
      have HO4 := Lib.hid ho
      have HW4 := Lib.hid (HW2.out.trans (hb4.mono (Nat.le_refl _)))
      clear ho hb4 hown4 hgrow hown2
      go_wp2
      go_roundw
      case rel => exact ⟨k + 1, v', rfl, by omega, by go_num, HAn.out, HO4.out, HW4.out⟩
      case measure => simp [intOf]; omega
    · obtain rfl : k = ts.length := by omega
      have hnlt : ¬ ((ts.length : Int) < (ts.length : Int)) := by omega
      have HO5 : Hid (Ow wr w1.heap.size wr.heap.size ov (ts.map valL)) := Lib.hid (by have := HO.out; rwa [List.take_length] at this)
      obtain ⟨q, hq⟩ : ∃ q, q = fitB (ts.map valL) := ⟨_, rfl⟩
      have HQ := Lib.hid hq
      obtain ⟨zs, hzs⟩ : ∃ zs, zs = ts.map valL := ⟨_, rfl⟩
      have HZ := Lib.hid hzs
      rw [← hzs] at hq HO5
      obtain ⟨a9, c9, hsh⟩ := HO5.out.shape
      rw [show zs.length = ts.length by rw [hzs, List.length_map]] at hsh
      subst hsh
      clear hlt hbel hq hzs
      go_wp2_with fail
      refine (implHas _ zs _ HO5.out.rd).mono ?_
      rintro e w' ⟨rfl, rfl⟩
      rw [HZ.out, ← HQ.out]
      rcases eqOr q with hb | hb
      · subst hb
        have HF := Lib.hid (rls_bad HDs.out (fun h => by rw [← HTs.out] at h; have := (rl_fit HA.out).1 h; rw [← HQ.out] at this; cases this))
        go_wp2
        go_ret2
        exact ⟨_, by rw [HF.out.1] <;> rfl, by rw [HF.out.2]; exact Ow.emptyUp HBW.out.size, HBW.out⟩
      subst hb
      have HF := Lib.hid (rls_good HDs.out (by rw [← HTs.out]; exact (rl_fit HA.out).2 HQ.out.symm))
      go_wp2
      go_ret2
      exact ⟨_, by rw [HF.out.1] <;> rfl, by rw [HF.out.2, ← HTs.out, ← HZ.out]; exact HO5.out.mono HB1.out.size (Nat.le_refl _) (Nat.le_refl _), HBW.out⟩
end Go.Proofs.YtbifkjmmhfnblaaDoor.Ints
