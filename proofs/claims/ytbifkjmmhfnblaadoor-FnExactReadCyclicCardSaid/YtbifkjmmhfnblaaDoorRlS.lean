/- Lists read from texts, of the model. -/
import Derived.Test.YtbifkjmmhfnblaaDoorSpl
import Derived.Test.YtbifkjmmhfnblaaDoorRdD
import Derived.Test.YtbifkjmmhfnblaaDoorIn
namespace Go.Proofs.YtbifkjmmhfnblaaDoor.Ints
open Go.RowKit
set_option linter.unusedVariables false
set_option linter.unusedSimpArgs false
/-- A piece that is a number within the bounds. -/
def rlOne (t : List UInt8) : Prop := NumOk t ∧ -1000000000000 ≤ valL t ∧ valL t ≤ 1000000000000
def rlOk (ts : List (List UInt8)) : Prop := ts.length ≤ 64 ∧ ∀ j, j < ts.length → rlOne (ts.getD j [])
open Classical in
noncomputable def rlsB (l : List UInt8) : Bool := decide (l = [45] ∨ rlOk (pcs 44 l))
open Classical in
noncomputable def rlsV (l : List UInt8) : List Int := if l = [45] then [] else if rlOk (pcs 44 l) then (pcs 44 l).map valL else []
theorem rls_dash {l : List UInt8} (h : l = [45]) : rlsB l = true ∧ rlsV l = [] := by simp [rlsB, rlsV, h]
theorem rls_bad {l : List UInt8} (h : l ≠ [45]) (k : ¬ rlOk (pcs 44 l)) : rlsB l = false ∧ rlsV l = [] := by simp [rlsB, rlsV, h, k]
theorem rls_good {l : List UInt8} (h : l ≠ [45]) (k : rlOk (pcs 44 l)) : rlsB l = true ∧ rlsV l = (pcs 44 l).map valL := by simp [rlsB, rlsV, h, k]
theorem rlsV_len (l : List UInt8) : (rlsV l).length ≤ 64 := by
  unfold rlsV
  split
  · simp
  · split
    · rename_i h; rw [List.length_map]; exact h.1
    · simp
theorem map_takeS {α : Type} (f : List UInt8 → α) (ts : List (List UInt8)) (k : Nat) (h : k < ts.length) : (ts.take (k + 1)).map f = (ts.take k).map f ++ [f (ts.getD k [])] := by
  rw [List.take_succ_eq_append_getElem h, List.map_append, List.getD_eq_getElem?_getD, List.getElem?_eq_getElem h]; rfl
set_option maxHeartbeats 4000000 in
theorem specReadList (s : ByteArray) (w : World) (hs : s.size ≤ 1048576) :
    Calls Tryd.prog 9 #[.string s] w fun e w' => ∃ u, e = .returned (.tuple #[u, .bool (rlsB s.data.toList)]) ∧ Ow w' w.heap.size w'.heap.size u (rlsV s.data.toList) ∧ Below w.heap.size w w' := by
  obtain ⟨n0, hi, hz0, hz1, hz2⟩ := info_parts infoE
  by_cases hd : s.toList = [45]
  · have HF := Lib.hid (rls_dash (l := s.data.toList) (by rw [← ByteArray.toList_eq s]; exact hd))
    have e1 : (s.toList == [45]) = true := by simp [hd]
    have HO := Lib.hid (Ow.made w)
    clear hd
    go_enter Tryd.func9, Tryd.ntmps9
    go_wp2
    go_ret2
    exact ⟨_, by rw [HF.out.1] <;> rfl, by rw [HF.out.2]; exact HO.out, (Below.refl _ _).alloc (Nat.le_refl _) _⟩
  have e1 : (s.toList == [45]) = false := by simpa using hd
  have HDs : Hid (s.data.toList ≠ [45]) := Lib.hid (by rw [← ByteArray.toList_eq s]; exact hd)
  obtain ⟨ts, hts⟩ : ∃ ts, ts = pcs 44 s.data.toList := ⟨_, rfl⟩
  have HTs := Lib.hid hts
  have HPz : Hid (∀ j, j < ts.length → (ts.getD j []).length ≤ 1048576) := Lib.hid (fun j hj => by
    have := pcs_piece 44 s.data.toList (ts.getD j []) (by rw [← hts, List.getD_eq_getElem?_getD, List.getElem?_eq_getElem hj]; exact List.getElem_mem hj)
    have h2 := Lib.size_eq s
    omega)
  have HP0 : Hid (0 < ts.length) := Lib.hid (by rw [hts]; exact pcs_pos _ _)
  clear hd hts
  go_enter Tryd.func9, Tryd.ntmps9
  go_wp2_with fail
  refine (specSplit s 44 44 rfl _ hs).mono ?_
  rintro e w1 ⟨u, rfl, hr, hb1⟩
  rw [← HTs.out] at hr
  have HR := Lib.hid hr
  have HB1 := Lib.hid hb1
  obtain ⟨b, c, rfl, hcap, hbl, hcell⟩ := hr
  have HC := Lib.hid hcell
  clear hcell hb1
  by_cases hl : ts.length ≤ 64
  rotate_left
  · have HF := Lib.hid (rls_bad HDs.out (fun h => hl (by rw [HTs.out]; exact h.1)))
    have f1 : decide ((64 : Int) < (ts.length : Int)) = true := decide_eq_true (by omega)
    have f2 : decide (64 < ts.length) = true := decide_eq_true (by omega)
    clear hl
    go_wp2
    go_ret2
    exact ⟨_, by rw [HF.out.1] <;> rfl, by rw [HF.out.2]; exact Ow.emptyUp HB1.out.size, HB1.out⟩
  have f1 : decide ((64 : Int) < (ts.length : Int)) = false := decide_eq_false (by omega)
  have f2 : decide (64 < ts.length) = false := decide_eq_false (by omega)
  have HLn := Lib.hid hl
  clear hl
  go_wp2
  go_loopw [5, 6] (fun o i wr => ∃ (k : Nat) (ov : Value), o = ov ∧ k ≤ ts.length ∧ i = .int .i64 (k : Int) ∧ (∀ j, j < k → rlOne (ts.getD j [])) ∧ Ow wr w1.heap.size wr.heap.size ov ((ts.take k).map valL) ∧ Below w1.heap.size w1 wr) (fun _ i _ => ts.length - (intOf i).toNat)
  case atStart => exact ⟨0, _, rfl, Nat.zero_le _, rfl, fun j hj => by omega, Ow.made _, (Below.refl _ _).alloc (Nat.le_refl _) _⟩
  case round =>
    obtain ⟨k, ov, hov, hk, rfl, hall, hown, hbel⟩ := hrel
    obtain rfl := hov.symm
    have HA := Lib.hid hall
    have HW := Lib.hid hbel
    have HO := Lib.hid hown
    have HBW : Hid (Below w.heap.size w wr) := Lib.hid (HB1.out.trans (hbel.mono HB1.out.size))
    clear hall hown
    by_cases hlt : k < ts.length
    · obtain ⟨t, ht⟩ : ∃ t, t = ts.getD k [] := ⟨_, rfl⟩
      have hc : wr.cell? ⟨b, k, none⟩ = some (.string (bs t)) := by rw [ht]; exact (hbel.cell hbl).trans (HC.out k hlt)
      have i0' : (0 : Int) ≤ (k : Int) := by omega
      have i1 : (k : Int) < (ts.length : Int) := by omega
      have HT := Lib.hid ht
      have HSz : Hid ((bs t).size ≤ 1048576) := Lib.hid (by rw [bs_size, ht]; exact HPz.out k hlt)
      obtain ⟨n, hn⟩ : ∃ n, n = numV (bs t).data.toList := ⟨_, rfl⟩
      obtain ⟨q, hq⟩ : ∃ n, n = numB (bs t).data.toList := ⟨_, rfl⟩
      have HN := Lib.hid hn
      have HQ := Lib.hid hq
      have HBad : Hid (¬ rlOne t → rlsB s.data.toList = false ∧ rlsV s.data.toList = []) := Lib.hid (fun h => rls_bad HDs.out (fun h2 => h (by rw [HT.out, HTs.out]; exact h2.2 k (by rw [← HTs.out]; exact hlt))))
      clear hbel ht hn hq
      go_wp2_with fail
      refine (specNumber (bs t) _ HSz.out).mono ?_
      rintro e w2 ⟨rfl, hb2⟩
      rw [← HN.out, ← HQ.out]
      have HO2 := Lib.hid (HO.out.below hb2 (Nat.le_refl _)).up
      have HW2 := Lib.hid (HW.out.trans (hb2.mono HW.out.size))
      have HBW2 := Lib.hid (HBW.out.trans (hb2.mono HBW.out.size))
      clear hb2
      rcases eqOr q with hb | hb
      · subst hb
        have HF := Lib.hid (HBad.out (fun h => by have := (num_yes h.1).1; rw [← bs_list t, ← HQ.out] at this; cases this))
        go_wp2
        go_ret2
        exact ⟨_, by rw [HF.out.1] <;> rfl, by rw [HF.out.2]; exact Ow.emptyUp HBW2.out.size, HBW2.out⟩
      subst hb
      have hnum : NumOk t := by
        rcases Classical.em (NumOk t) with h | h
        · exact h
        · have := (num_no h).1; rw [← bs_list t, ← HQ.out] at this; cases this
      have hval : n = valL t := by rw [HN.out]; first | rw [bs_list, (num_yes hnum).2] | rw [(num_yes hnum).2]
      by_cases hg : -1000000000000 ≤ n ∧ n ≤ 1000000000000
      rotate_left
      · have HF := Lib.hid (HBad.out (fun h => hg (by rw [hval]; exact h.2)))
        have HG := Lib.hid hg
        clear hg hval hnum
        go_wp2_with fail
        refine (specInN _ _ _ _ HG.out).mono ?_
        rintro e w3 ⟨rfl, rfl⟩
        go_wp2
        go_ret2
        exact ⟨_, by rw [HF.out.1] <;> rfl, by rw [HF.out.2]; exact Ow.emptyUp HBW2.out.size, HBW2.out⟩
      have HG := Lib.hid hg
      have HOne : Hid (rlOne t) := Lib.hid ⟨hnum, by rw [← hval]; exact hg⟩
      have HS : Hid ((ts.take (k + 1)).map valL = (ts.take k).map valL ++ [n]) := Lib.hid (by rw [map_takeS valL ts k hlt, ← HT.out, hval])
      have HAn : Hid (∀ j, j < k + 1 → rlOne (ts.getD j [])) := Lib.hid (fun j hj => by
        by_cases he : j = k
        · subst he; rw [← HT.out]; exact HOne.out
        · exact HA.out j (by omega))
      obtain ⟨zs, hzs⟩ : ∃ z, z = (ts.take k).map valL := ⟨_, rfl⟩
      have hlk : zs.length = k := by rw [hzs]; simp; omega
      have HLk := Lib.hid hlk
      have HZs := Lib.hid hzs
      have HO2' : Hid (Ow w2 w1.heap.size w2.heap.size ov zs) := Lib.hid (by rw [hzs]; exact HO2.out)
      have hlen64 := HLn.out
      have hown2 : w2.ownsRow w1.heap.size 2 1 ov k (zs.map (Value.int .i64)) := by have := HO2'.out.row; rwa [hlk] at this
      have hsz1 := HW2.out.size
      clear hg hval hnum hlk hzs
      go_wp2_with fail
      refine (specInY _ _ _ _ HG.out).mono ?_
      rintro e w3 ⟨rfl, hw3⟩
      obtain rfl := hw3
      go_wp2_with (at_builtin; refine wpList_append_own _ rfl _ _ 22 rfl w1.heap.size 2 n0 (.int .i64 0) 1 8 Tryd.underlying22 hi hz0 hz1 hz2 rfl (by decide) _ _ _ rfl (hown2.alloc _) ⟨_, 0, none⟩ 1 1 [.int .i64 n] rfl rfl ?c1 ?c2 ?c3 ?c4 ?c5 ?_)
      try (case c1 => exact cellNew _ _ _)
      case c2 => first | exact oneCell _ | rfl
      case c3 => unfold maxLen; omega
      case c4 => omega
      case c5 => first | omega | (simp; omega)
      intro v' w4 hown4 hgrow _
      obtain ⟨ho, hb4⟩ := HO2'.out.snoc (x := n) (by have := HG.out; omega) (by rw [HLk.out]; omega) (by rw [HLk.out]; exact hown4) hgrow
      rw [HZs.out, ← HS.out] at ho
      have HO4 := Lib.hid ho
      have HW4 := Lib.hid (HW2.out.trans (hb4.mono (Nat.le_refl _)))
      clear ho hb4 hown4 hgrow hown2
      go_wp2
      go_roundw
      case rel => exact ⟨k + 1, v', rfl, by omega, by go_num, HAn.out, HO4.out, HW4.out⟩
      case measure => simp [intOf]; omega
    · obtain rfl : k = ts.length := by omega
      have hnlt : ¬ ((ts.length : Int) < (ts.length : Int)) := by omega
      have HF := Lib.hid (rls_good HDs.out (by rw [← HTs.out]; exact ⟨HLn.out, HA.out⟩))
      have HO5 : Hid (Ow wr w1.heap.size wr.heap.size ov (ts.map valL)) := Lib.hid (by have := HO.out; rwa [List.take_length] at this)
      clear hlt hbel
      go_wp2
      go_ret2
      exact ⟨_, by rw [HF.out.1] <;> rfl, by rw [HF.out.2, ← HTs.out]; exact HO5.out.mono HB1.out.size (Nat.le_refl _) (Nat.le_refl _), HBW.out⟩
end Go.Proofs.YtbifkjmmhfnblaaDoor.Ints
