/- The numbers of some texts, of the program: mapped at numberIn. -/
import Derived.Test.YtbifkjmmhfnblaaDoorGup
import Derived.Test.YtbifkjmmhfnblaaDoorRlS
namespace Go.Proofs.YtbifkjmmhfnblaaDoor.Ints
open Go.RowKit
set_option linter.unusedVariables false
set_option linter.unusedSimpArgs false
def AllNum (ts : List (List UInt8)) : Prop := ∀ j, j < ts.length → NumOk (ts.getD j [])
/-- A row lies as it lay where a lower block is written. -/
theorem Ow.setLow {w : World} {B T : Nat} {v : Value} {zs : List Int} (h : Ow w B T v zs) (k : Nat) (x : Value) (hk : k < B) : Ow (w.setCell ⟨k, 0, none⟩ x) B T v zs := by
  refine ⟨h.len, h.fit, ?_, h.top, by simpa using h.size, h.base⟩
  rcases h.row.2 with ⟨rfl, h0⟩ | ⟨g, cp, cur, rfl, h1, h2, h3⟩
  · exact ⟨h.row.1, .inl ⟨rfl, h0⟩⟩
  · exact ⟨h.row.1, .inr ⟨g, cp, cur, rfl, h1, by rw [Below.heap_setCell w ⟨k, 0, none⟩ x g (by show g ≠ k; omega)]; exact h2, h3⟩⟩
set_option maxHeartbeats 4000000 in
theorem mapNumY (v : Value) (ts : List (List UInt8)) (w : World) (hr : RdS w v ts) (hp : ∀ j, j < ts.length → (ts.getD j []).length ≤ 1048576) (hl : ts.length ≤ 1048577) (ht : TabV w) (he : ErrV w) (h : AllNum ts) :
    Calls Tryd.prog 50 #[v, .func (Fn.func 51) #[] #[]] w fun e w' => ∃ u, e = .returned u ∧ Ow w' w.heap.size w'.heap.size u (ts.map valL) ∧ Below w.heap.size w w' := by
  obtain ⟨n0, hi, hz0, hz1, hz2⟩ := info_parts infoE
  have HTab := Lib.hid ht
  have HErr := Lib.hid he
  have HPz := Lib.hid hp
  have HLn := Lib.hid hl
  have HAll := Lib.hid h
  obtain ⟨b, c, rfl, hcap, hbl, hcell⟩ := hr
  have HC := Lib.hid hcell
  clear ht he hp hl h hcell
  go_enter Tryd.func50, Tryd.ntmps50
  go_wp2
  go_loopw [5, 10] (fun o i wr => ∃ (k : Nat) (ov : Value), o = ov ∧ k ≤ ts.length ∧ i = .int .i64 (k : Int) ∧ (∀ j, j < k → NumOk (ts.getD j [])) ∧ Ow wr w.heap.size wr.heap.size ov ((ts.take k).map valL) ∧ Below w.heap.size w wr) (fun _ i _ => ts.length - (intOf i).toNat)
  case atStart => exact ⟨0, _, rfl, Nat.zero_le _, rfl, fun j hj => by omega, Ow.empty _, Below.refl _ _⟩
  case round =>
    obtain ⟨k, ov, hov, hk, rfl, hall, hown, hbel⟩ := hrel
    obtain rfl := hov.symm
    have HA := Lib.hid hall
    have HW := Lib.hid hbel
    have HO := Lib.hid hown
    clear hall hown
    by_cases hlt : k < ts.length
    · obtain ⟨t, ht⟩ : ∃ t, t = ts.getD k [] := ⟨_, rfl⟩
      have hc : wr.cell? ⟨b, k, none⟩ = some (.string (bs t)) := by rw [ht]; exact (hbel.cell hbl).trans (HC.out k hlt)
      have i0' : (0 : Int) ≤ (k : Int) := by omega
      have i1 : (k : Int) < (ts.length : Int) := by omega
      have HT := Lib.hid ht
      have HSz : Hid ((bs t).size ≤ 1048576) := Lib.hid (by rw [bs_size, ht]; exact HPz.out k hlt)
      have hnum : NumOk (bs t).data.toList := by rw [bs_list, ht]; exact HAll.out k hlt
      have HNum : Hid (NumOk t) := Lib.hid (by rw [bs_list] at hnum; exact hnum)
      obtain ⟨n, hn⟩ : ∃ n, n = valL (bs t).data.toList := ⟨_, rfl⟩
      have hval : n = valL t := by rw [hn, bs_list]
      have HN := Lib.hid hn
      have HNm := Lib.hid hnum
      have HG : Hid (-1000000000000000000 < n ∧ n < 1000000000000000000) := Lib.hid (by rw [hval]; exact valL_small HNum.out)
      have HS : Hid ((ts.take (k + 1)).map valL = (ts.take k).map valL ++ [n]) := Lib.hid (by rw [map_takeS valL ts k hlt, ← HT.out, hval])
      have HAn : Hid (∀ j, j < k + 1 → NumOk (ts.getD j [])) := Lib.hid (fun j hj => by
        by_cases he : j = k
        · subst he; rw [← HT.out]; exact HNum.out
        · exact HA.out j (by omega))
      clear hbel ht hn hval hnum
      go_wp2_with fail
      refine (implNumY (bs t) _ HSz.out (HTab.out.below HW.out (Nat.le_refl _)) (HErr.out.below HW.out (Nat.le_refl _)) HNm.out).mono ?_
      rintro e w2 ⟨rfl, hb2⟩
      rw [← HN.out]
      have HO2 := Lib.hid (HO.out.below hb2 (Nat.le_refl _)).up
      have HW2 := Lib.hid (HW.out.trans (hb2.mono HW.out.size))
      clear hb2
      obtain ⟨zs, hzs⟩ : ∃ z, z = (ts.take k).map valL := ⟨_, rfl⟩
      have hlk : zs.length = k := by rw [hzs]; simp; omega
      have HLk := Lib.hid hlk
      have HZs := Lib.hid hzs
      have HO2' : Hid (Ow w2 w.heap.size w2.heap.size ov zs) := Lib.hid (by rw [hzs]; exact HO2.out)
      have hlen64 := HLn.out
      have hown2 : w2.ownsRow w.heap.size 2 1 ov k (zs.map (Value.int .i64)) := by have := HO2'.out.row; rwa [hlk] at this
      have hsz1 := HW2.out.size
      clear hlk hzs
      go_wp2_with (at_builtin; refine wpList_append_own _ rfl _ _ 22 rfl w.heap.size 2 n0 (.int .i64 0) 1 8 Tryd.underlying22 hi hz0 hz1 hz2 rfl (by decide) _ _ _ rfl (hown2.alloc _) ⟨_, 0, none⟩ 1 1 [.int .i64 n] rfl rfl ?c1 ?c2 ?c3 ?c4 ?c5 ?_)
      try (case c1 => exact cellNew _ _ _)
      case c2 => first | exact oneCell _ | rfl
      case c3 => unfold maxLen; omega
      case c4 => omega
      case c5 => first | omega | (simp; omega)
      intro v' w4 hown4 hgrow _
      obtain ⟨ho, hb4⟩ := HO2'.out.snoc (x := n) (by have := HG.out; omega) (by rw [HLk.out]; omega) (by rw [HLk.out]; exact hown4) hgrow
      rw [HZs.out, ← HS.out] at ho
      have HO4 := Lib.hid ho
      have HW4 := Lib.hid (HW2.out.trans (hb4.mono (Nat.le_refl _)))
      clear ho hb4 hown4 hgrow hown2
      go_wp2
      go_roundw
      case rel => exact ⟨k + 1, v', rfl, by omega, by go_num, HAn.out, HO4.out, HW4.out⟩
      case measure => simp [intOf]; omega
    · obtain rfl : k = ts.length := by omega
      have hnlt : ¬ ((ts.length : Int) < (ts.length : Int)) := by omega
      have HO5 : Hid (Ow wr w.heap.size wr.heap.size ov (ts.map valL)) := Lib.hid (by have := HO.out; rwa [List.take_length] at this)
      clear hlt hbel
      go_wp2
      go_ret
      exact ⟨_, rfl, HO5.out, HW.out⟩
set_option maxHeartbeats 4000000 in
theorem mapNumN (v : Value) (ts : List (List UInt8)) (w : World) (hr : RdS w v ts) (hp : ∀ j, j < ts.length → (ts.getD j []).length ≤ 1048576) (hl : ts.length ≤ 1048577) (ht : TabV w) (he : ErrV w) (h : ¬ AllNum ts) :
    Calls Tryd.prog 50 #[v, .func (Fn.func 51) #[] #[]] w fun e w' => e = .panicked [gaveUp 8] ∧ Below w.heap.size w w' := by
  obtain ⟨n0, hi, hz0, hz1, hz2⟩ := info_parts infoE
  have HTab := Lib.hid ht
  have HErr := Lib.hid he
  have HPz := Lib.hid hp
  have HLn := Lib.hid hl
  have HAll := Lib.hid h
  obtain ⟨b, c, rfl, hcap, hbl, hcell⟩ := hr
  have HC := Lib.hid hcell
  clear ht he hp hl h hcell
  go_enter Tryd.func50, Tryd.ntmps50
  go_wp2
  go_loopw [5, 10] (fun o i wr => ∃ (k : Nat) (ov : Value), o = ov ∧ k ≤ ts.length ∧ i = .int .i64 (k : Int) ∧ (∀ j, j < k → NumOk (ts.getD j [])) ∧ Ow wr w.heap.size wr.heap.size ov ((ts.take k).map valL) ∧ Below w.heap.size w wr) (fun _ i _ => ts.length - (intOf i).toNat)
  case atStart => exact ⟨0, _, rfl, Nat.zero_le _, rfl, fun j hj => by omega, Ow.empty _, Below.refl _ _⟩
  case round =>
    obtain ⟨k, ov, hov, hk, rfl, hall, hown, hbel⟩ := hrel
    obtain rfl := hov.symm
    have HA := Lib.hid hall
    have HW := Lib.hid hbel
    have HO := Lib.hid hown
    clear hall hown
    by_cases hlt : k < ts.length
    · obtain ⟨t, ht⟩ : ∃ t, t = ts.getD k [] := ⟨_, rfl⟩
      have hc : wr.cell? ⟨b, k, none⟩ = some (.string (bs t)) := by rw [ht]; exact (hbel.cell hbl).trans (HC.out k hlt)
      have i0' : (0 : Int) ≤ (k : Int) := by omega
      have i1 : (k : Int) < (ts.length : Int) := by omega
      have HT := Lib.hid ht
      have HSz : Hid ((bs t).size ≤ 1048576) := Lib.hid (by rw [bs_size, ht]; exact HPz.out k hlt)
      by_cases hnum : NumOk (bs t).data.toList
      rotate_left
      · have HNo := Lib.hid hnum
        clear hbel ht hnum
        go_wp2_with fail
        refine (implNumN (bs t) _ HSz.out (HTab.out.below HW.out (Nat.le_refl _)) (HErr.out.below HW.out (Nat.le_refl _)) HNo.out).mono ?_
        rintro e w2 ⟨rfl, hb2⟩
        have HW2 := Lib.hid (HW.out.trans (hb2.mono HW.out.size))
        clear hb2
        go_wp2
        exact ⟨rfl, rfl, HW2.out⟩
      have HNum : Hid (NumOk t) := Lib.hid (by rw [bs_list] at hnum; exact hnum)
      obtain ⟨n, hn⟩ : ∃ n, n = valL (bs t).data.toList := ⟨_, rfl⟩
      have hval : n = valL t := by rw [hn, bs_list]
      have HN := Lib.hid hn
      have HNm := Lib.hid hnum
      have HG : Hid (-1000000000000000000 < n ∧ n < 1000000000000000000) := Lib.hid (by rw [hval]; exact valL_small HNum.out)
      have HS : Hid ((ts.take (k + 1)).map valL = (ts.take k).map valL ++ [n]) := Lib.hid (by rw [map_takeS valL ts k hlt, ← HT.out, hval])
      have HAn : Hid (∀ j, j < k + 1 → NumOk (ts.getD j [])) := Lib.hid (fun j hj => by
        by_cases he : j = k
        · subst he; rw [← HT.out]; exact HNum.out
        · exact HA.out j (by omega))
      clear hbel ht hn hval hnum
      go_wp2_with fail
      refine (implNumY (bs t) _ HSz.out (HTab.out.below HW.out (Nat.le_refl _)) (HErr.out.below HW.out (Nat.le_refl _)) HNm.out).mono ?_
      rintro e w2 ⟨rfl, hb2⟩
      rw [← HN.out]
      have HO2 := Lib.hid (HO.out.below hb2 (Nat.le_refl _)).up
      have HW2 := Lib.hid (HW.out.trans (hb2.mono HW.out.size))
      clear hb2
      obtain ⟨zs, hzs⟩ : ∃ z, z = (ts.take k).map valL := ⟨_, rfl⟩
      have hlk : zs.length = k := by rw [hzs]; simp; omega
      have HLk := Lib.hid hlk
      have HZs := Lib.hid hzs
      have HO2' : Hid (Ow w2 w.heap.size w2.heap.size ov zs) := Lib.hid (by rw [hzs]; exact HO2.out)
      have hlen64 := HLn.out
      have hown2 : w2.ownsRow w.heap.size 2 1 ov k (zs.map (Value.int .i64)) := by have := HO2'.out.row; rwa [hlk] at this
      have hsz1 := HW2.out.size
      clear hlk hzs
      go_wp2_with (at_builtin; refine wpList_append_own _ rfl _ _ 22 rfl w.heap.size 2 n0 (.int .i64 0) 1 8 Tryd.underlying22 hi hz0 hz1 hz2 rfl (by decide) _ _ _ rfl (hown2.alloc _) ⟨_, 0, none⟩ 1 1 [.int .i64 n] rfl rfl ?c1 ?c2 ?c3 ?c4 ?c5 ?_)
      try (case c1 => exact cellNew _ _ _)
      case c2 => first | exact oneCell _ | rfl
      case c3 => unfold maxLen; omega
      case c4 => omega
      case c5 => first | omega | (simp; omega)
      intro v' w4 hown4 hgrow _
      obtain ⟨ho, hb4⟩ := HO2'.out.snoc (x := n) (by have := HG.out; omega) (by rw [HLk.out]; omega) (by rw [HLk.out]; exact hown4) hgrow
      rw [HZs.out, ← HS.out] at ho
      have HO4 := Lib.hid ho
      have HW4 := Lib.hid (HW2.out.trans (hb4.mono (Nat.le_refl _)))
      clear ho hb4 hown4 hgrow hown2
      go_wp2
      go_roundw
      case rel => exact ⟨k + 1, v', rfl, by omega, by go_num, HAn.out, HO4.out, HW4.out⟩
      case measure => simp [intOf]; omega
    · exact absurd (fun j hj => HA.out j (by omega)) HAll.out
end Go.Proofs.YtbifkjmmhfnblaaDoor.Ints
