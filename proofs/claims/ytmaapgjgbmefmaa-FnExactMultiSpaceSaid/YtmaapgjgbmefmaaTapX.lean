/- Contracts of TapeWord: the model's word, and both functions whole. -/
import Derived.Test.YtmaapgjgbmefmaaTapW
namespace Go.Proofs.Ytmaapgjgbmefmaa.Ints
open Go.RowKit
set_option linter.unusedVariables false
set_option linter.unusedSimpArgs false
theorem twW_stop {ls rs Z Z' : List Int} (hz : Z = ls.reverse ++ rs) (he : ld Z' = ld Z) (h : ld Z' = Z') : tr Z' = twW ls rs := by
  rw [twW, ← hz, ← he, h]
theorem ow_join {w : World} {B : Nat} {v : Value} {xs ys : List Int} (h1 : Fit xs) (h2 : Fit ys) (hl : xs.length + ys.length ≤ 16777216)
    (h : w.ownsRow B 2 1 v (xs.length + ys.length) ((xs ++ ys).map (Value.int .i64))) (hB : B ≤ w.heap.size) : Ow w B w.heap.size v (xs ++ ys) :=
  ⟨by rw [List.length_append]; exact hl, fun z hz => by
    rcases List.mem_append.1 hz with hz | hz
    · exact h1 z hz
    · exact h2 z hz, by rw [List.length_append]; exact h, fun k hk => (h.lt k hk).2, Nat.le_refl _, hB⟩
set_option maxHeartbeats 4000000 in
set_option maxRecDepth 100000 in
theorem specTW (g : Nat) (u v : Value) (ls rs : List Int) (w : World) (hu : Rd w u ls) (hv : Rd w v rs) (l1 : ls.length ≤ 200) (l2 : rs.length ≤ 200)
    (a0 : w.cell? ⟨g, 0, none⟩ = some u) (a1 : w.cell? ⟨g, 1, none⟩ = some v) :
    Calls Try.prog 83 #[.pointer (some ⟨g, 0, none⟩)] w fun e w' => ∃ r, e = .returned r ∧ Ow w' w.heap.size w'.heap.size r (twW ls rs) ∧ Below w.heap.size w w' := by
  have HU := Lib.hid hu
  have HV := Lib.hid hv
  obtain ⟨_, _, a, c, rfl, _, _⟩ := hu
  obtain ⟨_, _, a', c', rfl, _, _⟩ := hv
  have hg := World.block_lt_of_cell? w _ a0
  obtain ⟨L, hL⟩ : ∃ L, L = ls.reverse := ⟨_, rfl⟩
  have HLl : Hid (L.length = ls.length) := Lib.hid (by rw [hL]; simp)
  have hL200 : L.length ≤ 200 := by have := HLl.out; omega
  have HLL := Lib.hid hL
  have HS : Hid (∀ W, Below w.heap.size w W → W.cell? ⟨g, 0, none⟩ = some (.slice a ls.length c) ∧ W.cell? ⟨g, 1, none⟩ = some (.slice a' rs.length c')) := Lib.hid (fun W hb =>
    ⟨(hb.cell (p := ⟨g, 0, none⟩) hg).trans a0, (hb.cell (p := ⟨g, 1, none⟩) hg).trans a1⟩)
  clear hL a0 a1
  go_enter Try.func83, Try.ntmps83
  go_wp2_with fail
  have HD : Hid (Below w.heap.size w w.drew) := Lib.hid (Below.refl _ _).drew
  go_region_held3 (fun W => W.cell? ⟨g, 0, none⟩ = some (.slice a ls.length c) ∧ W.cell? ⟨g, 1, none⟩ = some (.slice a' rs.length c')) (exact HS.out _ HD.out)
    (first
      | (go_at_call 132; with_reducible refine (specRev _ ls _ (HU.out.below HD.out (Nat.le_refl _))).mono ?_; rintro e3 w3 ⟨r, rfl, ho, hb3⟩; rw [← HLL.out] at ho; have HSZ := Lib.hid HD.out.size; replace HD := Lib.hid (HD.out.trans (hb3.mono HD.out.size)); have HO := Lib.hid (ho.mono HSZ.out (Nat.le_refl _) (Nat.le_refl _)); clear ho hb3)
      | (refine step_append_rd (by rfl) _ _ (by rfl) w.heap.size _ _ L rs (by rfl) HO.out.row (by rfl) (HV.out.below HD.out (Nat.le_refl _)) (by omega) HD.out.size ?_; intro v' w4 hown4 hgrow4; have HX := Lib.hid (HD.out.grown hgrow4 HD.out.size (fun k hk => (HO.out.row.lt k hk).1)); have HO4 := Lib.hid hown4; replace HD := HX; clear hown4 hgrow4))
  have HO5 : Hid (Ow w4 w.heap.size w4.heap.size v' (L ++ rs)) := Lib.hid ⟨by rw [List.length_append]; omega, fun z hz => by
    rcases List.mem_append.1 hz with hz | hz
    · exact HO.out.fit z hz
    · exact HV.out.fit z hz, by rw [List.length_append]; exact HO4.out, fun k hk => (HO4.out.lt k hk).2, Nat.le_refl _, HD.out.size⟩
  obtain ⟨Z, hZ⟩ : ∃ Z, Z = L ++ rs := ⟨_, rfl⟩
  have HZ : Hid (Z = ls.reverse ++ rs) := Lib.hid (by rw [hZ, HLL.out])
  rw [← hZ] at HO5
  have hrd := HO5.out.rd
  have HR := Lib.hid hrd
  clear HO4 HX hZ hrd HS
  go_wp2
  go_loop [3] (fun s => ∃ Z' : List Int, Rd w4 s Z' ∧ ld Z' = ld Z) (fun s => match s with | .slice _ m _ => m | _ => 0)
  case atStart => exact ⟨Z, HR.out, rfl⟩
  case round =>
    obtain ⟨Z', hZ', he⟩ := hrel
    have HR' := Lib.hid hZ'
    have HE := Lib.hid he
    obtain ⟨hl', hf', a2, c2, rfl, hcap', hr'⟩ := hZ'
    clear he hf'
    cases Z' with
    | nil =>
      have HT := Lib.hid (twW_stop HZ.out HE.out rfl)
      clear hr'
      go_wp2_with fail
      refine (specTrimT _ [] _ HR'.out).mono ?_
      rintro e5 w5 ⟨r5, rfl, ho5, hb5⟩
      have HO6 := Lib.hid (ho5.mono (B' := w.heap.size) HD.out.size (Nat.le_refl _) (Nat.le_refl _))
      have HB6 := Lib.hid (HD.out.trans (hb5.mono HD.out.size))
      clear ho5 hb5
      go_wp2
      go_ret
      exact ⟨_, rfl, by rw [← HT.out]; exact HO6.out, HB6.out⟩
    | cons x xs =>
      obtain ⟨n, hn⟩ : ∃ n, (x :: xs).length = n + 1 := ⟨xs.length, rfl⟩
      obtain ⟨k, rfl⟩ : ∃ k, c2 = k + 1 := ⟨c2 - 1, by rw [hn] at hcap'; omega⟩
      obtain ⟨b, o, rfl, hb, hcell⟩ := hr' (by simp)
      have hc : w4.cell? ⟨b, o, none⟩ = some (.int .i64 x) := by have := hcell 0 (by simp); simpa using this
      have i0 : (0 : Int) < ((n + 1 : Nat) : Int) := by omega
      have i1 : (0 : Int) < (n : Int) + 1 := by omega
      have hnk : n ≤ k := by rw [hn] at hcap'; omega
      have i2 : ¬ ((n : Int) + 1 < 1) := by omega
      have i3 : 1 ≤ n + 1 := by omega
      have i4 : n + 1 ≤ k + 1 := by omega
      have HN := Lib.hid hn
      rw [hn]
      clear hcell hr' hcap' hl' hn hb
      by_cases h0 : x = 0
      · have hz : (x == 0) = true := by simp [h0]
        have HE2 : Hid (ld xs = ld Z) := Lib.hid (by rw [← HE.out, ld, if_pos h0])
        clear h0
        go_wp2
        go_round
        case rel =>
          refine ⟨xs, ?_, HE2.out⟩
          have hq : xs.length = n := by have := HN.out; simpa using this
          rw [← hq]
          exact HR'.out.tail rfl (fun hk => if_neg hk)
        case measure => simp
      · have hz : (x == 0) = false := by simp [h0]
        have HT := Lib.hid (twW_stop HZ.out HE.out (by rw [ld, if_neg h0]))
        clear h0
        go_wp2_with fail
        refine (specTrimT _ (x :: xs) _ (by have := HR'.out; rw [HN.out] at this; exact this)).mono ?_
        rintro e5 w5 ⟨r5, rfl, ho5, hb5⟩
        have HO6 := Lib.hid (ho5.mono (B' := w.heap.size) HD.out.size (Nat.le_refl _) (Nat.le_refl _))
        have HB6 := Lib.hid (HD.out.trans (hb5.mono HD.out.size))
        clear ho5 hb5
        go_wp2
        go_ret
        exact ⟨_, rfl, by rw [← HT.out]; exact HO6.out, HB6.out⟩
set_option maxHeartbeats 4000000 in
theorem specTapeWord (u : Value) (ls : List Int) (v : Value) (rs : List Int) (w : World) (hu : Rd w u ls) (hv : Rd w v rs) :
    Calls Try.prog 28 #[.agg #[u, v]] w fun e w' => ∃ r, e = .returned (.tuple #[r, .int .i64 (twC ls rs)]) ∧ Ow w' w.heap.size w'.heap.size r (twL ls rs) ∧ Below w.heap.size w w' := by
  have HU := Lib.hid hu
  have HV := Lib.hid hv
  obtain ⟨_, _, a, c, rfl, _, _⟩ := hu
  obtain ⟨_, _, a', c', rfl, _, _⟩ := hv
  obtain ⟨W0, hW0⟩ : ∃ W, W = w.alloc (Obj.cells #[.slice a ls.length c, .slice a' rs.length c'] 51) := ⟨_, rfl⟩
  have HB : Hid (Below w.heap.size w W0) := Lib.hid (by rw [hW0]; exact (Below.refl _ _).alloc (Nat.le_refl _) _)
  have K0 : Hid (Cels W0 w.heap.size 51 [.slice a ls.length c, .slice a' rs.length c']) := Lib.hid (by rw [hW0]; exact Cels.new _ _ _)
  have HW0 := Lib.hid hW0.symm
  obtain ⟨bt, hbt⟩ : ∃ b, b = tcB ls rs := ⟨_, rfl⟩
  have HT := Lib.hid hbt
  clear hW0 hbt
  go_enter Try.func28, Try.ntmps28
  go_wp2_with fail
  rw [HW0.out]
  refine (specTCells w.heap.size 0 _ _ ls rs _ (HU.out.below HB.out (Nat.le_refl _)) (HV.out.below HB.out (Nat.le_refl _)) (K0.out.cell 0 rfl) (K0.out.cell 1 rfl)).mono ?_
  rintro e w1 ⟨rfl, hb1⟩
  rw [← HT.out]
  replace K0 := Lib.hid (K0.out.below hb1 K0.out.lt)
  have HB1 := Lib.hid (HB.out.trans (hb1.mono HB.out.size))
  clear hb1
  rcases eqOr bt with hb | hb
  · subst hb
    have e := Lib.hid (tw_bad HT.out.symm)
    go_wp2_with fail
    go_ret2
    exact ⟨_, by rw [e.out.2] <;> rfl, by rw [e.out.1]; exact Ow.emptyUp HB1.out.size, HB1.out⟩
  subst hb
  have e := Lib.hid (tw_good HT.out.symm)
  have hsm := Lib.hid (tc_small HT.out.symm)
  go_wp2_with fail
  refine (specTW w.heap.size _ _ ls rs _ (HU.out.below HB1.out (Nat.le_refl _)) (HV.out.below HB1.out (Nat.le_refl _)) hsm.out.1 hsm.out.2 (K0.out.cell 0 rfl) (K0.out.cell 1 rfl)).mono ?_
  rintro e2 w2 ⟨r, rfl, ho, hb2⟩
  have HO := Lib.hid (ho.mono HB1.out.size (Nat.le_refl _) (Nat.le_refl _))
  have HB2 := Lib.hid (HB1.out.trans (hb2.mono HB1.out.size))
  clear ho hb2
  go_wp2
  go_ret2
  exact ⟨_, by rw [e.out.2] <;> rfl, by rw [e.out.1]; exact HO.out, HB2.out⟩
theorem implHas (u : Value) (ls : List Int) (v : Value) (rs : List Int) (w : World) (hu : Rd w u ls) (hv : Rd w v rs) :
    Calls Try.prog 84 #[.agg #[u, v]] w fun e w' => e = .returned (.bool (tcB ls rs)) ∧ Below w.heap.size w w' := by
  have HU := Lib.hid hu
  have HV := Lib.hid hv
  obtain ⟨_, _, a, c, rfl, _, _⟩ := hu
  obtain ⟨_, _, a', c', rfl, _, _⟩ := hv
  obtain ⟨W0, hW0⟩ : ∃ W, W = w.alloc (Obj.cells #[.slice a ls.length c, .slice a' rs.length c'] 51) := ⟨_, rfl⟩
  have HB : Hid (Below w.heap.size w W0) := Lib.hid (by rw [hW0]; exact (Below.refl _ _).alloc (Nat.le_refl _) _)
  have K0 : Hid (Cels W0 w.heap.size 51 [.slice a ls.length c, .slice a' rs.length c']) := Lib.hid (by rw [hW0]; exact Cels.new _ _ _)
  have HW0 := Lib.hid hW0.symm
  obtain ⟨bl, hbl⟩ : ∃ b, b = (decide ((ls.length : Int) ≤ 200) && digB 10 ls) := ⟨_, rfl⟩
  obtain ⟨br, hbr⟩ : ∃ b, b = (decide ((rs.length : Int) ≤ 200) && digB 10 rs) := ⟨_, rfl⟩
  have HL := Lib.hid hbl
  have HR := Lib.hid hbr
  have HE : Hid (tcB ls rs = (bl && br)) := Lib.hid (by rw [tcB, ← hbl, ← hbr])
  clear hW0 hbl hbr
  go_enter Try.func84, Try.ntmps84
  go_wp2_with fail
  rw [HW0.out]
  refine (implCells _ ls _ _ _ (HU.out.below HB.out (Nat.le_refl _))).mono ?_
  rintro e w1 ⟨rfl, hb1⟩
  replace K0 := Lib.hid (K0.out.below hb1 K0.out.lt)
  have HB1 := Lib.hid (HB.out.trans (hb1.mono HB.out.size))
  rw [← HL.out]
  clear hb1
  rcases eqOr bl with hb | hb
  · subst hb
    have e := Lib.hid (show tcB ls rs = false by rw [HE.out]; rfl)
    go_wp2_with fail
    go_ret
    exact ⟨by rw [e.out] <;> rfl, HB1.out⟩
  subst hb
  have e := Lib.hid (show tcB ls rs = br by rw [HE.out]; rfl)
  have z1 := K0.out.cell 1 rfl
  go_wp2_with fail
  refine (implCells _ rs _ _ _ (HV.out.below HB1.out (Nat.le_refl _))).mono ?_
  rintro e2 w2 ⟨rfl, hb2⟩
  have HB2 := Lib.hid (HB1.out.trans (hb2.mono HB1.out.size))
  rw [← HR.out, ← e.out]
  clear hb2 z1
  go_wp2
  go_ret
  exact ⟨rfl, HB2.out⟩
theorem tw_impl (ls rs : List Int) : (tr (tr (ls.reverse ++ rs)).reverse).reverse = twW ls rs := by
  rw [tr_rev, ld_tr, twW]
set_option maxHeartbeats 4000000 in
set_option maxRecDepth 100000 in
theorem implTapeWord (u : Value) (ls : List Int) (v : Value) (rs : List Int) (w : World) (hu : Rd w u ls) (hv : Rd w v rs) :
    Calls Try.prog 30 #[.agg #[u, v]] w fun e w' => ∃ r, e = .returned (.tuple #[r, .int .i64 (twC ls rs)]) ∧ Ow w' w.heap.size w'.heap.size r (twL ls rs) ∧ Below w.heap.size w w' := by
  have HU := Lib.hid hu
  have HV := Lib.hid hv
  obtain ⟨_, _, a, c, rfl, _, _⟩ := hu
  obtain ⟨_, _, a', c', rfl, _, _⟩ := hv
  obtain ⟨W0, hW0⟩ : ∃ W, W = w.alloc (Obj.cells #[.slice a ls.length c, .slice a' rs.length c'] 51) := ⟨_, rfl⟩
  have HB : Hid (Below w.heap.size w W0) := Lib.hid (by rw [hW0]; exact (Below.refl _ _).alloc (Nat.le_refl _) _)
  have K0 : Hid (Cels W0 w.heap.size 51 [.slice a ls.length c, .slice a' rs.length c']) := Lib.hid (by rw [hW0]; exact Cels.new _ _ _)
  have HW0 := Lib.hid hW0.symm
  obtain ⟨bt, hbt⟩ : ∃ b, b = tcB ls rs := ⟨_, rfl⟩
  have HT := Lib.hid hbt
  clear hW0 hbt
  go_enter Try.func30, Try.ntmps30
  go_wp2_with fail
  rw [HW0.out]
  have z0 := K0.out.cell 0 rfl
  have z1 := K0.out.cell 1 rfl
  go_wp2_with fail
  refine (implHas _ ls _ rs _ (HU.out.below HB.out (Nat.le_refl _)) (HV.out.below HB.out (Nat.le_refl _))).mono ?_
  rintro e w1 ⟨rfl, hb1⟩
  rw [← HT.out]
  replace K0 := Lib.hid (K0.out.below hb1 K0.out.lt)
  have HB1 := Lib.hid (HB.out.trans (hb1.mono HB.out.size))
  clear hb1 z0 z1
  rcases eqOr bt with hb | hb
  · subst hb
    have e := Lib.hid (tw_bad HT.out.symm)
    go_wp2_with fail
    go_ret2
    exact ⟨_, by rw [e.out.2] <;> rfl, by rw [e.out.1]; exact Ow.emptyUp HB1.out.size, HB1.out⟩
  subst hb
  have e := Lib.hid (tw_good HT.out.symm)
  obtain ⟨l1, l2⟩ := tc_small HT.out.symm
  obtain ⟨L, hL⟩ : ∃ L, L = ls.reverse := ⟨_, rfl⟩
  have HLl : Hid (L.length = ls.length) := Lib.hid (by rw [hL]; simp)
  have hL200 : L.length ≤ 200 := by have := HLl.out; omega
  have HLL := Lib.hid hL
  have HS : Hid (∀ W, Below w1.heap.size w1 W → W.cell? ⟨w.heap.size, 0, none⟩ = some (.slice a ls.length c) ∧ W.cell? ⟨w.heap.size, 1, none⟩ = some (.slice a' rs.length c')) := Lib.hid (fun W hb => ⟨(K0.out.below hb K0.out.lt).cell 0 rfl, (K0.out.below hb K0.out.lt).cell 1 rfl⟩)
  clear hL
  go_wp2_with fail
  have HD : Hid (Below w1.heap.size w1 w1.drew) := Lib.hid (Below.refl _ _).drew
  go_region_held3 (fun W => W.cell? ⟨w.heap.size, 0, none⟩ = some (.slice a ls.length c) ∧ W.cell? ⟨w.heap.size, 1, none⟩ = some (.slice a' rs.length c')) (exact HS.out _ HD.out)
    (first
      | (go_at_call 86; with_reducible refine (implReversed _ ls _ (HU.out.below (HB1.out.trans (HD.out.mono HB1.out.size)) (Nat.le_refl _))).mono ?_; rintro e3 w3 ⟨r, rfl, ho, hb3⟩; rw [← HLL.out] at ho; have HSZ := Lib.hid HD.out.size; replace HD := Lib.hid (HD.out.trans (hb3.mono HD.out.size)); have HO := Lib.hid (ho.mono HSZ.out (Nat.le_refl _) (Nat.le_refl _)); clear ho hb3)
      | (refine step_append_rd (by rfl) _ _ (by rfl) w1.heap.size _ _ L rs (by rfl) HO.out.row (by rfl) (HV.out.below (HB1.out.trans (HD.out.mono HB1.out.size)) (Nat.le_refl _)) (by omega) HD.out.size ?_; intro v' w4 hown4 hgrow4; have HX := Lib.hid (HD.out.grown hgrow4 HD.out.size (fun k hk => (HO.out.row.lt k hk).1)); have HO4 := Lib.hid hown4; replace HD := HX; have HO5 : Hid (Ow w4 w1.heap.size w4.heap.size v' (L ++ rs)) := Lib.hid (ow_join HO.out.fit HV.out.fit (by omega) HO4.out HD.out.size); clear hown4 hgrow4)
      | (go_at_call 85; with_reducible refine (implTr _ (L ++ rs) _ HO5.out.rd).mono ?_; rintro e5 w5 ⟨r5, rfl, ho5, rfl⟩; have HR5 := Lib.hid ho5; clear ho5))
  have HB4 := Lib.hid (HB1.out.trans (HD.out.mono HB1.out.size))
  have HF : Hid ((tr (tr (L ++ rs)).reverse).reverse = twW ls rs) := Lib.hid (by rw [HLL.out, tw_impl])
  clear HO4 HX HS HO5
  go_wp2_with fail
  refine (implReversed _ (tr (L ++ rs)) _ HR5.out).mono ?_
  rintro e6 w6 ⟨r6, rfl, ho6, hb6⟩
  have HO6 := Lib.hid ho6
  have HB6 := Lib.hid (HB4.out.trans (hb6.mono HB4.out.size))
  clear ho6 hb6
  go_wp2_with fail
  refine (implTr _ (tr (L ++ rs)).reverse _ HO6.out.rd).mono ?_
  rintro e7 w7 ⟨r7, rfl, ho7, rfl⟩
  have HR7 := Lib.hid ho7
  clear ho7
  go_wp2_with fail
  refine (implReversed _ (tr (tr (L ++ rs)).reverse) _ HR7.out).mono ?_
  rintro e8 w8 ⟨r8, rfl, ho8, hb8⟩
  have HO8 := Lib.hid (ho8.mono (B' := w.heap.size) HB6.out.size (Nat.le_refl _) (Nat.le_refl _))
  have HB8 := Lib.hid (HB6.out.trans (hb8.mono HB6.out.size))
  rw [HF.out] at HO8
  clear ho8 hb8
  go_wp2
  go_ret2
  exact ⟨_, by rw [e.out.2] <;> rfl, by rw [e.out.1]; exact HO8.out, HB8.out⟩
end Go.Proofs.Ytmaapgjgbmefmaa.Ints
