/- The model's sorted lists: insertion. -/
import Derived.Test.YtepdjlhlcjkdkaaSrtP
import Derived.Test.YtepdjlhlcjkdkaaOwn
import Derived.Test.YtepdjlhlcjkdkaaCel
import Derived.Deep.QuietTactic
import Derived.BigQuiet
namespace Go.Proofs.Ytepdjlhlcjkdkaa.Ints
open Go.RowKit
set_option linter.unusedVariables false
set_option linter.unusedSimpArgs false
theorem ow_store {w : World} {B T g c n : Nat} {zs : List Int} (h : Ow w B T (.slice (some ⟨g, 0, none⟩) n c) zs) {k : Nat} (hk : k < zs.length) {x : Int} (hx : -9223372036854775808 ≤ x ∧ x ≤ 9223372036854775807) :
    w.cell? ⟨g, k, none⟩ = some (.int .i64 (zs.getD k 0)) ∧ w.frozen? ⟨g, k, none⟩ = false ∧ Ow (w.setCell ⟨g, k, none⟩ (.int .i64 x)) B T (.slice (some ⟨g, 0, none⟩) n c) (zs.set k x) ∧ Below B w (w.setCell ⟨g, k, none⟩ (.int .i64 x)) := by
  have hn : n = zs.length := by
    rcases h.form with ⟨h', _⟩ | ⟨_, _, h', _⟩
    · cases h'
    · simp only [Value.slice.injEq] at h'; exact h'.2.1
  subst hn
  obtain ⟨h1, g1⟩ := h.row.stored k (.int .i64 x)
  have hb := h.gb g1
  refine ⟨?_, h.row.frozenAt _, ⟨by simpa using h.len, fun z hz => ?_, by rw [List.map_set, List.length_set]; exact h1, h.top, Nat.le_trans h.size g1.size, h.base⟩, hb⟩
  · rw [h.row.cellAt k (by omega)]; simp [List.getD_eq_getElem?_getD, hk]
  · rcases List.mem_or_eq_of_mem_set hz with hz | hz
    · exact h.fit z hz
    · subst hz; exact hx
theorem shift_step (X : List Int) (c : Int) (j : Nat) (hj : j < X.length) :
    (X.take (j + 1) ++ c :: X.drop (j + 1)).set (j + 1) (X.getD j 0) = X.take j ++ X.getD j 0 :: X.drop j := by
  have e : X.getD j 0 = X[j] := by rw [List.getD_eq_getElem?_getD, List.getElem?_eq_getElem hj]; rfl
  have hl : (X.take (j + 1)).length = j + 1 := by simp; omega
  rw [List.set_append_right _ _ (by omega), hl, Nat.sub_self, List.set_cons_zero, List.take_succ_eq_append_getElem hj, e, List.drop_eq_getElem_cons hj, List.append_assoc]
  rfl
theorem shift_get (X : List Int) (c : Int) (j : Nat) (hj : j < X.length) : (X.take (j + 1) ++ c :: X.drop (j + 1)).getD j 0 = X.getD j 0 := by
  simp only [List.getD_eq_getElem?_getD]
  rw [List.getElem?_append_left (by simp; omega), List.getElem?_take_of_lt (by omega)]
theorem shift_len (X : List Int) (c : Int) (j : Nat) (hj : j ≤ X.length) : (X.take j ++ c :: X.drop j).length = X.length + 1 := by simp; omega
theorem shift_put (X : List Int) (c y : Int) (a : Nat) (ha : a ≤ X.length) : (X.take a ++ c :: X.drop a).set a y = X.take a ++ y :: X.drop a := by
  have hl : (X.take a).length = a := by simp; omega
  rw [List.set_append_right _ _ (by omega), hl, Nat.sub_self, List.set_cons_zero]
theorem insert_sorted {X : List Int} {y : Int} {a : Nat} (ha : a ≤ X.length) (hs : X.Pairwise (· ≤ ·)) (h1 : ∀ j, a ≤ j → j < X.length → y < X.getD j 0) (h2 : a = 0 ∨ X.getD (a - 1) 0 ≤ y) :
    (X.take a ++ y :: X.drop a).Pairwise (· ≤ ·) := by
  have hsp := hs
  rw [← List.take_append_drop a X] at hsp
  obtain ⟨p1, p2, p3⟩ := List.pairwise_append.1 hsp
  have hget : ∀ i (hi : i < X.length), X.getD i 0 = X[i] := fun i hi => by rw [List.getD_eq_getElem?_getD, List.getElem?_eq_getElem hi]; rfl
  refine List.pairwise_append.2 ⟨p1, List.pairwise_cons.2 ⟨fun z hz => ?_, p2⟩, fun x hx z hz => ?_⟩
  · obtain ⟨i, hi, rfl⟩ := List.getElem_of_mem hz
    have hi' : a + i < X.length := by simp at hi; omega
    have := h1 (a + i) (by omega) hi'
    rw [hget _ hi'] at this
    rw [List.getElem_drop]; omega
  · rcases List.mem_cons.1 hz with hz | hz
    · subst hz
      obtain ⟨i, hi, rfl⟩ := List.getElem_of_mem hx
      have hia : i < a := by simp at hi; omega
      have hl : a - 1 < X.length := by omega
      rcases h2 with h2 | h2
      · omega
      · rw [hget _ hl] at h2
        rw [List.getElem_take]
        rcases Nat.lt_or_ge i (a - 1) with h | h
        · have := List.pairwise_iff_getElem.1 hs i (a - 1) (by omega) hl h; omega
        · have : i = a - 1 := by omega
          subst this; exact h2
    · exact p3 x hx z hz
theorem insert_perm (X : List Int) (y : Int) (a : Nat) : (X.take a ++ y :: X.drop a).Perm (X ++ [y]) := by
  have h1 : (X.take a ++ y :: X.drop a).Perm (y :: (X.take a ++ X.drop a)) := List.perm_middle
  rw [List.take_append_drop] at h1
  exact h1.trans (List.perm_append_comm (l₁ := [y]) (l₂ := X))
theorem srt_len {K1 n k : Nat} (h : K1 = n + 1) (hn : n = k) (hb : n < 16777216) : K1 = k + 1 ∧ IntKind.i64.wrap ((K1 : Int) - 1) = (k : Int) ∧ K1 ≤ 16777216 := by
  refine ⟨by omega, by rw [IntKind.wrap_i64]; omega, by omega⟩
set_option maxHeartbeats 8000000 in
set_option maxRecDepth 100000 in
theorem specSorted (v : Value) (zs : List Int) (w : World) (hv : Rd w v zs) :
    Calls Try.prog 106 #[v] w fun e w' => ∃ u, e = .returned u ∧ Ow w' w.heap.size w'.heap.size u (srt zs) ∧ Below w.heap.size w w' := by
  have HF := Lib.hid hv.fit
  obtain ⟨hl, _, a, c, rfl, hcap, hr⟩ := hv
  have HR := Lib.hid hr
  obtain ⟨i0, hi, hz0, hz1, hz2⟩ := info_parts infoE
  have HO0 := Lib.hid (Ow.made w)
  have HB0 : Hid (Below w.heap.size w (w.alloc (.cells #[] 2))) := Lib.hid ((Below.refl _ _).alloc (Nat.le_refl _) _)
  clear hr
  go_enter Try.func106, Try.ntmps106
  go_wp2
  go_loopw [3, 4, 5, 6] (fun q s _ _ wr => ∃ k : Nat, ∃ X : List Int, k ≤ zs.length ∧ s = .int .i64 k ∧ Ow wr w.heap.size wr.heap.size q X ∧ Below w.heap.size w wr ∧ X.length = k ∧ X.Pairwise (· ≤ ·) ∧ X.Perm (zs.take k)) (fun _ s _ _ _ => zs.length - (intOf s).toNat)
  case atStart => exact ⟨0, [], Nat.zero_le _, rfl, HO0.out, HB0.out, rfl, by simp, by simp⟩
  case round =>
    obtain ⟨k, X, hk, rfl, hor, hbr, hxl, hxs, hxp⟩ := hrel
    have HXS := Lib.hid hxs
    have HXP := Lib.hid hxp
    clear hxs hxp
    obtain ⟨gq, cq, hq⟩ := hor.shape
    rw [hxl] at hq
    subst hq
    by_cases hlt : k < zs.length
    rotate_left
    · obtain rfl : k = zs.length := by omega
      have HE := Lib.hid (srt_unique (ys := zs) HXS.out (by have := HXP.out; rwa [List.take_length] at this))
      have HOR := Lib.hid hor
      have HBR := Lib.hid hbr
      clear hor hbr hxl
      go_wp2
      go_ret
      exact ⟨_, rfl, by rw [← HE.out]; exact HOR.out, HBR.out⟩
    obtain ⟨b, o, rfl, hb, hcell⟩ := HR.out (by intro h0; rw [h0] at hlt; simp at hlt)
    have HC : Hid (∀ W, Below w.heap.size w W → W.cell? ⟨b, o + k, none⟩ = some (.int .i64 (zs.getD k 0))) := Lib.hid (fun W hW => (hW.cell (p := ⟨b, o + k, none⟩) hb).trans (hcell k hlt))
    obtain ⟨y, hy⟩ : ∃ y, y = zs.getD k 0 := ⟨_, rfl⟩
    rw [← hy] at HC
    have hyf : -9223372036854775808 ≤ y ∧ y ≤ 9223372036854775807 := by rw [hy]; exact HF.out.at k
    have HYF := Lib.hid hyf
    have HTK : Hid (zs.take (k + 1) = zs.take k ++ [y]) := Lib.hid (by rw [List.take_succ_eq_append_getElem hlt, hy, List.getD_eq_getElem?_getD, List.getElem?_eq_getElem hlt]; rfl)
    have HXL := Lib.hid hxl
    have HOR := Lib.hid hor
    have HBR := Lib.hid hbr
    have n0 : (0 : Int) ≤ (k : Int) := by omega
    have n1 : (k : Int) < (zs.length : Int) := by omega
    clear hcell hy hyf hor hbr hxl
    go_wp2
    -- where the number goes
    obtain ⟨wo, hwo⟩ : ∃ wo : World, wo = wr := ⟨_, rfl⟩
    subst hwo
    go_loopw [5] (fun s wr => ∃ p : Nat, p ≤ k ∧ s = .int .i64 p ∧ Ow wr w.heap.size wr.heap.size (.slice gq k cq) X ∧ Below w.heap.size w wr ∧ ∀ j, p ≤ j → j < k → y < X.getD j 0) (fun s _ => (intOf s).toNat)
    case atStart => exact ⟨k, Nat.le_refl _, rfl, HOR.out, HBR.out, fun j h1 h2 => by omega⟩
    case round =>
      obtain ⟨p, hp, rfl, hoi, hbi, hgt⟩ := hrel
      have HGT := Lib.hid hgt
      have HOI := Lib.hid hoi
      have HBI := Lib.hid hbi
      clear hgt hbi
      have hcy := HC.out _ HBI.out
      by_cases h0 : 0 < p ∧ y < X.getD (p - 1) 0
      · obtain ⟨hp0, hpy⟩ := h0
        obtain ⟨p', hpp⟩ : ∃ p', p = p' + 1 := ⟨p - 1, by omega⟩
        have hp1 : p - 1 = p' := by omega
        rw [hp1] at hpy
        have hpl : p' < X.length := by have := HXL.out; omega
        rcases HOI.out.form with ⟨hn, _⟩ | ⟨g, gc', hv', _, _, _, _, hrow⟩
        · obtain ⟨_, h, _⟩ := Value.slice.inj hn
          omega
        simp only [Value.slice.injEq] at hv'
        obtain ⟨rfl, hkl, rfl⟩ := hv'
        have hcx : wr.cell? ⟨g, p', none⟩ = some (.int .i64 (X.getD p' 0)) := by rw [hrow.cellAt p' (by omega)]; simp [List.getD_eq_getElem?_getD, hpl]
        obtain ⟨x, hx⟩ : ∃ x, x = X.getD p' 0 := ⟨_, rfl⟩
        rw [← hx] at hcx hpy
        have HN : Hid (∀ j, p' ≤ j → j < k → y < X.getD j 0) := Lib.hid (fun j h1 h2 => by
          by_cases e : j = p'
          · subst e; rw [← hx]; exact hpy
          · exact HGT.out j (by omega) h2)
        have j0 : (0 : Int) ≤ (p' : Int) := by omega
        have j1 : (p' : Int) < (k : Int) := by omega
        have e1 : IntKind.i64.wrap ((p : Int) - 1) = (p' : Int) := by rw [IntKind.wrap_i64]; omega
        have e2 : ((p : Int) - 1) = (p' : Int) := by omega
        have d0 : decide (0 < p) = true := decide_eq_true hp0
        have d0' : decide ((0 : Int) < (p : Int)) = true := decide_eq_true (by omega)
        have d1 : decide (y < x) = true := decide_eq_true hpy
        have HP := Lib.hid hpp
        clear hrow hx hpp hp1 hkl hoi hp0 hpy
        go_wp2
        go_quiet (fail)
        go_wp2
        have HB2 := Lib.hid (below_drewN HBI.out nq)
        have HO2 := Lib.hid (HOI.out.below (below_drewN (Below.refl _ _) nq) (Nat.le_refl _))
        exact ⟨⟨p', by omega, rfl, HO2.out.up, HB2.out, HN.out⟩, by have := HP.out; simp [intOf]; omega⟩
      · have HEND : Hid (p = 0 ∨ X.getD (p - 1) 0 ≤ y) := Lib.hid (by omega)
        have hkl := HXL.out
        have hend : (decide (0 < p) = false ∧ decide ((0 : Int) < (p : Int)) = false) ∨ (∃ g p' x, gq = some ⟨g, 0, none⟩ ∧ decide (0 < p) = true ∧ decide ((0 : Int) < (p : Int)) = true ∧ wr.cell? ⟨g, p', none⟩ = some (.int .i64 x) ∧ (0 : Int) ≤ (p' : Int) ∧ (p' : Int) < (k : Int) ∧
            IntKind.i64.wrap ((p : Int) - 1) = (p' : Int) ∧ decide (y < x) = false) := by
          by_cases hp0 : 0 < p
          · right
            have hpl : p - 1 < X.length := by omega
            rcases HOI.out.form with ⟨hn, _⟩ | ⟨g, gc', hv', _, _, _, _, hrow⟩
            · obtain ⟨_, h, _⟩ := Value.slice.inj hn
              omega
            simp only [Value.slice.injEq] at hv'
            obtain ⟨rfl, _, rfl⟩ := hv'
            exact ⟨g, p - 1, X.getD (p - 1) 0, rfl, decide_eq_true hp0, decide_eq_true (by omega), by rw [hrow.cellAt (p - 1) (by omega)]; simp [List.getD_eq_getElem?_getD, hpl], by omega, by omega, by rw [IntKind.wrap_i64]; omega, decide_eq_false (fun h => h0 ⟨hp0, h⟩)⟩
          · exact .inl ⟨decide_eq_false (by omega), decide_eq_false (by omega)⟩
        have hzl : X.length < 16777216 := by omega
        have HZL := Lib.hid hzl
        clear h0 hoi hkl hzl
        rcases hend with ⟨d0, d0'⟩ | ⟨g, p', x, rfl, d0, d0', hcx, j0, j1, e1, d1⟩
        all_goals
          go_wp2
          go_quiet (fail)
          have HB2 := Lib.hid (below_drewN HBI.out nq)
          have HO2 := Lib.hid (HOI.out.below (below_drewN (Below.refl _ _) nq) (Nat.le_refl _)).up
          obtain ⟨wq, hwq⟩ : ∃ W, W = wr.drewN nq := ⟨_, rfl⟩
          rw [← hwq] at HB2 HO2 ⊢
          clear hcy hwq
          have hown := HO2.out.row
          have hbs := HO2.out.base
          have hsz := HB2.out.size
          go_wp2_with (at_builtin; refine wpList_append_own _ rfl _ _ 59 rfl w.heap.size 2 i0 (.int .i64 0) 1 8 Try.underlying59 hi hz0 hz1 hz2 rfl (by decide) _ _ _ rfl (hown.alloc _) ⟨_, 0, none⟩ 1 1 [.int .i64 0] rfl rfl (cellNew _ _ _) (oneCell _) (by have := HZL.out; unfold maxLen; omega) (by have := HZL.out; omega) (by simp; omega) ?_; intro v5 w5 hown6 hgrow6 hnil6; clear hnil6; obtain ⟨g5, c5, hv5⟩ := ownsRow_shape hown6; obtain ⟨K1, hK0⟩ : ∃ n, n = X.length + 1 := ⟨_, rfl⟩; rw [← hK0] at hv5; subst hv5; have HPD := Lib.hid (srt_len hK0 HXL.out HZL.out); have e5 := HPD.out.2.1; have hkb := HPD.out.2.2; have HK1 := Lib.hid HPD.out.1; clear hK0 HPD)
          obtain ⟨hs1, hs2⟩ := HO2.out.snoc (x := (0 : Int)) (by omega) HZL.out hown6 hgrow6
          have HO5 := Lib.hid hs1
          have HB5 := Lib.hid (HB2.out.trans hs2)
          clear hown6 hgrow6 hown hbs hsz hs1 hs2
          obtain ⟨wo, hwo⟩ : ∃ wo : World, wo = w5 := ⟨_, rfl⟩
          subst hwo
          go_loopw [6] (fun s wr => ∃ j : Nat, ∃ c : Int, p ≤ j ∧ j ≤ k ∧ s = .int .i64 j ∧ Ow wr w.heap.size wr.heap.size (.slice g5 K1 c5) (X.take j ++ c :: X.drop j) ∧ Below w.heap.size w wr) (fun s _ => (intOf s).toNat)
          case atStart => exact ⟨k, 0, hp, Nat.le_refl _, rfl, by have := HO5.out; rwa [List.take_of_length_le (by have := HXL.out; omega), List.drop_eq_nil_of_le (by have := HXL.out; omega)], HB5.out⟩
          case round =>
            obtain ⟨j, cj, hpj, hjk, rfl, hoj, hbj⟩ := hrel
            have hjl : j ≤ X.length := by have := HXL.out; omega
            have hlj := shift_len X cj j hjl
            have hkk := HK1.out
            rcases hoj.form with ⟨hn, _⟩ | ⟨g6, gc', hv', _, _, _, _, _⟩
            · obtain ⟨_, h, _⟩ := Value.slice.inj hn
              omega
            simp only [Value.slice.injEq] at hv'
            obtain ⟨rfl, _, rfl⟩ := hv'
            have HBJ := Lib.hid hbj
            by_cases hlt2 : p < j
            · obtain ⟨j', hjj⟩ : ∃ j', j = j' + 1 := ⟨j - 1, by omega⟩
              have hjl' : j' < X.length := by omega
              have hxf := hoj.fit.at j'
              obtain ⟨s1, s2, s3, s4⟩ := ow_store hoj (k := j) (by omega) (x := X.getD j' 0) (by rw [hjj, shift_get X cj j' hjl'] at hxf; exact hxf)
              have hcx : wr.cell? ⟨g6, j', none⟩ = some (.int .i64 (X.getD j' 0)) := by
                have h := (ow_store hoj (k := j') (by omega) (x := 0) (by omega)).1
                rw [hjj, shift_get X cj j' hjl'] at h; exact h
              have HST : Hid ((X.take j ++ cj :: X.drop j).set j (X.getD j' 0) = X.take j' ++ X.getD j' 0 :: X.drop j') := Lib.hid (by rw [hjj]; exact shift_step X cj j' hjl')
              obtain ⟨x', hx'⟩ : ∃ x', x' = X.getD j' 0 := ⟨_, rfl⟩
              rw [← hx'] at s3 s4 hcx HST
              have HS3 := Lib.hid s3.up
              have HS4 := Lib.hid (HBJ.out.trans s4)
              have j2 : (0 : Int) ≤ (j' : Int) := by omega
              have j3 : (j' : Int) < (K1 : Int) := by omega
              have j4 : (0 : Int) ≤ (j : Int) := by omega
              have j5 : (j : Int) < (K1 : Int) := by omega
              have e8 : IntKind.i64.wrap ((j : Int) - 1) = (j' : Int) := by rw [IntKind.wrap_i64]; omega
              have d5 : decide (p < j) = true := decide_eq_true hlt2
              have d5' : decide ((p : Int) < (j : Int)) = true := decide_eq_true (by omega)
              have HJ := Lib.hid hjj
              clear hoj hbj hlj hxf s3 s4 hx' hjj hkk
              go_wp2
              go_roundw
              case rel => exact ⟨j', x', by have := HJ.out; omega, by have := HJ.out; omega, rfl, by rw [← HST.out]; exact HS3.out, HS4.out⟩
              case measure => have := HJ.out; simp [intOf]; omega
            · obtain rfl : j = p := by omega
              obtain ⟨s1, s2, s3, s4⟩ := ow_store hoj (k := j) (by omega) (x := y) HYF.out
              rw [shift_put X cj y j hjl] at s3
              have HS3 := Lib.hid s3.up
              have HS4 := Lib.hid (HBJ.out.trans s4)
              have hcy := HC.out _ HBJ.out
              have HQ1 : Hid ((X.take j ++ y :: X.drop j).length = k + 1) := Lib.hid (by rw [shift_len X y j hjl, HXL.out])
              have HQ2 := Lib.hid (insert_sorted hjl HXS.out (fun i h1 h2 => HGT.out i h1 (by have := HXL.out; omega)) HEND.out)
              have HQ3 : Hid ((X.take j ++ y :: X.drop j).Perm (zs.take (k + 1))) := Lib.hid (by rw [HTK.out]; exact (insert_perm X y j).trans (HXP.out.append_right [y]))
              have j4 : (0 : Int) ≤ (j : Int) := by omega
              have j5 : (j : Int) < (K1 : Int) := by omega
              have d5 : decide (j < j) = false := decide_eq_false hlt2
              clear hoj hbj hlj s3 s4 hkk
              go_wp2
              go_roundw
              case rel => exact ⟨k + 1, _, by omega, by go_num, HS3.out, HS4.out, HQ1.out, HQ2.out, HQ3.out⟩
              case measure => simp [intOf]; omega
theorem specSortList (v : Value) (zs : List Int) (w : World) (hv : Rd w v zs) :
    Calls Try.prog 49 #[v] w fun e w' => ∃ u, e = .returned u ∧ Ow w' w.heap.size w'.heap.size u (srt zs) ∧ Below w.heap.size w w' := by
  have HV := Lib.hid hv
  obtain ⟨_, _, a, c, rfl, _, _⟩ := hv
  go_enter Try.func49, Try.ntmps49
  go_wp2_with fail
  refine (specSorted _ zs _ HV.out).mono ?_
  rintro e w1 ⟨u, rfl, ho, hb⟩
  have HO := Lib.hid ho
  have HB := Lib.hid hb
  clear ho hb
  go_wp2
  go_ret
  exact ⟨_, rfl, HO.out, HB.out⟩
/-- The sorted list under a name of its own: the walk knows nothing of its length. -/
def sortL (zs : List Int) : List Int := srt zs
theorem specSortL (v : Value) (zs : List Int) (w : World) (hv : Rd w v zs) :
    Calls Try.prog 49 #[v] w fun e w' => ∃ u, e = .returned u ∧ Ow w' w.heap.size w'.heap.size u (sortL zs) ∧ Below w.heap.size w w' := specSortList v zs w hv
end Go.Proofs.Ytepdjlhlcjkdkaa.Ints
