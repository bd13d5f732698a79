/- Tag systems: the values; halting and a step of the model's; slices.Contains. (gen_tgs.py) -/
import Derived.Test.YtkjoakdepjpkhaaDoorTgV
import Derived.Deep.RegionHeld3
import Derived.Deep.DeepCutAuto
namespace Go.Proofs.YtkjoakdepjpkhaaDoor.Ints
open Go.RowKit
set_option linter.unusedVariables false
set_option linter.unusedSimpArgs false
def hlT (d : Int) (hs xs : List Int) : Prop := (xs.length : Int) < d ∨ xs.getD 0 0 ∈ hs
def apT (zss : List (List Int)) (xs : List Int) : List Int := xs ++ zss.getD (xs.getD 0 0).toNat []
def nxT (d : Int) (zss : List (List Int)) (xs : List Int) : List Int := (apT zss xs).drop d.toNat
theorem tagB_ok {d : Int} {zss : List (List Int)} {hs : List Int} (h : tagB d zss hs = true) : (1 ≤ d ∧ d ≤ 4) ∧ (1 ≤ zss.length ∧ zss.length ≤ 200) ∧ ∀ i, i < zss.length → (zss.getD i []).length ≤ 1000 ∧ Dig zss.length (zss.getD i []) := by
  unfold tagB at h
  simp only [Bool.and_eq_true, decide_eq_true_eq] at h
  obtain ⟨h1, h2, _, h4⟩ := h
  exact ⟨h1, by omega, fun i hi => overB_ok (allQ_at h4 hi)⟩
theorem dig_head {n : Int} {xs : List Int} (h : Dig n xs) (hl : 0 < xs.length) : 0 ≤ xs.getD 0 0 ∧ xs.getD 0 0 < n := h 0 hl
theorem nx_ok {d : Int} {zss : List (List Int)} {hs xs : List Int} (h : tagB d zss hs = true) (hx : overB zss.length xs = true) (h0 : 0 < xs.length) (hf : (apT zss xs).length ≤ 1000) : overB zss.length (nxT d zss xs) = true := by
  obtain ⟨_, hd⟩ := overB_ok hx
  obtain ⟨_, _, hw⟩ := tagB_ok h
  have h1 := dig_head hd h0
  have hm : (xs.getD 0 0).toNat < zss.length := by omega
  obtain ⟨_, hdm⟩ := hw _ hm
  refine overB_true (by unfold nxT; rw [List.length_drop]; omega) (fun i hi => ?_)
  unfold nxT at hi ⊢
  rw [List.length_drop] at hi
  have e : ((apT zss xs).drop d.toNat).getD i 0 = (apT zss xs).getD (d.toNat + i) 0 := by
    rw [List.getD_eq_getElem?_getD, List.getElem?_drop, ← List.getD_eq_getElem?_getD]
  rw [e]
  unfold apT at hi ⊢
  rw [List.length_append] at hi
  by_cases hlt : d.toNat + i < xs.length
  · rw [List.getD_eq_getElem?_getD, List.getElem?_append_left hlt, ← List.getD_eq_getElem?_getD]
    exact hd _ hlt
  · rw [List.getD_eq_getElem?_getD, List.getElem?_append_right (by omega), ← List.getD_eq_getElem?_getD]
    exact hdm _ (by omega)
theorem specHasT (v : Value) (zs : List Int) (x : Int) (w : World) (h : Rd w v zs) :
    Calls Tryd.prog 100 #[v, .int .i64 x] w fun e w' => e = .returned (.bool (decide (x ∈ zs))) ∧ w = w' := by
  obtain ⟨hl, hf, a, c, rfl, hcap, hr⟩ := h
  go_enter Tryd.func100, Tryd.ntmps100
  go_wp2
  go_loop [5] (fun s => ∃ k : Nat, k ≤ zs.length ∧ s = .int .i64 k ∧ ∀ i, i < k → zs.getD i 0 ≠ x) (fun s => zs.length - (intOf s).toNat)
  case atStart => exact ⟨0, Nat.zero_le _, rfl, fun i hi => by omega⟩
  case round =>
    obtain ⟨k, hk, rfl, hall⟩ := hrel
    have HA := Lib.hid hall
    clear hall
    by_cases hlt : k < zs.length
    · obtain ⟨b, o, rfl, hb, hcell⟩ := hr (by intro h0; rw [h0] at hlt; simp at hlt)
      have hc := hcell k hlt
      obtain ⟨y, hy⟩ : ∃ y, y = zs.getD k 0 := ⟨_, rfl⟩
      rw [← hy] at hc
      have HY := Lib.hid hy
      clear hcell hr hy
      by_cases hg : y = x
      · have hq : ((y : Int) == x) = true := by simp [hg]
        have HF : Hid (decide (x ∈ zs) = true) := Lib.hid (decide_eq_true (by rw [← hg, HY.out, List.getD_eq_getElem?_getD, List.getElem?_eq_getElem hlt]; exact List.getElem_mem hlt))
        clear hg
        go_wp2
        go_ret
        exact ⟨by rw [HF.out] <;> rfl, rfl⟩
      · have hq : ((y : Int) == x) = false := by simp [hg]
        have HN : Hid (∀ i, i < k + 1 → zs.getD i 0 ≠ x) := Lib.hid (fun i hi => by
          by_cases he : i = k
          · subst he; rw [← HY.out]; exact hg
          · exact HA.out i (by omega))
        clear hg
        go_wp2
        go_round
        case rel => exact ⟨k + 1, by omega, by go_num, HN.out⟩
        case measure => simp [intOf]; omega
    · have HF : Hid (decide (x ∈ zs) = false) := Lib.hid (decide_eq_false (fun hm => by
        obtain ⟨i, hi, e⟩ := List.getElem_of_mem hm
        have := HA.out i (by omega)
        rw [List.getD_eq_getElem?_getD, List.getElem?_eq_getElem hi] at this
        exact this e))
      go_wp2
      go_ret
      exact ⟨by rw [HF.out] <;> rfl, rfl⟩
theorem specHasTQ (v : Value) (zs : List Int) (x : Int) (w : World) (h : Rd w v zs) (b : Bool) (hb : b = true ↔ x ∈ zs) :
    Calls Tryd.prog 100 #[v, .int .i64 x] w fun e w' => e = .returned (.bool b) ∧ w' = w := (specHasT v zs x w h).mono fun _ _ h => ⟨by rw [h.1]; congr 2; rw [Bool.eq_iff_iff, hb]; simp, h.2.symm⟩
theorem Rd.cutT {w : World} {a : Option Addr} {n c : Nat} {zs : List Int} (h : Rd w (.slice a n c) zs) (l m : Nat) (hl : l ≤ m) (hm : m ≤ zs.length) :
    Rd w (.slice (if c = l then a else a.map (·.add l)) (m - l) (c - l)) ((zs.take m).drop l) := by
  obtain ⟨hlen, hf, a', c', hv, hcap, hr⟩ := h
  simp only [Value.slice.injEq] at hv
  obtain ⟨rfl, rfl, rfl⟩ := hv
  have e : ((zs.take m).drop l).length = m - l := by simp; omega
  refine ⟨by rw [e]; omega, fun z hz => hf z (List.mem_of_mem_take (List.mem_of_mem_drop hz)), _, _, by rw [e], by rw [e]; omega, fun hne => ?_⟩
  have hlt : l < m := by
    rcases Nat.lt_or_ge l m with h | h
    · exact h
    · exact absurd (List.eq_nil_of_length_eq_zero (by rw [e]; omega)) hne
  obtain ⟨b, o, rfl, hb, hc⟩ := hr (by intro h0; subst h0; simp at hm; omega)
  have hcl : ¬ c = l := by omega
  rw [if_neg hcl]
  refine ⟨b, o + l, by simp [Addr.add_lit], hb, fun i hi => ?_⟩
  rw [e] at hi
  rw [Nat.add_assoc, hc (l + i) (by omega)]
  congr 2
  simp only [List.getD_eq_getElem?_getD, List.getElem?_drop, List.getElem?_take]
  rw [if_pos (by omega)]
theorem step_append_rdT {w : World} {ops : Array Oper} {o : Oper} {a : Act} {K : Act → World → Prop} {Q : Exit → Act → World → Prop} {E : Prop} (hgd : o.guard = none) (s x : Operand)
    (ho : o.op = .call { callee := .builtin .append, args := #[s, x], argTypes := #[23, 23] })
    (base : Nat) (v u : Value) (xs ys : List Int) (hs : a.eval s = v) (hown : w.ownsRow base 2 1 v xs.length (xs.map (Value.int .i64))) (hx : a.eval x = u) (hu : Rd w u ys)
    (hn : xs.length + ys.length ≤ 33554432) (hbase : base ≤ w.heap.size)
    (h : ∀ v' w', w'.ownsRow base 2 1 v' (xs.length + ys.length) ((xs ++ ys).map (Value.int .i64)) → w.grownBy w' v.ownBlock → K (a.put o.dst v') w') :
    if Region.wanted o (yielded ops a.tmps) = true then Oper.wp Tryd.prog o a w K Q else E := by
  have hw : Region.wanted o (yielded ops a.tmps) = true := by simp [Region.wanted, hgd]
  rw [if_pos hw]
  obtain ⟨i0, hi, hz0, hz1, hz2⟩ := info_parts infoE
  obtain ⟨hl, hf, ad, c, rfl, hcap, hr⟩ := hu
  cases ad with
  | some ad =>
    have hc : ∀ j y, (ys.map (Value.int .i64))[j]? = some y → w.cell? (ad.add j) = some y := fun j y hy => by
      simp only [List.getElem?_map, Option.map_eq_some_iff] at hy
      obtain ⟨z, hz, rfl⟩ := hy
      have hj : j < ys.length := (List.getElem?_eq_some_iff.1 hz).1
      obtain ⟨b, o, ha, hb, hcell⟩ := hr (by intro h0; rw [h0] at hj; simp at hj)
      cases ha
      rw [Addr.add_lit, hcell j hj, List.getD_eq_getElem?_getD, hz]; rfl
    exact wp_append_own w s x 23 ho base 2 i0 (.int .i64 0) 1 8 Tryd.underlying23 hi hz0 hz1 hz2 rfl (by decide) v xs.length (xs.map (Value.int .i64)) hs hown ad ys.length c (ys.map (Value.int .i64)) hx (by simp) hc (ints_oneCell .i64 ys)
      (by unfold maxLen; omega) (by omega) hbase (fun v' w' h1 h2 _ => h v' w' (by simpa using h1) h2)
  | none =>
    obtain rfl : ys = [] := by
      cases ys with
      | nil => rfl
      | cons z zs => obtain ⟨b, o, h, _⟩ := hr (by simp); cases h
    have hfin := h v w (by simpa using hown) (grown_refl _ _)
    have hv : ∃ ao n cp, v = .slice ao n cp ∧ n ≤ cp := by
      rcases hown.2 with ⟨rfl, _⟩ | ⟨g, cp, cur, rfl, _, _, hnc, _⟩
      · exact ⟨none, 0, 0, rfl, Nat.le_refl _⟩
      · exact ⟨_, _, _, rfl, hnc⟩
    obtain ⟨ao, n, cp, rfl, hle⟩ := hv
    have hrun := run_append_nothing w 23 23 o.type 2 i0 Tryd.underlying23 hi ao n cp hle (.slice none 0 c) (Src.ofNil w Tryd.underlying23 c)
    unfold Oper.wp
    simp [execOp, ho, resolve, invoke, builtin, hs, hx, hrun, Result.andThen]
    exact hfin
set_option maxHeartbeats 1000000 in
theorem libIndexT (v : Value) (zs : List Int) (x : Int) (w : World) (h : Rd w v zs) :
    Calls Tryd.prog 191 #[v, .int .i64 x] w fun e w' => ∃ r : Int, e = .returned (.int .i64 r) ∧ (0 ≤ r ↔ x ∈ zs) ∧ w = w' := by
  obtain ⟨hl, hf, a, c, rfl, hcap, hr⟩ := h
  go_enter Tryd.func191, Tryd.ntmps191
  go_wp2
  go_loop [8] (fun s => ∃ k : Nat, k ≤ zs.length ∧ s = .int .i64 k ∧ ∀ i, i < k → zs.getD i 0 ≠ x) (fun s => zs.length - (intOf s).toNat)
  case atStart => exact ⟨0, Nat.zero_le _, rfl, fun i hi => by omega⟩
  case round =>
    obtain ⟨k, hk, rfl, hall⟩ := hrel
    have HA := Lib.hid hall
    clear hall
    by_cases hlt : k < zs.length
    · obtain ⟨b, o, rfl, hb, hcell⟩ := hr (by intro h0; rw [h0] at hlt; simp at hlt)
      have hc := hcell k hlt
      obtain ⟨y, hy⟩ : ∃ y, y = zs.getD k 0 := ⟨_, rfl⟩
      rw [← hy] at hc
      have HY := Lib.hid hy
      have i0 : (0 : Int) ≤ (k : Int) := by omega
      have i1 : (k : Int) < (zs.length : Int) := by omega
      clear hcell hr hy
      by_cases hg : x = y
      · have hq : ((x : Int) == y) = true := by simp [hg]
        have HF : Hid (decide (x ∈ zs) = true) := Lib.hid (decide_eq_true (by rw [hg, HY.out, List.getD_eq_getElem?_getD, List.getElem?_eq_getElem hlt]; exact List.getElem_mem hlt))
        clear hg
        go_wp2
        go_ret
        exact ⟨_, rfl, ⟨fun _ => of_decide_eq_true HF.out, fun _ => by omega⟩, rfl⟩
      · have hq : ((x : Int) == y) = false := by simp [hg]
        have HN : Hid (∀ i, i < k + 1 → zs.getD i 0 ≠ x) := Lib.hid (fun i hi => by
          by_cases he : i = k
          · subst he; rw [← HY.out]; exact fun e => hg e.symm
          · exact HA.out i (by omega))
        clear hg
        go_wp2
        go_round
        case rel => exact ⟨k + 1, by omega, by go_num, HN.out⟩
        case measure => simp [intOf]; omega
    · have HF : Hid (decide (x ∈ zs) = false) := Lib.hid (decide_eq_false (fun hm => by
        obtain ⟨i, hi, e⟩ := List.getElem_of_mem hm
        have := HA.out i (by omega)
        rw [List.getD_eq_getElem?_getD, List.getElem?_eq_getElem hi] at this
        exact this e))
      obtain rfl : k = zs.length := by omega
      go_wp2
      go_ret
      exact ⟨-1, rfl, ⟨fun h => absurd h (by omega), fun h => absurd h (of_decide_eq_false HF.out)⟩, rfl⟩
theorem libContainsT (v : Value) (zs : List Int) (x : Int) (w : World) (h : Rd w v zs) (b : Bool) (hb : b = true ↔ x ∈ zs) :
    Calls Tryd.prog 187 #[v, .int .i64 x] w fun e w' => e = .returned (.bool b) ∧ w = w' := by
  have H := Lib.hid h
  have HB : Hid (b = decide (x ∈ zs)) := Lib.hid (by rw [Bool.eq_iff_iff, hb]; simp)
  clear h hb
  go_enter Tryd.func187, Tryd.ntmps187
  go_wp2_with fail
  refine (libIndexT _ zs x _ H.out).mono ?_
  rintro e w1 ⟨r, rfl, hr, rfl⟩
  have HR := Lib.hid hr
  clear hr
  go_wp2
  go_ret
  refine ⟨?_, rfl⟩
  rw [HB.out]
  show Ending.returned (Value.bool (decide (0 ≤ r))) = _
  rw [decide_eq_decide.2 HR.out]
set_option maxHeartbeats 2000000 in
theorem specHaltsT (gx : Nat) (d : Int) (vz u x : Value) (hs xs : List Int) (w : World) (hu : Rd w u hs) (hxs : Rd w x xs) (hx : Cels w gx 29 [.int .i64 d, vz, u]) (h1 : 1 ≤ d) (b : Bool) (hb : b = true ↔ hlT d hs xs) :
    Calls Tryd.prog 66 #[.pointer (some ⟨gx, 0, none⟩), x] w fun e w' => e = .returned (.bool b) ∧ Below w.heap.size w w' := by
  have HU := Lib.hid hu
  have HBB := Lib.hid hb
  obtain ⟨_, _, a2, c2, rfl, _, _⟩ := hu
  obtain ⟨_, _, a, c, rfl, hcap, hr⟩ := hxs
  have x0 := hx.cell 0 rfl
  have x2 := hx.cell 2 rfl
  have HH1 := Lib.hid h1
  clear hx hb h1
  by_cases hd : (xs.length : Int) < d
  · have HE : Hid (b = true) := Lib.hid (HBB.out.2 (.inl hd))
    have hd' : decide ((xs.length : Int) < d) = true := decide_eq_true hd
    clear hr
    go_enter Tryd.func66, Tryd.ntmps66
    go_wp2
    go_quiet (fail)
    go_wp2
    go_ret
    exact ⟨by rw [HE.out] <;> rfl, below_drewN (Below.refl _ _) _⟩
  · obtain ⟨bb, o, rfl, hbk, hcell⟩ := hr (by intro h0; have := HH1.out; rw [h0] at hd; simp at hd; omega)
    have hp : 0 < xs.length := by have := HH1.out; omega
    have hc := hcell 0 hp
    obtain ⟨y, hy⟩ : ∃ y, y = xs.getD 0 0 := ⟨_, rfl⟩
    rw [← hy, Nat.add_zero] at hc
    have HM : Hid (b = true ↔ y ∈ hs) := Lib.hid (by rw [HBB.out, hy]; exact ⟨fun h => h.resolve_left hd, .inr⟩)
    have hd' : decide ((xs.length : Int) < d) = false := decide_eq_false hd
    have i1 : (0 : Int) < (xs.length : Int) := by omega
    clear hcell hy hd
    go_enter Tryd.func66, Tryd.ntmps66
    go_wp2
    go_quiet ((go_at_call 100; exact Calls.quiet_of_same (specHasTQ _ hs y _ (HU.out.below (below_drewN (Below.refl _ _) _) (Nat.le_refl _)) b HM.out)))
    go_wp2
    go_ret
    exact ⟨rfl, below_drewN (Below.refl _ _) _⟩
set_option maxRecDepth 100000 in
set_option maxHeartbeats 4000000 in
theorem specStepT (gx : Nat) (d : Nat) (vz u x : Value) (zss : List (List Int)) (xs : List Int) (m : Nat) (w : World) (hz : RdL w vz zss) (hxs : Rd w x xs) (hx : Cels w gx 29 [.int .i64 (d : Int), vz, u]) (hm : xs.getD 0 0 = (m : Int)) (hml : m < zss.length) (h0 : 0 < xs.length) (hd : d ≤ xs.length) (h1 : xs.length ≤ 1000) (h2 : (zss.getD m []).length ≤ 1000) :
    Calls Tryd.prog 67 #[.pointer (some ⟨gx, 0, none⟩), x] w fun e w' => ∃ r, e = .returned (.tuple #[r, .bool (decide ((apT zss xs).length ≤ 1000))]) ∧ Ow w' w.heap.size w'.heap.size r (nxT d zss xs) ∧ Below w.heap.size w w' := by
  have HXS := Lib.hid hxs
  obtain ⟨_, az, cz, rfl, _, hrz⟩ := hz
  obtain ⟨bz, oz, rfl, hbz, hcz⟩ := hrz (by intro h; rw [h] at hml; simp at hml)
  obtain ⟨yv, hcy, hyr⟩ := hcz m hml
  obtain ⟨ys, hys⟩ : ∃ ys, ys = zss.getD m [] := ⟨_, rfl⟩
  rw [← hys] at hyr h2
  have HYR := Lib.hid hyr
  obtain ⟨_, _, ay, cy, rfl, _, _⟩ := hyr
  obtain ⟨_, _, a, c, rfl, hcap, hr⟩ := hxs
  obtain ⟨b, o, rfl, hb, hcell⟩ := hr (by intro h; rw [h] at h0; simp at h0)
  have hc0 := hcell 0 h0
  rw [hm, Nat.add_zero] at hc0
  have x0 := hx.cell 0 rfl
  have x1 := hx.cell 1 rfl
  have hg := World.block_lt_of_cell? w _ x1
  have hbz' := World.block_lt_of_cell? w _ hcy
  have HX := Lib.hid hx
  have HS : Hid (∀ W, Below w.heap.size w W → W.cell? ⟨gx, 1, none⟩ = some (.slice (some ⟨bz, oz, none⟩) zss.length cz) ∧ W.cell? ⟨b, o, none⟩ = some (.int .i64 (m : Int)) ∧ W.cell? ⟨bz, oz + m, none⟩ = some (.slice ay ys.length cy)) := Lib.hid (fun W h =>
    ⟨(h.cell (p := ⟨gx, 1, none⟩) hg).trans x1, (h.cell (p := ⟨b, o, none⟩) hb).trans hc0, (h.cell (p := ⟨bz, oz + m, none⟩) hbz').trans hcy⟩)
  have HEQ : Hid (apT zss xs = xs ++ ys) := Lib.hid (by rw [apT, hm, hys]; rfl)
  have HNX : Hid (nxT d zss xs = (xs ++ ys).drop d) := Lib.hid (by rw [nxT, HEQ.out]; rfl)
  have i0 : (0 : Int) ≤ (m : Int) := by omega
  have i1 : (m : Int) < (zss.length : Int) := by omega
  have i2 : (0 : Int) < (xs.length : Int) := by omega
  have HB := Lib.hid (And.intro h1 (And.intro h2 hd))
  clear hcz hcell hys hrz hr hx x0 x1 hc0 hcy hm
  go_enter Tryd.func67, Tryd.ntmps67
  go_upto_region 1 with fail
  have HD : Hid (Below w.heap.size w w.drew) := Lib.hid (Below.refl _ _).drew
  go_region_held3 (fun W => W.cell? ⟨gx, 1, none⟩ = some (.slice (some ⟨bz, oz, none⟩) zss.length cz) ∧ W.cell? ⟨b, o, none⟩ = some (.int .i64 (m : Int)) ∧ W.cell? ⟨bz, oz + m, none⟩ = some (.slice ay ys.length cy)) (exact HS.out _ HD.out)
    (first
      | (go_at_call 65; with_reducible refine (specOwn _ xs _ (HXS.out.below HD.out (Nat.le_refl _))).mono ?_; rintro e3 w3 ⟨r, rfl, ho, hb3⟩; have HSZ := Lib.hid HD.out.size; replace HD := Lib.hid (HD.out.trans (hb3.mono HD.out.size)); have HO := Lib.hid (ho.mono HSZ.out (Nat.le_refl _) (Nat.le_refl _)); clear ho hb3)
      | (refine step_append_rdT (by rfl) _ _ (by rfl) w.heap.size _ _ xs ys (by rfl) HO.out.row (by rfl) (HYR.out.below HD.out (Nat.le_refl _)) (by have := HB.out; omega) HD.out.size ?_; intro v' w4 hown4 hgrow4; have HXX := Lib.hid (HD.out.grown hgrow4 HD.out.size (fun k hk => (HO.out.row.lt k hk).1)); have HO4 := Lib.hid hown4; replace HD := HXX; clear hown4 hgrow4))
  have HO5 : Hid (Ow w4 w.heap.size w4.heap.size v' (xs ++ ys)) := Lib.hid ⟨by rw [List.length_append]; have := HB.out; omega, fun z hz => by
    rcases List.mem_append.1 hz with hz | hz
    · exact HO.out.fit z hz
    · exact HYR.out.fit z hz, by rw [List.length_append]; exact HO4.out, fun k hk => (HO4.out.lt k hk).2, Nat.le_refl _, HD.out.size⟩
  obtain ⟨Z, hZ⟩ : ∃ Z, Z = xs ++ ys := ⟨_, rfl⟩
  rw [← hZ] at HO5 HEQ HNX
  have hZl : d ≤ Z.length ∧ Z.length ≤ 2000 := by rw [hZ, List.length_append]; have := HB.out; omega
  obtain ⟨ga, gc, hv'⟩ := HO5.out.shape
  subst hv'
  have hcapz : Z.length ≤ gc := by
    obtain ⟨_, _, _, _, e1, e2, _⟩ := HO5.out.rd
    simp only [Value.slice.injEq] at e1
    obtain ⟨_, _, rfl⟩ := e1
    exact e2
  have hcut := HO5.out.rd.cutT d Z.length hZl.1 (Nat.le_refl _)
  rw [List.take_length] at hcut
  obtain ⟨Y, hY⟩ : ∃ Y, Y = Z.drop d := ⟨_, rfl⟩
  rw [← hY] at hcut HNX
  have x0 := (HX.out.below HD.out HX.out.lt).cell 0 rfl
  have j0 : (0 : Int) ≤ (d : Int) := by omega
  have j1 : (d : Int) ≤ (Z.length : Int) := by omega
  have j2 : (d : Int) ≤ (gc : Int) := by omega
  obtain ⟨bo, hbo⟩ : ∃ bo, bo = decide (Z.length ≤ 1000) := ⟨_, rfl⟩
  have HBO := Lib.hid hbo
  have hbo2 : decide ((Z.length : Int) ≤ 1000) = bo := by rw [hbo]; congr 1; simp; omega
  clear HO4 HXX hZ HS hY hbo hZl hcapz
  by_cases hgd : gc = d
  · rw [if_pos hgd, hgd, Nat.sub_self] at hcut
    have HCUT := Lib.hid hcut
    have hgd2 : (gc : Int) = (d : Int) := by omega
    clear hcut
    go_wp2_with fail
    refine (specOwn _ Y _ HCUT.out).mono ?_
    rintro e5 w5 ⟨r5, rfl, ho5, hb5⟩
    have HO6 := Lib.hid (ho5.mono (B' := w.heap.size) HD.out.size (Nat.le_refl _) (Nat.le_refl _))
    have HB6 := Lib.hid (HD.out.trans (hb5.mono HD.out.size))
    clear ho5 hb5 x0
    go_wp2
    go_ret2
    exact ⟨_, by rw [HEQ.out, ← HBO.out] <;> rfl, by rw [HNX.out]; exact HO6.out, HB6.out⟩
  · rw [if_neg hgd] at hcut
    have HCUT := Lib.hid hcut
    clear hcut
    go_wp2_with fail
    refine (specOwn _ Y _ HCUT.out).mono ?_
    rintro e5 w5 ⟨r5, rfl, ho5, hb5⟩
    have HO6 := Lib.hid (ho5.mono (B' := w.heap.size) HD.out.size (Nat.le_refl _) (Nat.le_refl _))
    have HB6 := Lib.hid (HD.out.trans (hb5.mono HD.out.size))
    clear ho5 hb5 x0
    go_wp2
    go_ret2
    exact ⟨_, by rw [HEQ.out, ← HBO.out] <;> rfl, by rw [HNX.out]; exact HO6.out, HB6.out⟩
end Go.Proofs.YtkjoakdepjpkhaaDoor.Ints
