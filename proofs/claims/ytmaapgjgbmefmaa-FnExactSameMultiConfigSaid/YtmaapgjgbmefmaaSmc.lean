/- Contracts of SameMultiConfig, of the model and of the program. -/
import Derived.Test.YtmaapgjgbmefmaaTps2
import Derived.Test.YtmaapgjgbmefmaaSame
import Derived.Deep.QuietTactic
import Derived.BigQuiet
namespace Go.Proofs.Ytmaapgjgbmefmaa.Ints
open Go.RowKit
set_option linter.unusedVariables false
set_option linter.unusedSimpArgs false
theorem IsList.below {w w' : World} {a : Option Addr} {len cap : Nat} {zs : List Int} (h : IsList w a len cap zs) (hb : Below w.heap.size w w') : IsList w' a len cap zs := by
  rcases h with h | ⟨x, h0, h1, h2, h3, h4, h5⟩
  · exact .inl h
  · exact .inr ⟨x, h0, h1, h2, h3, fun i hi => (hb.cell (World.block_lt_of_cell? w _ (h4 i hi))).trans (h4 i hi), h5⟩
theorem IsTapes.below {w w' : World} {a : Option Addr} {len cap : Nat} {zs : List Tin} (h : IsTapes w a len cap zs) (hb : Below w.heap.size w w') : IsTapes w' a len cap zs := by
  rcases h with h | ⟨x, h0, h1, h2, h3, h4⟩
  · exact .inl h
  · exact .inr ⟨x, h0, h1, h2, h3, fun i hi => by
      obtain ⟨q0, q1, q2⟩ := h4 i hi
      exact ⟨(hb.cell (World.block_lt_of_cell? w _ q0)).trans q0, (hb.cell (World.block_lt_of_cell? w _ q1)).trans q1, q2.1.below hb, q2.2.below hb⟩⟩
theorem Tp.ext' {a b : Tp} (h : a.l = b.l) (h' : a.r = b.r) : a = b := by cases a; cases b; simp_all
open Classical in
noncomputable def stB (ts ss : List Tp) : Bool := decide (ts = ss)
theorem st_len {ts ss : List Tp} (h : ts.length ≠ ss.length) : stB ts ss = false := by
  simp only [stB, decide_eq_false_iff_not]
  intro e; subst e; exact h rfl
theorem st_at {ts ss : List Tp} {k : Nat} (h : ¬ ((ts.getD k tp0).l = (ss.getD k tp0).l ∧ (ts.getD k tp0).r = (ss.getD k tp0).r)) : stB ts ss = false := by
  simp only [stB, decide_eq_false_iff_not]
  intro e; subst e; exact h ⟨rfl, rfl⟩
theorem st_all {ts ss : List Tp} (hl : ts.length = ss.length) (h : ∀ i, i < ts.length → (ts.getD i tp0).l = (ss.getD i tp0).l ∧ (ts.getD i tp0).r = (ss.getD i tp0).r) : stB ts ss = true := by
  simp only [stB, decide_eq_true_eq]
  apply List.ext_getElem hl
  intro i h1 h2
  have := h i h1
  have e1 : ts.getD i tp0 = ts[i] := by simp [List.getD_eq_getElem?_getD, List.getElem?_eq_getElem h1]
  have e2 : ss.getD i tp0 = ss[i] := by simp [List.getD_eq_getElem?_getD, List.getElem?_eq_getElem h2]
  rw [e1, e2] at this
  exact Tp.ext' this.1 this.2
noncomputable def smB (st : Int) (ts : List Tp) (st' : Int) (ss : List Tp) : Bool := decide (st = st') && stB ts ss
theorem specSameQ' (b : Bool) (u v : Value) (xs ys : List Int) (w : World) (hu : Rd w u xs) (hv : Rd w v ys) (h : decide (xs = ys) = b) :
    Calls Try.prog 131 #[u, v] w fun e w' => e = .returned (.bool b) ∧ ∃ m, w' = w.drewN m := by
  rw [← h]; exact specSameQ u v xs ys w hu hv
set_option maxHeartbeats 8000000 in
theorem specL06Same (g g' : Nat) (st : Int) (v : Value) (ts : List Tp) (st' : Int) (v' : Value) (ss : List Tp) (w : World) (hv : RdT w v ts) (hv' : RdT w v' ss)
    (a0 : w.cell? ⟨g, 0, none⟩ = some (.int .i64 st)) (a1 : w.cell? ⟨g, 1, none⟩ = some v) (b0 : w.cell? ⟨g', 0, none⟩ = some (.int .i64 st')) (b1 : w.cell? ⟨g', 1, none⟩ = some v') :
    Calls Try.prog 77 #[.pointer (some ⟨g, 0, none⟩), .pointer (some ⟨g', 0, none⟩)] w fun e w' => e = .returned (.bool (smB st ts st' ss)) ∧ ∃ m, w' = w.drewN m := by
  obtain ⟨hl, a, c, rfl, hcap, hr⟩ := hv
  obtain ⟨hl', a', c', rfl, hcap', hr'⟩ := hv'
  by_cases hs : st = st'
  rotate_left
  · have e1 : (st != st') = true := by simpa using hs
    have HF : Hid (smB st ts st' ss = false) := Lib.hid (by rw [smB, decide_eq_false hs]; rfl)
    clear hr hr' hs
    go_enter Try.func77, Try.ntmps77
    go_wp2
    go_quiet (fail)
    go_wp2
    go_ret
    exact ⟨by rw [HF.out] <;> rfl, _, rfl⟩
  have e1 : (st != st') = false := by simpa using hs
  have HS : Hid (smB st ts st' ss = stB ts ss) := Lib.hid (by rw [smB, decide_eq_true hs]; rfl)
  clear hs
  by_cases hle : ts.length = ss.length
  rotate_left
  · have e2 : ((ts.length : Int) != (ss.length : Int)) = true := by simp; omega
    have HF : Hid (smB st ts st' ss = false) := Lib.hid (by rw [HS.out, st_len hle])
    clear hr hr' hle
    go_enter Try.func77, Try.ntmps77
    go_wp2
    go_quiet (fail)
    go_wp2
    go_ret
    exact ⟨by rw [HF.out] <;> rfl, _, rfl⟩
  have e2 : ((ts.length : Int) != (ss.length : Int)) = false := by simp; omega
  have HL := Lib.hid hle
  have HA0 := Lib.hid a0
  have HA1 := Lib.hid a1
  have HB1 := Lib.hid b1
  clear hle
  go_enter Try.func77, Try.ntmps77
  go_wp2
  go_quiet (fail)
  go_wp2
  clear a0 a1 b0 b1 e1 e2
  go_loopw [5] (fun s wr => ∃ k : Nat, k ≤ ts.length ∧ s = .int .i64 k ∧ (∀ i, i < k → (ts.getD i tp0).l = (ss.getD i tp0).l ∧ (ts.getD i tp0).r = (ss.getD i tp0).r) ∧ ∃ m, wr = w.drewN m) (fun s _ => ts.length - (intOf s).toNat)
  case atStart => exact ⟨0, Nat.zero_le _, rfl, (fun i hi => by omega), _, rfl⟩
  case round =>
    obtain ⟨k, hk, rfl, hall, m, hwr⟩ := hrel
    have HA := Lib.hid hall
    have HWR := Lib.hid hwr
    have hcw : ∀ p : Addr, wr.cell? p = w.cell? p := fun p => by rw [hwr]; rfl
    have a1 : wr.cell? ⟨g, 1, none⟩ = some (.slice a ts.length c) := by rw [hcw]; exact HA1.out
    have b1 : wr.cell? ⟨g', 1, none⟩ = some (.slice a' ss.length c') := by rw [hcw]; exact HB1.out
    have HCW := Lib.hid hcw
    have HBW : Hid (Below w.heap.size w wr) := Lib.hid (by rw [hwr]; exact below_drewN (Below.refl _ _) _)
    clear hall hwr hcw
    by_cases hlt : k < ts.length
    · have hlt' : k < ss.length := by have := HL.out; omega
      obtain ⟨b, o, rfl, hb, hcell⟩ := hr (by intro h0; rw [h0] at hlt; simp at hlt)
      obtain ⟨b', o', rfl, hb', hcell'⟩ := hr' (by intro h0; rw [h0] at hlt'; simp at hlt')
      obtain ⟨x, y, c0, c1, hx, hy⟩ := hcell k hlt
      obtain ⟨x', y', d0, d1, hx', hy'⟩ := hcell' k hlt'
      replace c0 := (HCW.out _).trans c0
      replace c1 := (HCW.out _).trans c1
      replace d0 := (HCW.out _).trans d0
      replace d1 := (HCW.out _).trans d1
      have HX : Hid (∀ n, Rd (wr.drewN n) x (ts.getD k tp0).l) := Lib.hid (fun n => hx.below (below_drewN HBW.out n) (Nat.le_refl _))
      have HY : Hid (∀ n, Rd (wr.drewN n) y (ts.getD k tp0).r) := Lib.hid (fun n => hy.below (below_drewN HBW.out n) (Nat.le_refl _))
      have HX' : Hid (∀ n, Rd (wr.drewN n) x' (ss.getD k tp0).l) := Lib.hid (fun n => hx'.below (below_drewN HBW.out n) (Nat.le_refl _))
      have HY' : Hid (∀ n, Rd (wr.drewN n) y' (ss.getD k tp0).r) := Lib.hid (fun n => hy'.below (below_drewN HBW.out n) (Nat.le_refl _))
      obtain ⟨tl, htl⟩ : ∃ t, t = (ts.getD k tp0).l := ⟨_, rfl⟩
      obtain ⟨t2, ht2⟩ : ∃ t, t = (ts.getD k tp0).r := ⟨_, rfl⟩
      obtain ⟨sl, hsl⟩ : ∃ t, t = (ss.getD k tp0).l := ⟨_, rfl⟩
      obtain ⟨s2, hs2⟩ : ∃ t, t = (ss.getD k tp0).r := ⟨_, rfl⟩
      rw [← htl] at HX
      rw [← ht2] at HY
      rw [← hsl] at HX'
      rw [← hs2] at HY'
      have HQ : Hid (¬ (tl = sl ∧ t2 = s2) → smB st ts st' ss = false) := Lib.hid (fun h => by rw [HS.out]; exact st_at (k := k) (by rw [← htl, ← ht2, ← hsl, ← hs2]; exact h))
      have HN : Hid ((tl = sl ∧ t2 = s2) → ∀ i, i < k + 1 → (ts.getD i tp0).l = (ss.getD i tp0).l ∧ (ts.getD i tp0).r = (ss.getD i tp0).r) := Lib.hid (fun h i hi => by
        by_cases hik : i = k
        · subst hik; rw [← htl, ← ht2, ← hsl, ← hs2]; exact h
        · exact HA.out i (by omega))
      have i0 : (0 : Int) ≤ (k : Int) := by omega
      have i1 : (k : Int) < (ts.length : Int) := by omega
      have i2 : (k : Int) < (ss.length : Int) := by omega
      clear hcell hcell' hr hr' hx hy hx' hy' htl ht2 hsl hs2
      rcases eqOr (decide (tl = sl)) with hq | hq
      · have HD := Lib.hid hq
        have HF := Lib.hid (HQ.out (fun h => by rw [decide_eq_true h.1] at hq; cases hq))
        clear hq
        go_wp2
        go_quiet ((go_at_call 131; exact Calls.quiet_of (specSameQ' false _ _ tl sl _ (HX.out _) (HX'.out _) HD.out)))
        go_wp2
        go_ret
        exact ⟨by rw [HF.out] <;> rfl, m + nq, by rw [HWR.out, World.drewN_drewN]⟩
      have HD := Lib.hid hq
      rcases eqOr (decide (t2 = s2)) with hq2 | hq2
      · have HD2 := Lib.hid hq2
        have HF := Lib.hid (HQ.out (fun h => by rw [decide_eq_true h.2] at hq2; cases hq2))
        clear hq hq2
        go_wp2
        go_quiet ((first | (go_at_call 131; exact Calls.quiet_of (specSameQ' true _ _ tl sl _ (HX.out _) (HX'.out _) HD.out)) | (go_at_call 131; exact Calls.quiet_of (specSameQ' false _ _ t2 s2 _ (HY.out _) (HY'.out _) HD2.out))))
        go_wp2
        go_ret
        exact ⟨by rw [HF.out] <;> rfl, m + nq, by rw [HWR.out, World.drewN_drewN]⟩
      · have HD2 := Lib.hid hq2
        have HN2 := Lib.hid (HN.out ⟨of_decide_eq_true hq, of_decide_eq_true hq2⟩)
        clear hq hq2
        go_wp2
        go_quiet ((first | (go_at_call 131; exact Calls.quiet_of (specSameQ' true _ _ tl sl _ (HX.out _) (HX'.out _) HD.out)) | (go_at_call 131; exact Calls.quiet_of (specSameQ' true _ _ t2 s2 _ (HY.out _) (HY'.out _) HD2.out))))
        go_wp2
        go_roundw
        case rel => exact ⟨k + 1, by omega, by go_num, HN2.out, m + nq, by rw [HWR.out, World.drewN_drewN]⟩
        case measure => simp [intOf]; omega
    · obtain rfl : k = ts.length := by omega
      have HF := Lib.hid (st_all HL.out HA.out)
      clear hr hr'
      have hnlt : ¬ ((ts.length : Int) < (ts.length : Int)) := by omega
      go_wp2
      go_ret
      exact ⟨by rw [HS.out, HF.out] <;> rfl, m, HWR.out⟩
theorem specSameMulti (st : Int) (v : Value) (ts : List Tp) (st' : Int) (v' : Value) (ss : List Tp) (w : World) (hv : RdT w v ts) (hv' : RdT w v' ss) :
    Calls Try.prog 25 #[.agg #[.int .i64 st, v], .agg #[.int .i64 st', v']] w fun e w' => e = .returned (.bool (smB st ts st' ss)) ∧ Below w.heap.size w w' := by
  have H1 := Lib.hid hv
  have H2 := Lib.hid hv'
  obtain ⟨_, a, c, rfl, _, _⟩ := hv
  obtain ⟨_, a2, c2, rfl, _, _⟩ := hv'
  obtain ⟨W0, hW0⟩ : ∃ W, W = (w.alloc (Obj.cells #[.int .i64 st, .slice a ts.length c] 40)).alloc (Obj.cells #[.int .i64 st', .slice a2 ss.length c2] 40) := ⟨_, rfl⟩
  have HB : Hid (Below w.heap.size w W0) := Lib.hid (by rw [hW0]; exact ((Below.refl w.heap.size w).alloc (Nat.le_refl _) _).alloc (by simp) _)
  have K1 : Hid (Cels W0 w.heap.size 40 [.int .i64 st, .slice a ts.length c]) := Lib.hid (by rw [hW0]; exact (Cels.new _ _ _).alloc _)
  have K2 : Hid (Cels W0 (w.heap.size + 1) 40 [.int .i64 st', .slice a2 ss.length c2]) := Lib.hid (by rw [hW0]; have h := Cels.new (w.alloc (Obj.cells #[.int .i64 st, .slice a ts.length c] 40)) 40 [.int .i64 st', .slice a2 ss.length c2]; rw [World.size_alloc] at h; exact h)
  have HW0 := Lib.hid hW0.symm
  clear hW0
  go_enter Try.func25, Try.ntmps25
  go_wp2_with fail
  rw [HW0.out]
  refine (specL06Same w.heap.size (w.heap.size + 1) st _ ts st' _ ss _ (H1.out.below HB.out (Nat.le_refl _)) (H2.out.below HB.out (Nat.le_refl _)) (K1.out.cell 0 rfl) (K1.out.cell 1 rfl) (K2.out.cell 0 rfl) (K2.out.cell 1 rfl)).mono ?_
  rintro e w1 ⟨rfl, m, hm⟩
  have HB1 : Hid (Below w.heap.size w w1) := Lib.hid (by rw [hm]; exact below_drewN HB.out _)
  clear hm
  go_wp2
  go_ret
  exact ⟨rfl, HB1.out⟩
theorem closSmc (u v : Value) (ls rs : List Int) (u' v' : Value) (ls' rs' : List Int) (w : World) (hu : Rd w u ls) (hv : Rd w v rs) (hu' : Rd w u' ls') (hv' : Rd w v' rs') :
    Calls Try.prog 79 #[.agg #[u, v], .agg #[u', v']] w fun e w' => e = .returned (.bool (decide (ls = ls') && decide (rs = rs'))) ∧ Below w.heap.size w w' := by
  have H1 := Lib.hid hu
  have H2 := Lib.hid hv
  have H3 := Lib.hid hu'
  have H4 := Lib.hid hv'
  obtain ⟨_, _, a, c, rfl, _, _⟩ := hu
  obtain ⟨_, _, a2, c2, rfl, _, _⟩ := hv
  obtain ⟨_, _, a3, c3, rfl, _, _⟩ := hu'
  obtain ⟨_, _, a4, c4, rfl, _, _⟩ := hv'
  obtain ⟨W0, hW0⟩ : ∃ W, W = (w.alloc (Obj.cells #[.slice a ls.length c, .slice a2 rs.length c2] 51)).alloc (Obj.cells #[.slice a3 ls'.length c3, .slice a4 rs'.length c4] 51) := ⟨_, rfl⟩
  have HB : Hid (Below w.heap.size w W0) := Lib.hid (by rw [hW0]; exact ((Below.refl w.heap.size w).alloc (Nat.le_refl _) _).alloc (by simp) _)
  have K1 : Hid (Cels W0 w.heap.size 51 [.slice a ls.length c, .slice a2 rs.length c2]) := Lib.hid (by rw [hW0]; exact (Cels.new _ _ _).alloc _)
  have K2 : Hid (Cels W0 (w.heap.size + 1) 51 [.slice a3 ls'.length c3, .slice a4 rs'.length c4]) := Lib.hid (by rw [hW0]; have h := Cels.new (w.alloc (Obj.cells #[.slice a ls.length c, .slice a2 rs.length c2] 51)) 51 [.slice a3 ls'.length c3, .slice a4 rs'.length c4]; rw [World.size_alloc] at h; exact h)
  have HW0 := Lib.hid hW0.symm
  obtain ⟨bl, hbl⟩ : ∃ b, b = decide (ls = ls') := ⟨_, rfl⟩
  obtain ⟨br, hbr⟩ : ∃ b, b = decide (rs = rs') := ⟨_, rfl⟩
  have HL := Lib.hid hbl
  have HR := Lib.hid hbr
  rw [← hbl, ← hbr]
  clear hW0 hbl hbr
  go_enter Try.func79, Try.ntmps79
  go_wp2_with fail
  rw [HW0.out]
  refine (libEqI _ _ ls ls' _ (H1.out.below HB.out (Nat.le_refl _)) (H3.out.below HB.out (Nat.le_refl _))).mono ?_
  rintro e w1 ⟨rfl, hb1⟩
  rw [← HL.out]
  have z1 := (K1.out.below hb1 K1.out.lt).cell 1 rfl
  have z2 := (K2.out.below hb1 K2.out.lt).cell 1 rfl
  have HB1 := Lib.hid (HB.out.trans (hb1.mono HB.out.size))
  clear hb1
  rcases eqOr bl with hb | hb
  · subst hb
    go_wp2_with fail
    go_ret
    exact ⟨rfl, HB1.out⟩
  subst hb
  go_wp2_with fail
  refine (libEqI _ _ rs rs' _ (H2.out.below HB1.out (Nat.le_refl _)) (H4.out.below HB1.out (Nat.le_refl _))).mono ?_
  rintro e w2 ⟨rfl, hb2⟩
  rw [← HR.out]
  have HB2 := Lib.hid (HB1.out.trans (hb2.mono HB1.out.size))
  clear hb2
  go_wp2
  go_ret
  exact ⟨by simp, HB2.out⟩
set_option maxHeartbeats 4000000 in
theorem libEqF (v : Value) (ts : List Tp) (v' : Value) (ss : List Tp) (w : World) (hv : RdT w v ts) (hv' : RdT w v' ss) :
    Calls Try.prog 78 #[v, v', .func (Fn.func 79) #[] #[]] w fun e w' => e = .returned (.bool (stB ts ss)) ∧ Below w.heap.size w w' := by
  obtain ⟨hl, a, c, rfl, hcap, hr⟩ := hv
  obtain ⟨hl', a', c', rfl, hcap', hr'⟩ := hv'
  by_cases hle : ts.length = ss.length
  rotate_left
  · have e2 : ((ts.length : Int) != (ss.length : Int)) = true := by simp; omega
    have HF : Hid (stB ts ss = false) := Lib.hid (st_len hle)
    clear hr hr' hle
    go_enter Try.func78, Try.ntmps78
    go_wp2
    go_ret
    exact ⟨by rw [HF.out] <;> rfl, Below.refl _ _⟩
  have e2 : ((ts.length : Int) != (ss.length : Int)) = false := by simp; omega
  have HL := Lib.hid hle
  clear hle
  go_enter Try.func78, Try.ntmps78
  go_wp2
  go_loopw [17] (fun s wr => ∃ k : Nat, k ≤ ts.length ∧ s = .int .i64 k ∧ (∀ i, i < k → (ts.getD i tp0).l = (ss.getD i tp0).l ∧ (ts.getD i tp0).r = (ss.getD i tp0).r) ∧ Below w.heap.size w wr) (fun s _ => ts.length - (intOf s).toNat)
  case atStart => exact ⟨0, Nat.zero_le _, rfl, (fun i hi => by omega), Below.refl _ _⟩
  case round =>
    obtain ⟨k, hk, rfl, hall, hbel⟩ := hrel
    have HA := Lib.hid hall
    have HB := Lib.hid hbel
    clear hall
    by_cases hlt : k < ts.length
    · have hlt' : k < ss.length := by have := HL.out; omega
      obtain ⟨b, o, rfl, hb, hcell⟩ := hr (by intro h0; rw [h0] at hlt; simp at hlt)
      obtain ⟨b', o', rfl, hb', hcell'⟩ := hr' (by intro h0; rw [h0] at hlt'; simp at hlt')
      obtain ⟨x, y, c0, c1, hx, hy⟩ := hcell k hlt
      obtain ⟨x', y', d0, d1, hx', hy'⟩ := hcell' k hlt'
      replace c0 := (hbel.cell (p := ⟨b, o + k * 2, none⟩) hb).trans c0
      replace c1 := (hbel.cell (p := ⟨b, o + k * 2 + 1, none⟩) hb).trans c1
      have d0' : ∀ o : Obj, (wr.alloc o).cell? ⟨b', o' + k * 2, none⟩ = some x' := fun o => cellKept o ((hbel.cell (p := ⟨b', o' + k * 2, none⟩) hb').trans d0)
      have d1' : ∀ o : Obj, (wr.alloc o).cell? ⟨b', o' + k * 2 + 1, none⟩ = some y' := fun o => cellKept o ((hbel.cell (p := ⟨b', o' + k * 2 + 1, none⟩) hb').trans d1)
      have g0 := d0' (Obj.cells #[x, y] 51)
      have g1 := d1' (Obj.cells #[x, y] 51)
      have q1 : Below wr.heap.size wr ((wr.alloc (Obj.cells #[x, y] 51)).alloc (Obj.cells #[x', y'] 51)) := ((Below.refl _ _).alloc (Nat.le_refl _) _).alloc (by simp) _
      have q2 := hbel.trans (q1.mono hbel.size)
      have HX := Lib.hid (hx.below q2 (Nat.le_refl _))
      have HY := Lib.hid (hy.below q2 (Nat.le_refl _))
      have HX' := Lib.hid (hx'.below q2 (Nat.le_refl _))
      have HY' := Lib.hid (hy'.below q2 (Nat.le_refl _))
      have HBW := Lib.hid q2
      obtain ⟨_, _, ax, cx, rfl, _, _⟩ := hx
      obtain ⟨_, _, ay, cy, rfl, _, _⟩ := hy
      obtain ⟨_, _, ax', cx', rfl, _, _⟩ := hx'
      obtain ⟨_, _, ay', cy', rfl, _, _⟩ := hy'
      obtain ⟨tl, htl⟩ : ∃ t, t = (ts.getD k tp0).l := ⟨_, rfl⟩
      obtain ⟨t2, ht2⟩ : ∃ t, t = (ts.getD k tp0).r := ⟨_, rfl⟩
      obtain ⟨sl, hsl⟩ : ∃ t, t = (ss.getD k tp0).l := ⟨_, rfl⟩
      obtain ⟨s2, hs2⟩ : ∃ t, t = (ss.getD k tp0).r := ⟨_, rfl⟩
      have HQ : Hid (¬ (tl = sl ∧ t2 = s2) → stB ts ss = false) := Lib.hid (fun h => st_at (k := k) (by rw [← htl, ← ht2, ← hsl, ← hs2]; exact h))
      have HN : Hid ((tl = sl ∧ t2 = s2) → ∀ i, i < k + 1 → (ts.getD i tp0).l = (ss.getD i tp0).l ∧ (ts.getD i tp0).r = (ss.getD i tp0).r) := Lib.hid (fun h i hi => by
        by_cases hik : i = k
        · subst hik; rw [← htl, ← ht2, ← hsl, ← hs2]; exact h
        · exact HA.out i (by omega))
      have i0 : (0 : Int) ≤ (k : Int) := by omega
      have i1 : (k : Int) < (ts.length : Int) := by omega
      have i2 : (k : Int) < (ss.length : Int) := by omega
      simp only [← htl, ← ht2, ← hsl, ← hs2] at HX HY HX' HY' c0 c1 g0 g1 HBW
      clear hcell hcell' hr hr' hbel htl ht2 hsl hs2 d0 d1 d0' d1' q1 q2
      obtain ⟨bb, hbb⟩ : ∃ x, x = (decide (tl = sl) && decide (t2 = s2)) := ⟨_, rfl⟩
      have HBE := Lib.hid hbb
      clear hbb
      go_wp2_with fail
      refine (closSmc _ _ tl t2 _ _ sl s2 _ HX.out HY.out HX'.out HY'.out).mono ?_
      rintro e w1 ⟨rfl, hb1⟩
      rw [← HBE.out]
      have HB1 := Lib.hid (HBW.out.trans (hb1.mono HBW.out.size))
      clear hb1 c0 c1 g0 g1
      rcases eqOr bb with hbo | hbo
      · subst hbo
        have HF := Lib.hid (HQ.out (fun h => by have := HBE.out; rw [decide_eq_true h.1, decide_eq_true h.2] at this; cases this))
        go_wp2
        go_ret
        exact ⟨by rw [HF.out] <;> rfl, HB1.out⟩
      · subst hbo
        have HN2 := Lib.hid (HN.out (by have := HBE.out.symm; simpa using this))
        go_wp2
        go_roundw
        case rel => exact ⟨k + 1, by omega, by go_num, HN2.out, HB1.out⟩
        case measure => simp [intOf]; omega
    · obtain rfl : k = ts.length := by omega
      have HF := Lib.hid (st_all HL.out HA.out)
      clear hr hr' hbel
      have hnlt : ¬ ((ts.length : Int) < (ts.length : Int)) := by omega
      go_wp2
      go_ret
      exact ⟨by rw [HF.out] <;> rfl, HB.out⟩
theorem implSameMulti (st : Int) (v : Value) (ts : List Tp) (st' : Int) (v' : Value) (ss : List Tp) (w : World) (hv : RdT w v ts) (hv' : RdT w v' ss) :
    Calls Try.prog 26 #[.agg #[.int .i64 st, v], .agg #[.int .i64 st', v']] w fun e w' => e = .returned (.bool (smB st ts st' ss)) ∧ Below w.heap.size w w' := by
  have H1 := Lib.hid hv
  have H2 := Lib.hid hv'
  obtain ⟨_, a, c, rfl, _, _⟩ := hv
  obtain ⟨_, a2, c2, rfl, _, _⟩ := hv'
  obtain ⟨W0, hW0⟩ : ∃ W, W = (w.alloc (Obj.cells #[.int .i64 st, .slice a ts.length c] 40)).alloc (Obj.cells #[.int .i64 st', .slice a2 ss.length c2] 40) := ⟨_, rfl⟩
  have HB : Hid (Below w.heap.size w W0) := Lib.hid (by rw [hW0]; exact ((Below.refl w.heap.size w).alloc (Nat.le_refl _) _).alloc (by simp) _)
  have HW0 := Lib.hid hW0.symm
  clear hW0
  by_cases hs : st = st'
  rotate_left
  · have e1 : (st == st') = false := by simpa using hs
    have HF : Hid (smB st ts st' ss = false) := Lib.hid (by rw [smB, decide_eq_false hs]; rfl)
    clear hs
    go_enter Try.func26, Try.ntmps26
    go_wp2_with fail
    go_ret
    exact ⟨by rw [HF.out] <;> rfl, by rw [HW0.out]; exact HB.out⟩
  have e1 : (st == st') = true := by simpa using hs
  have HS : Hid (smB st ts st' ss = stB ts ss) := Lib.hid (by rw [smB, decide_eq_true hs]; rfl)
  clear hs
  go_enter Try.func26, Try.ntmps26
  go_wp2_with fail
  rw [HW0.out]
  refine (libEqF _ ts _ ss _ (H1.out.below HB.out (Nat.le_refl _)) (H2.out.below HB.out (Nat.le_refl _))).mono ?_
  rintro e w1 ⟨rfl, hb1⟩
  have HB1 := Lib.hid (HB.out.trans (hb1.mono HB.out.size))
  obtain ⟨bb, hbb⟩ : ∃ x, x = stB ts ss := ⟨_, rfl⟩
  rw [← hbb]
  have HBE := Lib.hid hbb
  clear hb1 hbb
  go_wp2
  go_ret
  exact ⟨by rw [HS.out, ← HBE.out] <;> rfl, HB1.out⟩
end Go.Proofs.Ytmaapgjgbmefmaa.Ints
