/- Contracts of MultiSpace, of the model and of the program. -/
import Derived.Test.YtmaapgjgbmefmaaTps2
import Derived.Test.YtmaapgjgbmefmaaTapX
namespace Go.Proofs.Ytmaapgjgbmefmaa.Ints
open Go.RowKit
set_option linter.unusedVariables false
set_option linter.unusedSimpArgs false
def tpN (t : Tp) : Int := (t.l.length : Int) + (t.r.length : Int)
/-- The cells of the first k tapes. -/
def sumK (ts : List Tp) : Nat → Int
  | 0 => 0
  | k + 1 => sumK ts k + tpN (ts.getD k tp0)
def AllT (ts : List Tp) (k : Nat) : Prop := ∀ i, i < k → tcB (ts.getD i tp0).l (ts.getD i tp0).r = true
def MsOk (ts : List Tp) : Prop := ts.length ≤ 3 ∧ AllT ts ts.length
open Classical in
noncomputable def msC (ts : List Tp) : Int := if MsOk ts then 0 else 1
open Classical in
noncomputable def msS (ts : List Tp) : Int := if MsOk ts then sumK ts ts.length else 0
theorem ms_bad {ts : List Tp} (h : ¬ MsOk ts) : msS ts = 0 ∧ msC ts = 1 := by simp [msS, msC, h]
theorem ms_good {ts : List Tp} (h : MsOk ts) : msS ts = sumK ts ts.length ∧ msC ts = 0 := by simp [msS, msC, h]
theorem sumK_le {ts : List Tp} {k : Nat} (h : AllT ts k) : 0 ≤ sumK ts k ∧ sumK ts k ≤ 400 * (k : Int) := by
  induction k with
  | zero => simp [sumK]
  | succ k ih =>
    have h1 := ih (fun i hi => h i (by omega))
    have h2 := tc_small (h k (by omega))
    rw [sumK, tpN]
    omega
theorem AllT.step {ts : List Tp} {k : Nat} (h : AllT ts k) (h1 : tcB (ts.getD k tp0).l (ts.getD k tp0).r = true) : AllT ts (k + 1) := fun i hi => by
  by_cases e : i = k
  · subst e; exact h1
  · exact h i (by omega)
set_option maxHeartbeats 4000000 in
theorem specMultiSpace (st : Int) (v : Value) (ts : List Tp) (w : World) (hv : RdT w v ts) :
    Calls Try.prog 36 #[.agg #[.int .i64 st, v]] w fun e w' => e = .returned (.tuple #[.int .i64 (msS ts), .int .i64 (msC ts)]) ∧ Below w.heap.size w w' := by
  obtain ⟨hl, a, c, rfl, hcap, hr⟩ := hv
  obtain ⟨W0, hW0⟩ : ∃ W, W = w.alloc (Obj.cells #[.int .i64 st, .slice a ts.length c] 40) := ⟨_, rfl⟩
  have hB : Below w.heap.size w W0 := by rw [hW0]; exact (Below.refl _ _).alloc (Nat.le_refl _) _
  have HB := Lib.hid hB
  have K0 : Hid (Cels W0 w.heap.size 40 [.int .i64 st, .slice a ts.length c]) := Lib.hid (by rw [hW0]; exact Cels.new _ _ _)
  have HW0 := Lib.hid hW0.symm
  clear hW0 hB
  by_cases h3 : (3 : Int) < (ts.length : Int)
  · have e := Lib.hid (ms_bad (ts := ts) (fun h => by have := h.1; omega))
    clear hr
    go_enter Try.func36, Try.ntmps36
    go_wp2
    go_ret2
    exact ⟨by rw [e.out.1, e.out.2] <;> rfl, by rw [HW0.out]; exact HB.out⟩
  have H3 : Hid (ts.length ≤ 3) := Lib.hid (by omega)
  go_enter Try.func36, Try.ntmps36
  go_wp2
  rw [HW0.out]
  go_loopw [4, 5] (fun q s wr => ∃ k : Nat, k ≤ ts.length ∧ s = .int .i64 k ∧ q = .int .i64 (sumK ts k) ∧ AllT ts k ∧ Below W0.heap.size W0 wr) (fun _ s _ => ts.length - (intOf s).toNat)
  case atStart => exact ⟨0, Nat.zero_le _, rfl, rfl, fun i hi => by omega, Below.refl _ _⟩
  case round =>
    obtain ⟨k, hk, rfl, rfl, hall, hbel⟩ := hrel
    have HA := Lib.hid hall
    have HBW := Lib.hid hbel
    have HBB := Lib.hid (HB.out.trans (hbel.mono HB.out.size))
    have y1 := (K0.out.below hbel K0.out.lt).cell 1 rfl
    have hsm := sumK_le hall
    have h3' := H3.out
    obtain ⟨S, hS⟩ : ∃ S, S = sumK ts k := ⟨_, rfl⟩
    have HS := Lib.hid hS
    rw [← hS] at hsm ⊢
    clear hall hbel hS
    by_cases hlt : k < ts.length
    · obtain ⟨b, o, rfl, hb, hcell⟩ := hr (by intro h0; rw [h0] at hlt; simp at hlt)
      obtain ⟨x, y, c0, c1, hx, hy⟩ := hcell k hlt
      replace c0 := (HBB.out.cell (p := ⟨b, o + k * 2, none⟩) hb).trans c0
      replace c1 := (HBB.out.cell (p := ⟨b, o + k * 2 + 1, none⟩) hb).trans c1
      have HX := Lib.hid (hx.below HBB.out (Nat.le_refl _))
      have HY := Lib.hid (hy.below HBB.out (Nat.le_refl _))
      obtain ⟨_, _, ax, cx, rfl, _, _⟩ := hx
      obtain ⟨_, _, ay, cy, rfl, _, _⟩ := hy
      obtain ⟨tl, htl⟩ : ∃ t, t = (ts.getD k tp0).l := ⟨_, rfl⟩
      obtain ⟨t2, ht2⟩ : ∃ t, t = (ts.getD k tp0).r := ⟨_, rfl⟩
      rw [← htl] at HX c0
      rw [← ht2] at HY c1
      obtain ⟨bt, hbt⟩ : ∃ x, x = tcB tl t2 := ⟨_, rfl⟩
      have HT : Hid (tcB (ts.getD k tp0).l (ts.getD k tp0).r = bt) := Lib.hid (by rw [hbt, htl, ht2])
      have HBT := Lib.hid hbt
      have HN : Hid (sumK ts (k + 1) = S + ((tl.length : Int) + (t2.length : Int))) := Lib.hid (by rw [sumK, tpN, ← HS.out, htl, ht2])
      have i0 : (0 : Int) ≤ (k : Int) := by omega
      have i1 : (k : Int) < (ts.length : Int) := by omega
      have hbW := World.block_lt_of_cell? _ _ c0
      clear hcell hr htl ht2 hbt
      go_wp2_with fail
      refine (specTCells b (o + k * 2) _ _ tl t2 _ HX.out HY.out c0 c1).mono ?_
      rintro e w1 ⟨rfl, hb1⟩
      rw [← HBT.out]
      have HBW1 := Lib.hid (HBW.out.trans (hb1.mono HBW.out.size))
      replace c0 := (hb1.cell (p := ⟨b, o + k * 2, none⟩) hbW).trans c0
      replace c1 := (hb1.cell (p := ⟨b, o + k * 2 + 1, none⟩) hbW).trans c1
      replace y1 := (K0.out.below HBW1.out K0.out.lt).cell 1 rfl
      clear hb1
      rcases eqOr bt with hb | hb
      · subst hb
        have e := Lib.hid (ms_bad (ts := ts) (fun h => by have := h.2 k hlt; rw [HT.out] at this; cases this))
        go_wp2
        go_ret2
        exact ⟨by rw [e.out.1, e.out.2] <;> rfl, HB.out.trans (HBW1.out.mono HB.out.size)⟩
      · subst hb
        obtain ⟨s1, s2⟩ := tc_small HBT.out.symm
        have e1 : IntKind.i64.wrap ((tl.length : Int) + (t2.length : Int)) = (tl.length : Int) + (t2.length : Int) := by rw [IntKind.wrap_i64]; omega
        have e2 : IntKind.i64.wrap (S + ((tl.length : Int) + (t2.length : Int))) = S + ((tl.length : Int) + (t2.length : Int)) := by rw [IntKind.wrap_i64]; omega
        have HA2 := Lib.hid (HA.out.step HT.out)
        clear s1 s2
        go_wp2
        go_quiet (fail)
        go_wp2
        go_roundw
        case rel => exact ⟨k + 1, by omega, by go_num, by rw [HN.out], HA2.out, below_drewN HBW1.out _⟩
        case measure => simp [intOf]; omega
    · obtain rfl : k = ts.length := by omega
      have e := Lib.hid (ms_good (ts := ts) ⟨H3.out, HA.out⟩)
      clear hr
      have hnlt : ¬ ((ts.length : Int) < (ts.length : Int)) := by omega
      go_wp2
      go_ret2
      exact ⟨by rw [e.out.1, e.out.2, HS.out] <;> rfl, HBB.out⟩
set_option maxHeartbeats 4000000 in
theorem implMultiSpace (st : Int) (v : Value) (ts : List Tp) (w : World) (hv : RdT w v ts) :
    Calls Try.prog 37 #[.agg #[.int .i64 st, v]] w fun e w' => e = .returned (.tuple #[.int .i64 (msS ts), .int .i64 (msC ts)]) ∧ Below w.heap.size w w' := by
  obtain ⟨hl, a, c, rfl, hcap, hr⟩ := hv
  obtain ⟨W0, hW0⟩ : ∃ W, W = w.alloc (Obj.cells #[.int .i64 st, .slice a ts.length c] 40) := ⟨_, rfl⟩
  have hB : Below w.heap.size w W0 := by rw [hW0]; exact (Below.refl _ _).alloc (Nat.le_refl _) _
  have HB := Lib.hid hB
  have HW0 := Lib.hid hW0.symm
  clear hW0 hB
  by_cases h3 : (3 : Int) < (ts.length : Int)
  · have e := Lib.hid (ms_bad (ts := ts) (fun h => by have := h.1; omega))
    clear hr
    go_enter Try.func37, Try.ntmps37
    go_wp2
    go_ret2
    exact ⟨by rw [e.out.1, e.out.2] <;> rfl, by rw [HW0.out]; exact HB.out⟩
  have H3 : Hid (ts.length ≤ 3) := Lib.hid (by omega)
  go_enter Try.func37, Try.ntmps37
  go_wp2
  rw [HW0.out]
  go_loopw [4, 14] (fun q s wr => ∃ k : Nat, k ≤ ts.length ∧ s = .int .i64 k ∧ q = .int .i64 (sumK ts k) ∧ AllT ts k ∧ Below W0.heap.size W0 wr) (fun _ s _ => ts.length - (intOf s).toNat)
  case atStart => exact ⟨0, Nat.zero_le _, rfl, rfl, fun i hi => by omega, Below.refl _ _⟩
  case round =>
    obtain ⟨k, hk, rfl, rfl, hall, hbel⟩ := hrel
    have HA := Lib.hid hall
    have HBW := Lib.hid hbel
    have HBB := Lib.hid (HB.out.trans (hbel.mono HB.out.size))
    have hsm := sumK_le hall
    have h3' := H3.out
    obtain ⟨S, hS⟩ : ∃ S, S = sumK ts k := ⟨_, rfl⟩
    have HS := Lib.hid hS
    rw [← hS] at hsm ⊢
    clear hall hbel hS
    by_cases hlt : k < ts.length
    · obtain ⟨b, o, rfl, hb, hcell⟩ := hr (by intro h0; rw [h0] at hlt; simp at hlt)
      obtain ⟨x, y, c0, c1, hx, hy⟩ := hcell k hlt
      replace c0 := (HBB.out.cell (p := ⟨b, o + k * 2, none⟩) hb).trans c0
      replace c1 := (HBB.out.cell (p := ⟨b, o + k * 2 + 1, none⟩) hb).trans c1
      have HX := Lib.hid (hx.below HBB.out (Nat.le_refl _))
      have HY := Lib.hid (hy.below HBB.out (Nat.le_refl _))
      obtain ⟨_, _, ax, cx, rfl, _, _⟩ := hx
      obtain ⟨_, _, ay, cy, rfl, _, _⟩ := hy
      obtain ⟨tl, htl⟩ : ∃ t, t = (ts.getD k tp0).l := ⟨_, rfl⟩
      obtain ⟨t2, ht2⟩ : ∃ t, t = (ts.getD k tp0).r := ⟨_, rfl⟩
      rw [← htl] at HX c0
      rw [← ht2] at HY c1
      obtain ⟨bt, hbt⟩ : ∃ x, x = tcB tl t2 := ⟨_, rfl⟩
      have HT : Hid (tcB (ts.getD k tp0).l (ts.getD k tp0).r = bt) := Lib.hid (by rw [hbt, htl, ht2])
      have HBT := Lib.hid hbt
      have HN : Hid (sumK ts (k + 1) = S + ((tl.length : Int) + (t2.length : Int))) := Lib.hid (by rw [sumK, tpN, ← HS.out, htl, ht2])
      have i0 : (0 : Int) ≤ (k : Int) := by omega
      have i1 : (k : Int) < (ts.length : Int) := by omega
      have q1 : Below wr.heap.size wr (wr.alloc (Obj.cells #[.slice ax tl.length cx, .slice ay t2.length cy] 51)) := (Below.refl _ _).alloc (Nat.le_refl _) _
      have KT := Lib.hid (Cels.new wr 51 [.slice ax tl.length cx, .slice ay t2.length cy])
      have HX2 := Lib.hid (HX.out.below q1 (Nat.le_refl _))
      have HY2 := Lib.hid (HY.out.below q1 (Nat.le_refl _))
      have HBW0 := Lib.hid (HBW.out.trans (q1.mono HBW.out.size))
      clear hcell hr htl ht2 hbt q1
      go_wp2_with fail
      refine (implHas _ tl _ t2 _ HX2.out HY2.out).mono ?_
      rintro e w1 ⟨rfl, hb1⟩
      rw [← HBT.out]
      have HBW1 := Lib.hid (HBW0.out.trans (hb1.mono HBW0.out.size))
      have z0 := (KT.out.below hb1 KT.out.lt).cell 0 rfl
      have z1 := (KT.out.below hb1 KT.out.lt).cell 1 rfl
      clear hb1 c0 c1
      rcases eqOr bt with hb | hb
      · subst hb
        have e := Lib.hid (ms_bad (ts := ts) (fun h => by have := h.2 k hlt; rw [HT.out] at this; cases this))
        go_wp2
        go_ret2
        exact ⟨by rw [e.out.1, e.out.2] <;> rfl, HB.out.trans (HBW1.out.mono HB.out.size)⟩
      · subst hb
        obtain ⟨s1, s2⟩ := tc_small HBT.out.symm
        have e1 : IntKind.i64.wrap ((tl.length : Int) + (t2.length : Int)) = (tl.length : Int) + (t2.length : Int) := by rw [IntKind.wrap_i64]; omega
        have e2 : IntKind.i64.wrap (S + ((tl.length : Int) + (t2.length : Int))) = S + ((tl.length : Int) + (t2.length : Int)) := by rw [IntKind.wrap_i64]; omega
        have HA2 := Lib.hid (HA.out.step HT.out)
        clear s1 s2
        go_wp2
        go_roundw
        case rel => exact ⟨k + 1, by omega, by go_num, by rw [HN.out], HA2.out, HBW1.out⟩
        case measure => simp [intOf]; omega
    · obtain rfl : k = ts.length := by omega
      have e := Lib.hid (ms_good (ts := ts) ⟨H3.out, HA.out⟩)
      clear hr
      have hnlt : ¬ ((ts.length : Int) < (ts.length : Int)) := by omega
      go_wp2
      go_ret2
      exact ⟨by rw [e.out.1, e.out.2, HS.out] <;> rfl, HBB.out⟩
end Go.Proofs.Ytmaapgjgbmefmaa.Ints
