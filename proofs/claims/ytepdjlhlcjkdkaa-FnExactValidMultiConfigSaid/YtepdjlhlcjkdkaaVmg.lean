/- Tapes of a configuration: the program's closure and its search; the model's test of a configuration with several tapes. -/
import Derived.Test.YtepdjlhlcjkdkaaSd
import Derived.Test.YtepdjlhlcjkdkaaTps2
import Derived.Deep.QuietTactic
import Derived.BigQuiet
namespace Go.Proofs.Ytepdjlhlcjkdkaa.Ints
open Go.RowKit
set_option linter.unusedVariables false
set_option linter.unusedSimpArgs false
noncomputable def tpB (sy : Int) (t : Tp) : Bool := sdB sy t.l && sdB sy t.r
open Classical in
noncomputable def tpsB (sy : Int) (ts : List Tp) : Bool := decide (∀ i, i < ts.length → tpB sy (ts.getD i tp0) = true)
noncomputable def mcB (tp sy st cst : Int) (ts : List Tp) : Bool := decide (0 ≤ cst ∧ cst < st) && (decide ((ts.length : Int) = tp) && tpsB sy ts)
theorem tpsB_true {sy : Int} {ts : List Tp} (h : ∀ i, i < ts.length → tpB sy (ts.getD i tp0) = true) : tpsB sy ts = true := by simp only [tpsB, decide_eq_true_eq]; exact h
theorem tpsB_false {sy : Int} {ts : List Tp} {k : Nat} (hk : k < ts.length) (h : tpB sy (ts.getD k tp0) = false) : tpsB sy ts = false := by
  simp only [tpsB, decide_eq_false_iff_not]
  intro H
  rw [H k hk] at h
  cases h
theorem mcB_c {tp sy st cst : Int} {ts : List Tp} (h : ¬ (0 ≤ cst ∧ cst < st)) : mcB tp sy st cst ts = false := by simp only [mcB, decide_eq_false h, Bool.false_and]
theorem mcB_l {tp sy st cst : Int} {ts : List Tp} (h : ¬ (ts.length : Int) = tp) : mcB tp sy st cst ts = false := by simp only [mcB, decide_eq_false h, Bool.false_and, Bool.and_false]
theorem mcB_t {tp sy st cst : Int} {ts : List Tp} (h : 0 ≤ cst ∧ cst < st) (k : (ts.length : Int) = tp) : mcB tp sy st cst ts = tpsB sy ts := by simp only [mcB, decide_eq_true h, decide_eq_true k, Bool.true_and]
theorem specSdB (b : Bool) (v : Value) (zs : List Int) (sy : Int) (w : World) (hv : Rd w v zs) (s0 : 0 ≤ sy) (s1 : sy ≤ 1000000) (h : sdB sy zs = b) :
    Calls Try.prog 73 #[v, .int .i64 sy] w fun e w' => e = .returned (.bool b) ∧ w' = w := by
  rw [← h]; exact specSd v zs sy w hv s0 s1
set_option maxHeartbeats 2000000 in
theorem closMc (u v : Value) (ls rs : List Int) (g : Nat) (sy : Int) (w : World) (hu : Rd w u ls) (hv : Rd w v rs) (a1 : w.cell? ⟨g, 1, none⟩ = some (.int .i64 sy)) :
    Calls Try.prog 67 #[.agg #[u, v], .pointer (some ⟨g, 0, none⟩)] w fun e w' => e = .returned (.bool (!tpB sy ⟨ls, rs⟩)) ∧ Below w.heap.size w w' := by
  have HU := Lib.hid hu
  have HV := Lib.hid hv
  obtain ⟨W0, hW0⟩ : ∃ W, W = w.alloc (Obj.cells #[u, v] 85) := ⟨_, rfl⟩
  have HK : Hid (Cels W0 w.heap.size 85 [u, v]) := Lib.hid (by rw [hW0]; exact Cels.new _ _ _)
  have HB0 : Hid (Below w.heap.size w W0) := Lib.hid (by rw [hW0]; exact (Below.refl _ _).alloc (Nat.le_refl _) _)
  have HA : Hid (∀ W, Below w.heap.size w W → W.cell? ⟨g, 1, none⟩ = some (.int .i64 sy)) := Lib.hid (fun W hW => by
    have l0 := World.block_lt_of_cell? w _ a1
    exact (hW.cell (p := ⟨g, 1, none⟩) l0).trans a1)
  have HW0 := Lib.hid hW0.symm
  have z0 := HK.out.cell 0 rfl
  have z1 := HK.out.cell 1 rfl
  have y1 := HA.out (w.alloc (Obj.cells #[u, v] 85)) ((Below.refl _ _).alloc (Nat.le_refl _) _)
  clear hW0 hu hv a1
  rcases eqOr (sdB sy ls) with hb | hb
  · have e : Hid (tpB sy ⟨ls, rs⟩ = false) := Lib.hid (by simp only [tpB, hb, Bool.false_and])
    have HS := Lib.hid hb
    clear hb
    go_enter Try.func67, Try.ntmps67
    go_wp2_with fail
    rw [HW0.out]
    refine (implSd _ ls sy _ _ (HU.out.below HB0.out (Nat.le_refl _)) rfl).mono ?_
    rintro e1 w1 ⟨rfl, hb1⟩
    rw [HS.out]
    have HB1 := Lib.hid (HB0.out.trans (hb1.mono HB0.out.size))
    clear hb1
    go_wp2
    go_ret
    exact ⟨by rw [e.out] <;> rfl, HB1.out⟩
  · have HS := Lib.hid hb
    obtain ⟨br, hbr⟩ : ∃ b, b = sdB sy rs := ⟨_, rfl⟩
    have e : Hid (tpB sy ⟨ls, rs⟩ = br) := Lib.hid (by simp only [tpB, hb, Bool.true_and, hbr])
    have HR := Lib.hid hbr
    clear hb hbr
    go_enter Try.func67, Try.ntmps67
    go_wp2_with fail
    rw [HW0.out]
    refine (implSd _ ls sy _ _ (HU.out.below HB0.out (Nat.le_refl _)) rfl).mono ?_
    rintro e1 w1 ⟨rfl, hb1⟩
    rw [HS.out]
    have HB1 := Lib.hid (HB0.out.trans (hb1.mono HB0.out.size))
    replace HK := Lib.hid (HK.out.below hb1 HK.out.lt)
    clear hb1 z0 z1 y1
    have z1 := HK.out.cell 1 rfl
    have y1 := HA.out _ HB1.out
    go_wp2_with fail
    refine (implSd _ rs sy _ _ (HV.out.below HB1.out (Nat.le_refl _)) rfl).mono ?_
    rintro e1 w2 ⟨rfl, hb1⟩
    rw [← HR.out]
    have HB2 := Lib.hid (HB1.out.trans (hb1.mono HB1.out.size))
    clear hb1
    go_wp2
    go_ret
    exact ⟨by rw [e.out] <;> rfl, HB2.out⟩
set_option maxHeartbeats 2000000 in
theorem indexMc (v : Value) (ts : List Tp) (g : Nat) (sy : Int) (w : World) (h : RdT w v ts) (k0 : w.cell? ⟨g, 1, none⟩ = some (.int .i64 sy)) :
    Calls Try.prog 124 #[v, .func (Fn.func 67) #[] #[.pointer (some ⟨g, 0, none⟩)]] w fun e w' =>
      ∃ r : Int, e = .returned (.int .i64 r) ∧ decide (0 ≤ r) = !tpsB sy ts ∧ Below w.heap.size w w' := by
  obtain ⟨hl, a, c, rfl, hcap, hr⟩ := h
  have HK : Hid (∀ W, Below w.heap.size w W → W.cell? ⟨g, 1, none⟩ = some (.int .i64 sy)) := Lib.hid (fun W hW => by
    have l0 := World.block_lt_of_cell? w _ k0
    exact (hW.cell (p := ⟨g, 1, none⟩) l0).trans k0)
  clear k0
  go_enter Try.func124, Try.ntmps124
  go_wp2
  go_loopw [8] (fun s wr => ∃ k : Nat, k ≤ ts.length ∧ s = .int .i64 k ∧ (∀ i, i < k → tpB sy (ts.getD i tp0) = true) ∧ Below w.heap.size w wr) (fun s _ => ts.length - (intOf s).toNat)
  case atStart => exact ⟨0, Nat.zero_le _, rfl, fun i hi => by omega, Below.refl _ _⟩
  case round =>
    obtain ⟨k, hk, rfl, hall, hbel⟩ := hrel
    have HA := Lib.hid hall
    have HB := Lib.hid hbel
    clear hall
    by_cases hlt : k < ts.length
    · obtain ⟨b, o, rfl, hb, hcell⟩ := hr (by intro h0; rw [h0] at hlt; simp at hlt)
      obtain ⟨x, y, c0', c1, rx, ry⟩ := hcell k hlt
      replace c0' := (hbel.cell (p := ⟨b, o + k * 2, none⟩) hb).trans c0'
      replace c1 := (hbel.cell (p := ⟨b, o + k * 2 + 1, none⟩) hb).trans c1
      obtain ⟨r, hr0⟩ : ∃ r, r = ts.getD k tp0 := ⟨_, rfl⟩
      rw [← hr0] at rx ry
      have HE := Lib.hid hr0
      obtain ⟨ls, rs⟩ := r
      have RX := Lib.hid (rx.below hbel (Nat.le_refl _))
      have RY := Lib.hid (ry.below hbel (Nat.le_refl _))
      clear hcell hbel hr0 hr rx ry
      obtain ⟨br, hbr⟩ : ∃ br, br = tpB sy ⟨ls, rs⟩ := ⟨_, rfl⟩
      have HBR := Lib.hid hbr
      clear hbr
      go_wp2_with fail
      refine (closMc x y ls rs g sy _ RX.out RY.out (HK.out _ HB.out)).mono ?_
      rintro e w1 ⟨rfl, hb1⟩
      rw [← HBR.out]
      have HB2 := Lib.hid (HB.out.trans (hb1.mono HB.out.size))
      clear hb1 c0' c1
      rcases eqOr br with hbr | hbr
      · subst hbr
        have HF : Hid (tpsB sy ts = false) := Lib.hid (tpsB_false hlt (by rw [← HE.out]; exact HBR.out.symm))
        go_wp2
        go_ret
        exact ⟨k, rfl, by rw [HF.out]; simp, HB2.out⟩
      · subst hbr
        have HA2 : Hid (∀ i, i < k + 1 → tpB sy (ts.getD i tp0) = true) := Lib.hid (fun i hi => by
          by_cases e : i = k
          · subst e; rw [← HE.out]; exact HBR.out.symm
          · exact HA.out i (by omega))
        go_wp2
        go_roundw
        case rel => exact ⟨k + 1, by omega, by go_num, HA2.out, HB2.out⟩
        case measure => simp [intOf]; omega
    · obtain rfl : k = ts.length := by omega
      have HF : Hid (tpsB sy ts = true) := Lib.hid (tpsB_true HA.out)
      clear hbel hr
      go_wp2
      go_ret
      exact ⟨-1, rfl, by rw [HF.out]; rfl, HB.out⟩
set_option maxHeartbeats 8000000 in
set_option maxRecDepth 100000 in
theorem specGoodM (g gc : Nat) (tp sy st cst : Int) (u : Value) (ts : List Tp) (w : World) (hu : RdT w u ts)
    (a0 : w.cell? ⟨g, 0, none⟩ = some (.int .i64 tp)) (a1 : w.cell? ⟨g, 1, none⟩ = some (.int .i64 sy)) (a2 : w.cell? ⟨g, 2, none⟩ = some (.int .i64 st))
    (c0 : w.cell? ⟨gc, 0, none⟩ = some (.int .i64 cst)) (c1 : w.cell? ⟨gc, 1, none⟩ = some u)
    (s0 : 0 ≤ sy) (s1 : sy ≤ 1000000) (t0 : 0 ≤ st) (t1 : st ≤ 1000000) :
    Calls Try.prog 61 #[.pointer (some ⟨g, 0, none⟩), .pointer (some ⟨gc, 0, none⟩)] w fun e w' => e = .returned (.bool (mcB tp sy st cst ts)) ∧ Below w.heap.size w w' := by
  obtain ⟨hl, a, c, rfl, hcap, hr⟩ := hu
  have e1 : IntKind.i64.wrap (st - 1) = st - 1 := by rw [IntKind.wrap_i64]; omega
  have HSS := Lib.hid (And.intro s0 s1)
  have HP : Hid (∀ W, Below w.heap.size w W → W.cell? ⟨g, 1, none⟩ = some (.int .i64 sy) ∧ W.cell? ⟨gc, 1, none⟩ = some (.slice a ts.length c)) := Lib.hid (fun W hW => by
    have l0 := World.block_lt_of_cell? w _ a1
    have l1 := World.block_lt_of_cell? w _ c1
    exact ⟨(hW.cell (p := ⟨g, 1, none⟩) l0).trans a1, (hW.cell (p := ⟨gc, 1, none⟩) l1).trans c1⟩)
  by_cases h1 : 0 ≤ cst ∧ cst ≤ st - 1
  rotate_left
  · have HA1 : Hid (∀ lo hi : Int, lo = 0 → hi = st - 1 → ¬ (lo ≤ cst ∧ cst ≤ hi)) := Lib.hid (fun lo hi e1 e2 => by subst e1; subst e2; exact h1)
    have e := Lib.hid (mcB_c (tp := tp) (sy := sy) (ts := ts) (show ¬ (0 ≤ cst ∧ cst < st) by omega))
    clear h1 s0 s1 t0 t1 hr
    go_enter Try.func61, Try.ntmps61
    go_wp2
    go_quiet ((go_at_call 82; exact Calls.quiet_of_same (specInN _ _ _ _ (HA1.out _ _ (by decide) rfl))))
    go_wp2
    go_ret
    exact ⟨by rw [e.out] <;> rfl, below_drewN (Below.refl _ _) _⟩
  have HA1 : Hid (∀ lo hi : Int, lo = 0 → hi = st - 1 → lo ≤ cst ∧ cst ≤ hi) := Lib.hid (fun lo hi e1 e2 => by subst e1; subst e2; exact h1)
  have hc : 0 ≤ cst ∧ cst < st := by omega
  by_cases h2 : (ts.length : Int) = tp
  rotate_left
  · have e := Lib.hid (mcB_l (sy := sy) (st := st) (cst := cst) h2)
    have hn : ((ts.length : Int) != tp) = true := by simp [h2]
    clear h1 h2 hc s0 s1 t0 t1 hr
    go_enter Try.func61, Try.ntmps61
    go_wp2
    go_quiet ((go_at_call 82; exact Calls.quiet_of_same (specInY _ _ _ _ (HA1.out _ _ (by decide) rfl))))
    go_wp2
    go_ret
    exact ⟨by rw [e.out] <;> rfl, below_drewN (Below.refl _ _) _⟩
  have e := Lib.hid (mcB_t (sy := sy) hc h2)
  have hn : ((ts.length : Int) != tp) = false := by simp [h2]
  have HR := Lib.hid hr
  clear h1 h2 hc s0 s1 t0 t1 hr
  go_enter Try.func61, Try.ntmps61
  go_wp2
  go_quiet ((go_at_call 82; exact Calls.quiet_of_same (specInY _ _ _ _ (HA1.out _ _ (by decide) rfl))))
  clear a0 a1 a2 c0 c1 hn
  go_wp2
  go_loopw [5] (fun s wr => ∃ k : Nat, k ≤ ts.length ∧ s = .int .i64 k ∧ (∀ i, i < k → tpB sy (ts.getD i tp0) = true) ∧ Below w.heap.size w wr) (fun s _ => ts.length - (intOf s).toNat)
  case atStart => exact ⟨0, Nat.zero_le _, rfl, fun i hi => by omega, below_drewN (Below.refl _ _) _⟩
  case round =>
    obtain ⟨k, hk, rfl, hall, hbel⟩ := hrel
    have HA := Lib.hid hall
    have HB := Lib.hid hbel
    obtain ⟨y0, y1⟩ := HP.out _ hbel
    clear hall
    by_cases hlt : k < ts.length
    · obtain ⟨b, o, rfl, hb, hcell⟩ := HR.out (by intro h0; rw [h0] at hlt; simp at hlt)
      obtain ⟨x, y, d0, d1, rx, ry⟩ := hcell k hlt
      replace d0 := (hbel.cell (p := ⟨b, o + k * 2, none⟩) hb).trans d0
      replace d1 := (hbel.cell (p := ⟨b, o + k * 2 + 1, none⟩) hb).trans d1
      obtain ⟨r, hr0⟩ : ∃ r, r = ts.getD k tp0 := ⟨_, rfl⟩
      rw [← hr0] at rx ry
      have HE := Lib.hid hr0
      obtain ⟨ls, rs⟩ := r
      have RX := Lib.hid (rx.below hbel (Nat.le_refl _))
      have RY := Lib.hid (ry.below hbel (Nat.le_refl _))
      have HD : Hid (∀ n (x : Value) (zs : List Int), Rd wr x zs → Rd (wr.drewN n) x zs) := Lib.hid (fun n x zs h => h.below (below_drewN (Below.refl _ _) n) (Nat.le_refl _))
      have j0 : (0 : Int) ≤ (k : Int) := by omega
      have j1 : (k : Int) < (ts.length : Int) := by omega
      clear hcell hbel hr0 rx ry
      rcases eqOr (sdB sy ls) with hb1 | hb1
      · have HS := Lib.hid hb1
        have HF : Hid (tpsB sy ts = false) := Lib.hid (tpsB_false hlt (by rw [← HE.out]; simp only [tpB, hb1, Bool.false_and]))
        clear hb1
        go_wp2
        go_quiet ((go_at_call 73; exact Calls.quiet_of_same (specSdB false _ ls sy _ (HD.out _ _ _ RX.out) HSS.out.1 HSS.out.2 HS.out)))
        go_wp2
        go_ret
        exact ⟨by rw [e.out, HF.out] <;> rfl, below_drewN HB.out _⟩
      have HS := Lib.hid hb1
      rcases eqOr (sdB sy rs) with hb2 | hb2
      · have HS2 := Lib.hid hb2
        have HF : Hid (tpsB sy ts = false) := Lib.hid (tpsB_false hlt (by rw [← HE.out]; simp only [tpB, hb2, Bool.and_false]))
        clear hb1 hb2
        go_wp2
        go_quiet ((first | (go_at_call 73; exact Calls.quiet_of_same (specSdB true _ ls sy _ (HD.out _ _ _ RX.out) HSS.out.1 HSS.out.2 HS.out)) | (go_at_call 73; exact Calls.quiet_of_same (specSdB false _ rs sy _ (HD.out _ _ _ RY.out) HSS.out.1 HSS.out.2 HS2.out))))
        go_wp2
        go_ret
        exact ⟨by rw [e.out, HF.out] <;> rfl, below_drewN HB.out _⟩
      · have HS2 := Lib.hid hb2
        have HA2 : Hid (∀ i, i < k + 1 → tpB sy (ts.getD i tp0) = true) := Lib.hid (fun i hi => by
          by_cases e : i = k
          · subst e; rw [← HE.out]; simp only [tpB, hb1, hb2, Bool.and_self]
          · exact HA.out i (by omega))
        clear hb1 hb2
        go_wp2
        go_quiet ((first | (go_at_call 73; exact Calls.quiet_of_same (specSdB true _ ls sy _ (HD.out _ _ _ RX.out) HSS.out.1 HSS.out.2 HS.out)) | (go_at_call 73; exact Calls.quiet_of_same (specSdB true _ rs sy _ (HD.out _ _ _ RY.out) HSS.out.1 HSS.out.2 HS2.out))))
        go_wp2
        go_roundw
        case rel => exact ⟨k + 1, by omega, by go_num, HA2.out, below_drewN HB.out _⟩
        case measure => simp [intOf]; omega
    · obtain rfl : k = ts.length := by omega
      have HF : Hid (tpsB sy ts = true) := Lib.hid (tpsB_true HA.out)
      clear hbel
      go_wp2
      go_ret
      exact ⟨by rw [e.out, HF.out] <;> rfl, HB.out⟩
end Go.Proofs.Ytepdjlhlcjkdkaa.Ints
