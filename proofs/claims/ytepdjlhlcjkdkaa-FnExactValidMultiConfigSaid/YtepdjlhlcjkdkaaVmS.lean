/- Contracts of ValidMulti: the model's, whole. -/
import Derived.Test.YtepdjlhlcjkdkaaVm
namespace Go.Proofs.Ytepdjlhlcjkdkaa.Ints
open Go.RowKit
set_option linter.unusedVariables false
set_option linter.unusedSimpArgs false
theorem specRowV (b : Bool) (v : Value) (zs : List Int) (n lo hi lo' hi' : Int) (w : World) (hv : Rd w v zs) (e0 : lo = lo') (e1 : hi = hi') (h : rowB n lo' hi' zs = b) :
    Calls Try.prog 119 #[v, .int .i64 n, .int .i64 lo, .int .i64 hi] w fun e w' => e = .returned (.bool b) ∧ ∃ m, w' = w.drewN m := by
  subst e0; subst e1; subst h
  exact specRow v zs n lo hi w hv
theorem mu_at {tp sy st : Int} {ms : List Mr} {k : Nat} (hk : k < ms.length) (h : ¬ (stB2 st (ms.getD k mr0) = true ∧ rwB tp sy (ms.getD k mr0) = true)) : muB tp sy st ms = false := muB_no fun H => h (H.2.a k hk)
set_option maxHeartbeats 16000000 in
set_option maxRecDepth 100000 in
theorem specL06Is (g : Nat) (tp sy st : Int) (v : Value) (ms : List Mr) (w : World) (hv : RdM w v ms) (a0 : w.cell? ⟨g, 0, none⟩ = some (.int .i64 tp)) (a1 : w.cell? ⟨g, 1, none⟩ = some (.int .i64 sy)) (a2 : w.cell? ⟨g, 2, none⟩ = some (.int .i64 st)) (a3 : w.cell? ⟨g, 3, none⟩ = some v) :
    Calls Try.prog 60 #[.pointer (some ⟨g, 0, none⟩)] w fun e w' => e = .returned (.bool (muB tp sy st ms)) ∧ ∃ m, w' = w.drewN m := by
  obtain ⟨hl, a, c, rfl, hcap, hr⟩ := hv
  by_cases h1 : 2 ≤ tp ∧ tp ≤ 3
  rotate_left
  · have HF := Lib.hid (muB_no (tp := tp) (sy := sy) (st := st) (ms := ms) (fun H => h1 H.1.t))
    have H1 := Lib.hid h1
    clear hr h1
    go_enter Try.func60, Try.ntmps60
    go_wp2_with fail
    refine (specInN _ _ _ _ H1.out).mono ?_
    rintro e w1 ⟨rfl, rfl⟩
    go_wp2_with fail
    go_ret
    exact ⟨by rw [HF.out] <;> rfl, 0, rfl⟩
  by_cases h2 : 2 ≤ sy ∧ sy ≤ 3
  rotate_left
  · have HF := Lib.hid (muB_no (tp := tp) (sy := sy) (st := st) (ms := ms) (fun H => h2 H.1.s))
    have H1 := Lib.hid h1
    have H2 := Lib.hid h2
    clear hr h1 h2
    go_enter Try.func60, Try.ntmps60
    go_wp2_with fail
    refine (specInY _ _ _ _ H1.out).mono ?_
    rintro e w1 ⟨rfl, rfl⟩
    go_wp2_with fail
    refine (specInN _ _ _ _ H2.out).mono ?_
    rintro e w1 ⟨rfl, rfl⟩
    go_wp2_with fail
    go_ret
    exact ⟨by rw [HF.out] <;> rfl, 0, rfl⟩
  by_cases h3 : 1 ≤ st ∧ st ≤ 16
  rotate_left
  · have HF := Lib.hid (muB_no (tp := tp) (sy := sy) (st := st) (ms := ms) (fun H => h3 H.1.q))
    have H1 := Lib.hid h1
    have H2 := Lib.hid h2
    have H3 := Lib.hid h3
    clear hr h1 h2 h3
    go_enter Try.func60, Try.ntmps60
    go_wp2_with fail
    refine (specInY _ _ _ _ H1.out).mono ?_
    rintro e w1 ⟨rfl, rfl⟩
    go_wp2_with fail
    refine (specInY _ _ _ _ H2.out).mono ?_
    rintro e w1 ⟨rfl, rfl⟩
    go_wp2_with fail
    refine (specInN _ _ _ _ H3.out).mono ?_
    rintro e w1 ⟨rfl, rfl⟩
    go_wp2_with fail
    go_ret
    exact ⟨by rw [HF.out] <;> rfl, 0, rfl⟩
  have e1 : IntKind.i64.wrap (st - 1) = st - 1 := by rw [IntKind.wrap_i64]; omega
  have e2 : IntKind.i64.wrap (sy - 1) = sy - 1 := by rw [IntKind.wrap_i64]; omega
  have H1 := Lib.hid h1
  have H2 := Lib.hid h2
  have H3 := Lib.hid h3
  clear h1 h2 h3
  by_cases h4 : (60 : Int) < (ms.length : Int)
  · have HF := Lib.hid (muB_no (tp := tp) (sy := sy) (st := st) (ms := ms) (fun H => by have := H.1.n; omega))
    clear hr
    go_enter Try.func60, Try.ntmps60
    go_wp2_with fail
    refine (specInY _ _ _ _ H1.out).mono ?_
    rintro e w1 ⟨rfl, rfl⟩
    go_wp2_with fail
    refine (specInY _ _ _ _ H2.out).mono ?_
    rintro e w1 ⟨rfl, rfl⟩
    go_wp2_with fail
    refine (specInY _ _ _ _ H3.out).mono ?_
    rintro e w1 ⟨rfl, rfl⟩
    go_wp2_with fail
    go_ret
    exact ⟨by rw [HF.out] <;> rfl, 0, rfl⟩
  have HH : Hid (MuHd tp sy st ms.length) := Lib.hid ⟨H1.out, H2.out, H3.out, by omega⟩
  have HA0 := Lib.hid a0
  have HA1 := Lib.hid a1
  have HA2 := Lib.hid a2
  have HA3 := Lib.hid a3
  go_enter Try.func60, Try.ntmps60
  go_wp2_with fail
  refine (specInY _ _ _ _ H1.out).mono ?_
  rintro e w1 ⟨rfl, rfl⟩
  go_wp2_with fail
  refine (specInY _ _ _ _ H2.out).mono ?_
  rintro e w1 ⟨rfl, rfl⟩
  go_wp2_with fail
  refine (specInY _ _ _ _ H3.out).mono ?_
  rintro e w1 ⟨rfl, rfl⟩
  go_wp2_with fail
  clear a0 a1 a2 a3
  go_loopw [3] (fun s wr => ∃ k : Nat, k ≤ ms.length ∧ s = .int .i64 k ∧ MuTo tp sy st ms k ∧ ∃ m, wr = w1.drewN m) (fun s _ => ms.length - (intOf s).toNat)
  case atStart => exact ⟨0, Nat.zero_le _, rfl, ⟨fun i hi => by omega, fun i hi => by omega⟩, 0, rfl⟩
  case round =>
    obtain ⟨k, hk, rfl, hto, hdr⟩ := hrel
    have HTO := Lib.hid hto
    have HDR := Lib.hid hdr
    have hcw : ∀ p : Addr, wr.cell? p = w1.cell? p := fun p => by obtain ⟨m, hm⟩ := hdr; rw [hm]; rfl
    have HBW : Hid (Below w1.heap.size w1 wr) := Lib.hid (by obtain ⟨m, hm⟩ := hdr; rw [hm]; exact below_drewN (Below.refl _ _) _)
    have a0 : wr.cell? ⟨g, 0, none⟩ = some (.int .i64 tp) := by rw [hcw]; exact HA0.out
    have a1 : wr.cell? ⟨g, 1, none⟩ = some (.int .i64 sy) := by rw [hcw]; exact HA1.out
    have a2 : wr.cell? ⟨g, 2, none⟩ = some (.int .i64 st) := by rw [hcw]; exact HA2.out
    have a3 : wr.cell? ⟨g, 3, none⟩ = some (.slice a ms.length c) := by rw [hcw]; exact HA3.out
    have HCW := Lib.hid hcw
    clear hto hdr hcw
    by_cases hlt : k < ms.length
    · obtain ⟨b, o, rfl, hb, hcell⟩ := hr (by intro h0; rw [h0] at hlt; simp at hlt)
      obtain ⟨x, y, z, c0, c1, c2, c3, c4, hx, hy, hz⟩ := hcell k hlt
      obtain ⟨q, hqm⟩ : ∃ q, q = ms.getD k mr0 := ⟨_, rfl⟩
      rw [← hqm] at c0 c4 hx hy hz
      have HAT : Hid (¬ (stB2 st q = true ∧ rwB tp sy q = true) → muB tp sy st ms = false) := Lib.hid (fun h => mu_at hlt (by rw [← hqm]; exact h))
      have HST : Hid (stB2 st q = true → rwB tp sy q = true → (0 < k → Bef (ms.getD (k - 1) mr0) q) → MuTo tp sy st ms (k + 1)) := Lib.hid (fun h h' h'' => HTO.out.step (by rw [← hqm]; exact h) (by rw [← hqm]; exact h') (by rw [← hqm]; exact h''))
      have HBF : Hid (0 < k → ¬ Bef (ms.getD (k - 1) mr0) q → muB tp sy st ms = false) := Lib.hid (fun h0 h => muB_no fun H => h (by
        have := H.2.o (k - 1) (by omega)
        rw [show k - 1 + 1 = k by omega, ← hqm] at this
        exact this))
      obtain ⟨s0, t1, t2, t3, s4⟩ := q
      dsimp only at c0 c4 hx hy hz
      replace c0 := (HCW.out _).trans c0
      replace c1 := (HCW.out _).trans c1
      replace c2 := (HCW.out _).trans c2
      replace c3 := (HCW.out _).trans c3
      replace c4 := (HCW.out _).trans c4
      have HX0 := Lib.hid hx
      have HY0 := Lib.hid hy
      have HZ0 := Lib.hid hz
      have i0 : (0 : Int) ≤ (k : Int) := by omega
      have i1 : (k : Int) < (ms.length : Int) := by omega
      have HCE := Lib.hid hcell
      clear hcell hr hx hy hz hqm
      by_cases hs : 0 ≤ s0 ∧ s0 ≤ st - 1
      rotate_left
      · have HF := Lib.hid (HAT.out (fun h => by have := h.1; simp only [stB2, Bool.and_eq_true, decide_eq_true_eq] at this; exact hs this.1))
        have HS : Hid (∀ lo hi : Int, lo = 0 → hi = st - 1 → ¬ (lo ≤ s0 ∧ s0 ≤ hi)) := Lib.hid (fun lo hi e1 e2 => by subst e1; subst e2; exact hs)
        clear hs
        go_wp2
        go_quiet ((go_at_call 82; exact Calls.quiet_of_same (specInN _ _ _ _ (HS.out _ _ (by decide) rfl))))
        go_wp2
        go_ret
        exact ⟨by rw [HF.out] <;> rfl, drn_step HDR.out _⟩
      by_cases hn : 0 ≤ s4 ∧ s4 ≤ st - 1
      rotate_left
      · have HF := Lib.hid (HAT.out (fun h => by have := h.1; simp only [stB2, Bool.and_eq_true, decide_eq_true_eq] at this; exact hn this.2))
        have HS : Hid (∀ lo hi : Int, lo = 0 → hi = st - 1 → lo ≤ s0 ∧ s0 ≤ hi) := Lib.hid (fun lo hi e1 e2 => by subst e1; subst e2; exact hs)
        have HN : Hid (∀ lo hi : Int, lo = 0 → hi = st - 1 → ¬ (lo ≤ s4 ∧ s4 ≤ hi)) := Lib.hid (fun lo hi e1 e2 => by subst e1; subst e2; exact hn)
        clear hs hn
        go_wp2
        go_quiet ((first | (go_at_call 82; exact Calls.quiet_of_same (specInY _ _ _ _ (HS.out _ _ (by decide) rfl))) | (go_at_call 82; exact Calls.quiet_of_same (specInN _ _ _ _ (HN.out _ _ (by decide) rfl)))))
        go_wp2
        go_ret
        exact ⟨by rw [HF.out] <;> rfl, drn_step HDR.out _⟩
      have HS2 : Hid (stB2 st ⟨s0, t1, t2, t3, s4⟩ = true) := Lib.hid (by simp only [stB2, Bool.and_eq_true, decide_eq_true_eq]; exact ⟨hs, hn⟩)
      have HS : Hid (∀ lo hi : Int, lo = 0 → hi = st - 1 → lo ≤ s0 ∧ s0 ≤ hi) := Lib.hid (fun lo hi e1 e2 => by subst e1; subst e2; exact hs)
      have HN : Hid (∀ lo hi : Int, lo = 0 → hi = st - 1 → lo ≤ s4 ∧ s4 ≤ hi) := Lib.hid (fun lo hi e1 e2 => by subst e1; subst e2; exact hn)
      clear hs hn
      have HRW : Hid (rwB tp sy ⟨s0, t1, t2, t3, s4⟩ = (rowB tp 0 (sy - 1) t1 && (rowB tp 0 (sy - 1) t2 && rowB tp (-1) 1 t3))) := Lib.hid rfl
      go_wp2
      go_quiet ((first | (go_at_call 82; exact Calls.quiet_of_same (specInY _ _ _ _ (HS.out _ _ (by decide) rfl))) | (go_at_call 82; exact Calls.quiet_of_same (specInY _ _ _ _ (HN.out _ _ (by decide) rfl)))))
      obtain ⟨w3, hw3⟩ : ∃ x, x = wr.drewN nq := ⟨_, rfl⟩
      have hc3 : ∀ p : Addr, w3.cell? p = wr.cell? p := fun p => by rw [hw3]; rfl
      have HDR3 : Hid (∃ m, w3 = w1.drewN m) := Lib.hid (by rw [hw3]; exact drn_step HDR.out _)
      have HBW3 : Hid (Below w1.heap.size w1 w3) := Lib.hid (by rw [hw3]; exact below_drewN HBW.out _)
      have HCW3 : Hid (∀ p : Addr, w3.cell? p = w1.cell? p) := Lib.hid (fun p => (hc3 p).trans (HCW.out p))
      rw [← hw3]
      replace a0 := (hc3 _).trans a0
      replace a1 := (hc3 _).trans a1
      replace a2 := (hc3 _).trans a2
      replace a3 := (hc3 _).trans a3
      replace c0 := (hc3 _).trans c0
      replace c1 := (hc3 _).trans c1
      replace c2 := (hc3 _).trans c2
      replace c3 := (hc3 _).trans c3
      replace c4 := (hc3 _).trans c4
      clear hw3 hc3
      have HX : Hid (∀ n, Rd (w3.drewN n) x t1) := Lib.hid (fun n => HX0.out.below (below_drewN HBW3.out n) (Nat.le_refl _))
      have HY : Hid (∀ n, Rd (w3.drewN n) y t2) := Lib.hid (fun n => HY0.out.below (below_drewN HBW3.out n) (Nat.le_refl _))
      have HZ : Hid (∀ n, Rd (w3.drewN n) z t3) := Lib.hid (fun n => HZ0.out.below (below_drewN HBW3.out n) (Nat.le_refl _))
      rcases eqOr (rowB tp 0 (sy - 1) t1) with hb1 | hb1
      · have HB1 := Lib.hid hb1
        have HF := Lib.hid (HAT.out (fun h => by have := h.2; rw [HRW.out, hb1] at this; cases this))
        clear hb1
        go_wp2
        go_quiet ((go_at_call 119; exact Calls.quiet_of (specRowV false _ t1 _ _ _ 0 (sy - 1) _ (HX.out _) (by decide) rfl HB1.out)))
        go_wp2
        go_ret
        exact ⟨by rw [HF.out] <;> rfl, drn_step HDR3.out _⟩
      have HB1 := Lib.hid hb1
      rcases eqOr (rowB tp 0 (sy - 1) t2) with hb2 | hb2
      · have HB2 := Lib.hid hb2
        have HF := Lib.hid (HAT.out (fun h => by have := h.2; rw [HRW.out, hb1, hb2] at this; cases this))
        clear hb1 hb2
        go_wp2
        go_quiet ((first | (go_at_call 119; exact Calls.quiet_of (specRowV true _ t1 _ _ _ 0 (sy - 1) _ (HX.out _) (by decide) rfl HB1.out)) | (go_at_call 119; exact Calls.quiet_of (specRowV false _ t2 _ _ _ 0 (sy - 1) _ (HY.out _) (by decide) rfl HB2.out))))
        go_wp2
        go_ret
        exact ⟨by rw [HF.out] <;> rfl, drn_step HDR3.out _⟩
      have HB2 := Lib.hid hb2
      rcases eqOr (rowB tp (-1) 1 t3) with hb3 | hb3
      · have HB3 := Lib.hid hb3
        have HF := Lib.hid (HAT.out (fun h => by have := h.2; rw [HRW.out, hb1, hb2, hb3] at this; cases this))
        clear hb1 hb2 hb3
        go_wp2
        go_quiet ((first | (go_at_call 119; exact Calls.quiet_of (specRowV true _ t1 _ _ _ 0 (sy - 1) _ (HX.out _) (by decide) rfl HB1.out)) | (go_at_call 119; exact Calls.quiet_of (specRowV true _ t2 _ _ _ 0 (sy - 1) _ (HY.out _) (by decide) rfl HB2.out)) | (go_at_call 119; exact Calls.quiet_of (specRowV false _ t3 _ _ _ (-1) 1 _ (HZ.out _) (by decide) (by decide) HB3.out))))
        go_wp2
        go_ret
        exact ⟨by rw [HF.out] <;> rfl, drn_step HDR3.out _⟩
      have HB3 := Lib.hid hb3
      have HR2 : Hid (rwB tp sy ⟨s0, t1, t2, t3, s4⟩ = true) := Lib.hid (by rw [HRW.out, hb1, hb2, hb3]; rfl)
      clear hb1 hb2 hb3
      go_wp2
      go_quiet ((first | (go_at_call 119; exact Calls.quiet_of (specRowV true _ t1 _ _ _ 0 (sy - 1) _ (HX.out _) (by decide) rfl HB1.out)) | (go_at_call 119; exact Calls.quiet_of (specRowV true _ t2 _ _ _ 0 (sy - 1) _ (HY.out _) (by decide) rfl HB2.out)) | (go_at_call 119; exact Calls.quiet_of (specRowV true _ t3 _ _ _ (-1) 1 _ (HZ.out _) (by decide) (by decide) HB3.out))))
      cases k with
      | zero =>
        have HN2 := Lib.hid (HST.out HS2.out HR2.out (fun h => by omega))
        go_wp2
        go_roundw
        case rel => exact ⟨1, by omega, by go_num, HN2.out, drn_step HDR3.out _⟩
        case measure => simp [intOf]; omega
      | succ j =>
        obtain ⟨x', y', z', d0, d1, d2, d3, d4, hx', hy', hz'⟩ := HCE.out j (by omega)
        obtain ⟨q', hqm'⟩ : ∃ q, q = ms.getD j mr0 := ⟨_, rfl⟩
        rw [← hqm'] at d0 hx'
        have HX' : Hid (∀ n, Rd (w3.drewN n) x' q'.rd) := Lib.hid (fun n => hx'.below (below_drewN HBW3.out n) (Nat.le_refl _))
        replace d0 := (HCW3.out _).trans d0
        replace d1 := (HCW3.out _).trans d1
        have i2 : (((j + 1 : Nat) : Int)) - 1 = (j : Int) := by omega
        have i3 : (0 : Int) < (((j + 1 : Nat) : Int)) := by omega
        have i4 : (0 : Int) < (j : Int) + 1 := by omega
        have i5 : (j : Int) < (ms.length : Int) := by omega
        have i6 : (0 : Int) ≤ (j : Int) := by omega
        have i7 : IntKind.i64.wrap ((((j + 1 : Nat) : Int)) - 1) = (j : Int) := by rw [IntKind.wrap_i64]; omega
        have HBE : Hid (¬ Bef q' ⟨s0, t1, t2, t3, s4⟩ → muB tp sy st ms = false) := Lib.hid (fun h => HBF.out (by omega) (by show ¬ Bef (ms.getD j mr0) _; rw [← hqm']; exact h))
        have HSE : Hid (Bef q' ⟨s0, t1, t2, t3, s4⟩ → MuTo tp sy st ms (j + 1 + 1)) := Lib.hid (fun h => HST.out HS2.out HR2.out (fun _ => by show Bef (ms.getD j mr0) _; rw [← hqm']; exact h))
        clear hx' hy' hz' hqm' d2 d3 d4
        obtain ⟨bf, hbf⟩ : ∃ x, x = befB q' ⟨s0, t1, t2, t3, s4⟩ := ⟨_, rfl⟩
        have HBB := Lib.hid hbf
        clear hbf
        have D0 := Lib.hid d0
        have D1 := Lib.hid d1
        have C0 := Lib.hid c0
        have C1 := Lib.hid c1
        go_wp2_with fail
        refine (specBefore bf b (o + j * 5) b (o + (j + 1) * 5) q' ⟨s0, t1, t2, t3, s4⟩ _ _ _ (HX'.out _) (HX.out _) D0.out D1.out C0.out C1.out HBB.out.symm).mono ?_
        rintro e w2 ⟨rfl, hw2⟩
        have HW2 : Hid (∃ m, w2 = w1.drewN m) := Lib.hid (by obtain ⟨m, rfl⟩ := hw2; exact drn_step (drn_step HDR3.out _) _)
        clear hw2
        rcases eqOr bf with hbo | hbo
        · subst hbo
          have HF := Lib.hid (HBE.out (fun h => by have := HBB.out; rw [befB_yes h] at this; cases this))
          go_wp2
          go_ret
          exact ⟨by rw [HF.out] <;> rfl, HW2.out⟩
        · subst hbo
          have HN2 := Lib.hid (HSE.out (befB_iff.1 HBB.out.symm))
          go_wp2
          go_roundw
          case rel => exact ⟨j + 1 + 1, by omega, by go_num, HN2.out, HW2.out⟩
          case measure => simp [intOf]; omega
    · obtain rfl : k = ms.length := by omega
      have HF := Lib.hid (muB_yes (tp := tp) (sy := sy) (st := st) (ms := ms) ⟨HH.out, HTO.out⟩)
      clear hr
      have hnlt : ¬ ((ms.length : Int) < (ms.length : Int)) := by omega
      go_wp2
      go_ret
      exact ⟨by rw [HF.out] <;> rfl, HDR.out⟩
end Go.Proofs.Ytepdjlhlcjkdkaa.Ints
