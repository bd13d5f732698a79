/- Contracts of ValidConfig, of the model and of the program. -/
import Derived.Test.YteihfohjmjlanaaDoorSide
import Derived.Test.YteihfohjmjlanaaDoorTrE
namespace Go.Proofs.YteihfohjmjlanaaDoor.Ints
open Go.RowKit
set_option linter.unusedVariables false
set_option linter.unusedSimpArgs false
theorem specCellsB (b : Bool) (g : Nat) (sy : Int) (v : Value) (zs : List Int) (w : World) (h : sideB sy zs = b) (hv : Rd w v zs) (a0 : w.cell? ⟨g, 0, none⟩ = some (.int .i64 sy)) (s0 : 0 ≤ sy) (s1 : sy ≤ 1000000) :
    Calls Tryd.prog 80 #[.pointer (some ⟨g, 0, none⟩), v] w fun e w' => e = .returned (.bool b) ∧ ∃ m, w' = w.drewN m := by
  rw [← h]; exact specCells g sy v zs w hv a0 s0 s1
theorem goodB_c {sy st cst : Int} {ls rs : List Int} (h : ¬ (0 ≤ cst ∧ cst < st)) : goodB sy st cst ls rs = false := by
  simp only [goodB, decide_eq_false h, Bool.false_and]
theorem goodB_s {sy st cst : Int} {ls rs : List Int} (h : 0 ≤ cst ∧ cst < st) : goodB sy st cst ls rs = (sideB sy ls && sideB sy rs) := by
  simp only [goodB, decide_eq_true h, Bool.true_and]
set_option maxHeartbeats 4000000 in
theorem specGood (g gc : Nat) (sy st cst : Int) (u v : Value) (ls rs : List Int) (w : World) (hu : Rd w u ls) (hv : Rd w v rs)
    (a0 : w.cell? ⟨g, 0, none⟩ = some (.int .i64 sy)) (a1 : w.cell? ⟨g, 1, none⟩ = some (.int .i64 st))
    (c0 : w.cell? ⟨gc, 0, none⟩ = some (.int .i64 cst)) (c1 : w.cell? ⟨gc, 1, none⟩ = some u) (c2 : w.cell? ⟨gc, 2, none⟩ = some v)
    (s0 : 0 ≤ sy) (s1 : sy ≤ 1000000) (t0 : 0 ≤ st) (t1 : st ≤ 1000000) :
    Calls Tryd.prog 43 #[.pointer (some ⟨g, 0, none⟩), .pointer (some ⟨gc, 0, none⟩)] w fun e w' => e = .returned (.bool (goodB sy st cst ls rs)) ∧ Below w.heap.size w w' := by
  have HU := Lib.hid hu
  have HV := Lib.hid hv
  obtain ⟨_, _, a, c, rfl, _, _⟩ := hu
  obtain ⟨_, _, a', c', rfl, _, _⟩ := hv
  have e1 : IntKind.i64.wrap (st - 1) = st - 1 := by rw [IntKind.wrap_i64]; omega
  have HA0 := Lib.hid a0
  have HD : Hid (∀ n (x : Value) (zs : List Int), Rd w x zs → Rd (w.drewN n) x zs) := Lib.hid (fun n x zs h => h.below (below_drewN (Below.refl _ _) n) (Nat.le_refl _))
  have HSS := Lib.hid (And.intro s0 s1)
  by_cases h1 : 0 ≤ cst ∧ cst ≤ st - 1
  rotate_left
  · have HA1 : Hid (∀ lo hi : Int, lo = 0 → hi = st - 1 → ¬ (lo ≤ cst ∧ cst ≤ hi)) := Lib.hid (fun lo hi e1 e2 => by subst e1; subst e2; exact h1)
    have e := Lib.hid (goodB_c (sy := sy) (ls := ls) (rs := rs) (show ¬ (0 ≤ cst ∧ cst < st) by omega))
    clear h1 s0 s1 t0 t1
    go_enter Tryd.func43, Tryd.ntmps43
    go_wp2
    go_quiet ((go_at_call 72; exact Calls.quiet_of_same (specInN _ _ _ _ (HA1.out _ _ (by decide) rfl))))
    go_wp2
    go_ret
    exact ⟨by rw [e.out] <;> rfl, below_drewN (Below.refl _ _) _⟩
  have HA1 : Hid (∀ lo hi : Int, lo = 0 → hi = st - 1 → lo ≤ cst ∧ cst ≤ hi) := Lib.hid (fun lo hi e1 e2 => by subst e1; subst e2; exact h1)
  have hg := goodB_s (sy := sy) (ls := ls) (rs := rs) (show 0 ≤ cst ∧ cst < st by omega)
  have HG := Lib.hid hg
  clear h1 s0 s1 t0 t1 hg
  rcases eqOr (sideB sy ls) with hb | hb
  · have HB1 := Lib.hid hb
    have e : Hid (goodB sy st cst ls rs = false) := Lib.hid (by rw [HG.out, hb]; rfl)
    clear hb
    go_enter Tryd.func43, Tryd.ntmps43
    go_wp2
    go_quiet ((first | (go_at_call 72; exact Calls.quiet_of_same (specInY _ _ _ _ (HA1.out _ _ (by decide) rfl))) | (go_at_call 80; exact Calls.quiet_of (specCellsB false g sy _ ls _ HB1.out (HD.out _ _ _ HU.out) HA0.out HSS.out.1 HSS.out.2))))
    go_wp2
    go_ret
    exact ⟨by rw [e.out] <;> rfl, below_drewN (Below.refl _ _) _⟩
  have HB1 := Lib.hid hb
  rcases eqOr (sideB sy rs) with hb2 | hb2
  all_goals
    have HB2 := Lib.hid hb2
    have e := Lib.hid (by rw [HG.out, hb, hb2] : goodB sy st cst ls rs = _)
    clear hb hb2
    go_enter Tryd.func43, Tryd.ntmps43
    go_wp2
    go_quiet ((first | (go_at_call 72; exact Calls.quiet_of_same (specInY _ _ _ _ (HA1.out _ _ (by decide) rfl))) | (go_at_call 80; exact Calls.quiet_of (specCellsB true g sy _ ls _ HB1.out (HD.out _ _ _ HU.out) HA0.out HSS.out.1 HSS.out.2)) | (go_at_call 80; exact Calls.quiet_of (specCellsB _ g sy _ rs _ HB2.out (HD.out _ _ _ HV.out) HA0.out HSS.out.1 HSS.out.2))))
    go_wp2
    go_ret
    exact ⟨by rw [e.out] <;> rfl, below_drewN (Below.refl _ _) _⟩
theorem sideB_eq {sy : Int} {zs : List Int} (h : zs.length ≤ 200) : sideB sy zs = (digB sy zs && decide (trE zs zs.length = zs.length)) := by
  by_cases hd : Dig sy zs
  · rw [digB_true hd]
    by_cases ht : trE zs zs.length = zs.length
    · rw [decide_eq_true ht, sideB_true ⟨h, hd, (trE_full zs).1 ht⟩]; rfl
    · rw [decide_eq_false ht, sideB_false (fun H => ht ((trE_full zs).2 H.last))]; rfl
  · rw [digB_false hd, sideB_false (fun H => hd H.dig)]; rfl
set_option maxHeartbeats 2000000 in
theorem implSide (v : Value) (zs : List Int) (sy mo : Int) (w : World) (hv : Rd w v zs) (hmo : mo = 200) :
    Calls Tryd.prog 85 #[v, .int .i64 sy, .int .i64 mo] w fun e w' => e = .returned (.bool (sideB sy zs)) ∧ Below w.heap.size w w' := by
  have HV := Lib.hid hv
  obtain ⟨_, _, a, c, rfl, _, _⟩ := hv
  obtain ⟨bd, hbd⟩ : ∃ b, b = (decide ((zs.length : Int) ≤ mo) && digB sy zs) := ⟨_, rfl⟩
  have HS : Hid (sideB sy zs = (bd && decide (trE zs zs.length = zs.length))) := Lib.hid (by
    rw [hbd]
    by_cases h1 : zs.length ≤ 200
    · rw [sideB_eq h1, decide_eq_true (show (zs.length : Int) ≤ mo by omega)]; rfl
    · rw [sideB_false fun H => h1 H.len, decide_eq_false (show ¬ (zs.length : Int) ≤ mo by omega)]; rfl)
  have HBD := Lib.hid hbd
  clear hbd hmo
  go_enter Tryd.func85, Tryd.ntmps85
  go_wp2_with fail
  refine (implCells _ zs sy mo _ HV.out).mono ?_
  rintro e w1 ⟨rfl, hb1⟩
  rw [← HBD.out]
  have HB1 := Lib.hid hb1
  clear hb1
  rcases eqOr bd with hb | hb
  · subst hb
    have HF : Hid (sideB sy zs = false) := Lib.hid (by rw [HS.out]; rfl)
    go_wp2_with fail
    go_ret
    exact ⟨by rw [HF.out] <;> rfl, HB1.out⟩
  · subst hb
    go_wp2_with fail
    refine (implTrimRd _ zs _ (HV.out.below HB1.out (Nat.le_refl _))).mono ?_
    rintro e w2 ⟨a2, c2, rfl, rfl⟩
    have HF : Hid (sideB sy zs = decide (trE zs zs.length = zs.length)) := Lib.hid (by rw [HS.out]; rfl)
    obtain ⟨q, hq⟩ : ∃ q, q = trE zs zs.length := ⟨_, rfl⟩
    rw [← hq] at HF ⊢
    clear hq
    by_cases he : q = zs.length
    · have hz : ((q : Int) == (zs.length : Int)) = true := by simp only [beq_iff_eq]; omega
      have HF2 : Hid (sideB sy zs = true) := Lib.hid (by rw [HF.out, decide_eq_true he])
      clear he
      go_wp2
      go_ret
      exact ⟨by rw [HF2.out] <;> rfl, HB1.out⟩
    · have hz : ((q : Int) == (zs.length : Int)) = false := by simp only [beq_eq_false_iff_ne]; omega
      have HF2 : Hid (sideB sy zs = false) := Lib.hid (by rw [HF.out, decide_eq_false he])
      clear he
      go_wp2
      go_ret
      exact ⟨by rw [HF2.out] <;> rfl, HB1.out⟩
set_option maxHeartbeats 4000000 in
theorem implValidConfig (sy st : Int) (v : Value) (ms : List Ru) (cst : Int) (u : Value) (ls : List Int) (u' : Value) (rs : List Int) (w : World) (hv : RdR w v ms) (hu : Rd w u ls) (hu' : Rd w u' rs) (hnr : NoR w) :
    Calls Tryd.prog 46 #[.agg #[.int .i64 sy, .int .i64 st, v], .agg #[.int .i64 cst, u, u']] w fun e w' => e = .returned (.bool (vcB sy st ms cst ls rs)) ∧ Below w.heap.size w w' := by
  have HV := Lib.hid hv
  have HU := Lib.hid hu
  have HU' := Lib.hid hu'
  obtain ⟨_, _, a, c, rfl, _, _⟩ := hv
  obtain ⟨_, _, a1, c1, rfl, _, _⟩ := hu
  obtain ⟨_, _, a2, c2, rfl, _, _⟩ := hu'
  obtain ⟨W0, hW0⟩ : ∃ W, W = (w.alloc (Obj.cells #[.int .i64 sy, .int .i64 st, .slice a ms.length c] 40)).alloc (Obj.cells #[.int .i64 cst, .slice a1 ls.length c1, .slice a2 rs.length c2] 42) := ⟨_, rfl⟩
  have HB : Hid (Below w.heap.size w W0) := Lib.hid (by rw [hW0]; exact ((Below.refl w.heap.size w).alloc (Nat.le_refl _) _).alloc (by simp) _)
  have K1 : Hid (Cels W0 w.heap.size 40 [.int .i64 sy, .int .i64 st, .slice a ms.length c]) := Lib.hid (by rw [hW0]; exact (Cels.new _ _ _).alloc _)
  have K2 : Hid (Cels W0 (w.heap.size + 1) 42 [.int .i64 cst, .slice a1 ls.length c1, .slice a2 rs.length c2]) := Lib.hid (by rw [hW0]; have h := Cels.new (w.alloc (Obj.cells #[.int .i64 sy, .int .i64 st, .slice a ms.length c] 40)) 42 [.int .i64 cst, .slice a1 ls.length c1, .slice a2 rs.length c2]; rw [World.size_alloc] at h; exact h)
  have HW0 := Lib.hid hW0.symm
  have HN := Lib.hid (hnr.below HB.out (Nat.le_refl _))
  clear hW0 hnr
  obtain ⟨bm, hbm⟩ : ∃ b, b = machB sy st ms := ⟨_, rfl⟩
  have HM := Lib.hid hbm
  clear hbm
  go_enter Tryd.func46, Tryd.ntmps46
  go_wp2_with fail
  rw [HW0.out]
  refine (implValidMachine sy st _ ms _ (HV.out.below HB.out (Nat.le_refl _)) HN.out).mono ?_
  rintro e w1 ⟨rfl, hb1⟩
  rw [← HM.out]
  have K1' := Lib.hid (K1.out.below hb1 K1.out.lt)
  have K2' := Lib.hid (K2.out.below hb1 K2.out.lt)
  have HB1 := Lib.hid (HB.out.trans (hb1.mono HB.out.size))
  clear hb1
  rcases eqOr bm with hb | hb
  · subst hb
    have e := Lib.hid (show vcB sy st ms cst ls rs = false by rw [vcB, ← HM.out]; rfl)
    go_wp2_with fail
    go_ret
    exact ⟨by rw [e.out] <;> rfl, HB1.out⟩
  subst hb
  have e := Lib.hid (show vcB sy st ms cst ls rs = goodB sy st cst ls rs by rw [vcB, ← HM.out]; rfl)
  have x0 := K1'.out.cell 0 rfl
  have x1 := K1'.out.cell 1 rfl
  have y0 := K2'.out.cell 0 rfl
  have y1 := K2'.out.cell 1 rfl
  by_cases h1 : 0 ≤ cst
  rotate_left
  · have e3 := Lib.hid (goodB_c (sy := sy) (ls := ls) (rs := rs) (show ¬ (0 ≤ cst ∧ cst < st) by omega))
    go_wp2_with (first | (go_at_call 85; fail) | go_in)
    go_ret
    exact ⟨by rw [e.out, e3.out] <;> rfl, HB1.out⟩
  by_cases h2 : cst < st
  rotate_left
  · have e3 := Lib.hid (goodB_c (sy := sy) (ls := ls) (rs := rs) (show ¬ (0 ≤ cst ∧ cst < st) by omega))
    have hd : decide (cst < st) = false := decide_eq_false h2
    go_wp2_with (first | (go_at_call 85; fail) | go_in)
    go_ret
    exact ⟨by rw [e.out, e3.out] <;> rfl, HB1.out⟩
  have hd : decide (cst < st) = true := decide_eq_true h2
  have e3 := Lib.hid (goodB_s (sy := sy) (ls := ls) (rs := rs) ⟨h1, h2⟩)
  obtain ⟨bl, hbl⟩ : ∃ b, b = sideB sy ls := ⟨_, rfl⟩
  obtain ⟨br, hbr⟩ : ∃ b, b = sideB sy rs := ⟨_, rfl⟩
  have HL := Lib.hid hbl
  have HR := Lib.hid hbr
  clear hbl hbr
  go_wp2_with (go_at_call 84; go_in)
  refine (implSide _ ls sy _ _ (HU.out.below HB1.out (Nat.le_refl _)) rfl).mono ?_
  rintro e2 w2 ⟨rfl, hb2⟩
  rw [← HL.out]
  have K1'' := Lib.hid (K1'.out.below hb2 K1'.out.lt)
  have K2'' := Lib.hid (K2'.out.below hb2 K2'.out.lt)
  have HB2 := Lib.hid (HB1.out.trans (hb2.mono HB1.out.size))
  clear hb2 x0 x1 y0 y1
  rcases eqOr bl with hbl | hbl
  · subst hbl
    have e4 : Hid (vcB sy st ms cst ls rs = false) := Lib.hid (by rw [e.out, e3.out, ← HL.out]; rfl)
    go_wp2_with fail
    go_ret
    exact ⟨by rw [e4.out] <;> rfl, HB2.out⟩
  · subst hbl
    have e4 : Hid (vcB sy st ms cst ls rs = br) := Lib.hid (by rw [e.out, e3.out, ← HL.out, ← HR.out]; rfl)
    have x0 := K1''.out.cell 0 rfl
    have y2 := K2''.out.cell 2 rfl
    go_wp2_with fail
    refine (implSide _ rs sy _ _ (HU'.out.below HB2.out (Nat.le_refl _)) rfl).mono ?_
    rintro e5 w3 ⟨rfl, hb3⟩
    rw [← HR.out]
    have HB3 := Lib.hid (HB2.out.trans (hb3.mono HB2.out.size))
    clear hb3 x0 y2
    rw [← e4.out]
    go_wp2
    go_ret
    exact ⟨rfl, HB3.out⟩
theorem vc_small {sy st : Int} {ms : List Ru} {cst : Int} {ls rs : List Int} (h : vcB sy st ms cst ls rs = true) : ls.length ≤ 200 ∧ rs.length ≤ 200 := by
  simp only [vcB, goodB, Bool.and_eq_true, sideB, decide_eq_true_eq] at h
  exact ⟨h.2.2.1.len, h.2.2.2.len⟩
end Go.Proofs.YteihfohjmjlanaaDoor.Ints
