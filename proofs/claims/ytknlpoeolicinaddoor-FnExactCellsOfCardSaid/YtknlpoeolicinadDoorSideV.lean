/- Contracts of ValidConfig, of the model and of the program. -/
import Derived.Test.YtknlpoeolicinadDoorSide
namespace Go.Proofs.YtknlpoeolicinadDoor.Ints
open Go.RowKit
set_option linter.unusedVariables false
set_option linter.unusedSimpArgs false
theorem specCellsB (b : Bool) (g : Nat) (sy : Int) (v : Value) (zs : List Int) (w : World) (h : sideB sy zs = b) (hv : Rd w v zs) (a0 : w.cell? ⟨g, 0, none⟩ = some (.int .i64 sy)) (s0 : 0 ≤ sy) (s1 : sy ≤ 1000000) :
    Calls Tryd.prog 96 #[.pointer (some ⟨g, 0, none⟩), v] w fun e w' => e = .returned (.bool b) ∧ ∃ m, w' = w.drewN m := by
  rw [← h]; exact specCells g sy v zs w hv a0 s0 s1
theorem goodB_c {sy st cst : Int} {ls rs : List Int} (h : ¬ (0 ≤ cst ∧ cst < st)) : goodB sy st cst ls rs = false := by
  simp only [goodB, decide_eq_false h, Bool.false_and]
theorem goodB_s {sy st cst : Int} {ls rs : List Int} (h : 0 ≤ cst ∧ cst < st) : goodB sy st cst ls rs = (sideB sy ls && sideB sy rs) := by
  simp only [goodB, decide_eq_true h, Bool.true_and]
set_option maxHeartbeats 4000000 in
theorem specGood (g gc : Nat) (sy st cst : Int) (u v : Value) (ls rs : List Int) (w : World) (hu : Rd w u ls) (hv : Rd w v rs)
    (a0 : w.cell? ⟨g, 0, none⟩ = some (.int .i64 sy)) (a1 : w.cell? ⟨g, 1, none⟩ = some (.int .i64 st))
    (c0 : w.cell? ⟨gc, 0, none⟩ = some (.int .i64 cst)) (c1 : w.cell? ⟨gc, 1, none⟩ = some u) (c2 : w.cell? ⟨gc, 2, none⟩ = some v)
    (s0 : 0 ≤ sy) (s1 : sy ≤ 1000000) (t0 : 0 ≤ st) (t1 : st ≤ 1000000) :
    Calls Tryd.prog 67 #[.pointer (some ⟨g, 0, none⟩), .pointer (some ⟨gc, 0, none⟩)] w fun e w' => e = .returned (.bool (goodB sy st cst ls rs)) ∧ Below w.heap.size w w' := by
  have HU := Lib.hid hu
  have HV := Lib.hid hv
  obtain ⟨_, _, a, c, rfl, _, _⟩ := hu
  obtain ⟨_, _, a', c', rfl, _, _⟩ := hv
  have e1 : IntKind.i64.wrap (st - 1) = st - 1 := by rw [IntKind.wrap_i64]; omega
  have HA0 := Lib.hid a0
  have HD : Hid (∀ n (x : Value) (zs : List Int), Rd w x zs → Rd (w.drewN n) x zs) := Lib.hid (fun n x zs h => h.below (below_drewN (Below.refl _ _) n) (Nat.le_refl _))
  have HSS := Lib.hid (And.intro s0 s1)
  by_cases h1 : 0 ≤ cst ∧ cst ≤ st - 1
  rotate_left
  · have HA1 : Hid (∀ lo hi : Int, lo = 0 → hi = st - 1 → ¬ (lo ≤ cst ∧ cst ≤ hi)) := Lib.hid (fun lo hi e1 e2 => by subst e1; subst e2; exact h1)
    have e := Lib.hid (goodB_c (sy := sy) (ls := ls) (rs := rs) (show ¬ (0 ≤ cst ∧ cst < st) by omega))
    clear h1 s0 s1 t0 t1
    go_enter Tryd.func67, Tryd.ntmps67
    go_wp2
    go_quiet ((go_at_call 60; exact Calls.quiet_of_same (specInN _ _ _ _ (HA1.out _ _ (by decide) rfl))))
    go_wp2
    go_ret
    exact ⟨by rw [e.out] <;> rfl, below_drewN (Below.refl _ _) _⟩
  have HA1 : Hid (∀ lo hi : Int, lo = 0 → hi = st - 1 → lo ≤ cst ∧ cst ≤ hi) := Lib.hid (fun lo hi e1 e2 => by subst e1; subst e2; exact h1)
  have hg := goodB_s (sy := sy) (ls := ls) (rs := rs) (show 0 ≤ cst ∧ cst < st by omega)
  have HG := Lib.hid hg
  clear h1 s0 s1 t0 t1 hg
  rcases eqOr (sideB sy ls) with hb | hb
  · have HB1 := Lib.hid hb
    have e : Hid (goodB sy st cst ls rs = false) := Lib.hid (by rw [HG.out, hb]; rfl)
    clear hb
    go_enter Tryd.func67, Tryd.ntmps67
    go_wp2
    go_quiet ((first | (go_at_call 60; exact Calls.quiet_of_same (specInY _ _ _ _ (HA1.out _ _ (by decide) rfl))) | (go_at_call 96; exact Calls.quiet_of (specCellsB false g sy _ ls _ HB1.out (HD.out _ _ _ HU.out) HA0.out HSS.out.1 HSS.out.2))))
    go_wp2
    go_ret
    exact ⟨by rw [e.out] <;> rfl, below_drewN (Below.refl _ _) _⟩
  have HB1 := Lib.hid hb
  rcases eqOr (sideB sy rs) with hb2 | hb2
  all_goals
    have HB2 := Lib.hid hb2
    have e := Lib.hid (by rw [HG.out, hb, hb2] : goodB sy st cst ls rs = _)
    clear hb hb2
    go_enter Tryd.func67, Tryd.ntmps67
    go_wp2
    go_quiet ((first | (go_at_call 60; exact Calls.quiet_of_same (specInY _ _ _ _ (HA1.out _ _ (by decide) rfl))) | (go_at_call 96; exact Calls.quiet_of (specCellsB true g sy _ ls _ HB1.out (HD.out _ _ _ HU.out) HA0.out HSS.out.1 HSS.out.2)) | (go_at_call 96; exact Calls.quiet_of (specCellsB _ g sy _ rs _ HB2.out (HD.out _ _ _ HV.out) HA0.out HSS.out.1 HSS.out.2))))
    go_wp2
    go_ret
    exact ⟨by rw [e.out] <;> rfl, below_drewN (Below.refl _ _) _⟩
/-- Where the zeros at the end begin. -/
def trE (zs : List Int) : Nat → Nat
  | 0 => 0
  | k + 1 => if zs.getD k 0 = 0 then trE zs k else k + 1
theorem trE_le (zs : List Int) (k : Nat) : trE zs k ≤ k := by
  induction k with
  | zero => exact Nat.le_refl _
  | succ k ih => rw [trE]; split <;> omega
theorem trE_full (zs : List Int) : trE zs zs.length = zs.length ↔ (zs.length = 0 ∨ zs.getD (zs.length - 1) 0 ≠ 0) := by
  cases h : zs.length with
  | zero => simp [trE]
  | succ n =>
    rw [trE]
    by_cases h0 : zs.getD n 0 = 0
    · rw [if_pos h0]
      have := trE_le zs n
      constructor
      · intro h1; omega
      · rintro (h1 | h1)
        · omega
        · exact absurd h0 (by simpa using h1)
    · rw [if_neg h0]
      exact ⟨fun _ => .inr (by simpa using h0), fun _ => rfl⟩
set_option maxHeartbeats 1000000 in
theorem implTrimRd (v : Value) (Z : List Int) (w : World) (h : Rd w v Z) :
    Calls Tryd.prog 74 #[v] w fun e w' => ∃ a c, e = .returned (.slice a (trE Z Z.length) c) ∧ w = w' := by
  obtain ⟨hl, hf, a, c, rfl, hcap, hr⟩ := h
  go_enter Tryd.func74, Tryd.ntmps74
  go_wp2
  go_loop [0] (fun s => ∃ m : Nat, m ≤ Z.length ∧ s = .slice a m c ∧ trE Z Z.length = trE Z m) (fun s => match s with | .slice _ m _ => m | _ => 0)
  case atStart => exact ⟨Z.length, Nat.le_refl _, rfl, rfl⟩
  case round =>
    obtain ⟨m, hm, rfl, he⟩ := hrel
    have HE := Lib.hid he
    clear he
    cases m with
    | zero =>
      go_wp2
      go_ret
      exact ⟨⟨a, c, by rw [HE.out] <;> rfl⟩, rfl⟩
    | succ m =>
      obtain ⟨b, o, rfl, hb, hcell⟩ := hr (by intro h0; rw [h0] at hm; simp at hm)
      obtain ⟨x, hx⟩ : ∃ x, x = Z.getD m 0 := ⟨_, rfl⟩
      have hc : w.cell? ⟨b, o + m, none⟩ = some (.int .i64 x) := by rw [hx]; exact hcell m (by omega)
      have i0 : ((((m + 1 : Nat) : Int)) - 1) = (m : Int) := by omega
      have i1 : (0 : Int) < (((m + 1 : Nat) : Int)) := by omega
      have i2 : (0 : Int) ≤ (m : Int) := by omega
      have i3 : (m : Int) < (((m + 1 : Nat) : Int)) := by omega
      have i4 : IntKind.i64.wrap ((((m + 1 : Nat) : Int)) - 1) = (m : Int) := by rw [IntKind.wrap_i64]; omega
      have i5 : ¬ (c : Int) < (m : Int) := by omega
      by_cases h0 : x = 0
      · have hz : (x == 0) = true := by simp [h0]
        have HS : Hid (trE Z (m + 1) = trE Z m) := Lib.hid (by rw [trE, if_pos (by rw [← hx]; exact h0)])
        clear hx h0 hcell hr
        go_wp2
        go_round
        case rel => exact ⟨m, by omega, by first | rfl | simp, by rw [HE.out, HS.out]⟩
        case measure => simp
      · have hz : (x == 0) = false := by simp [h0]
        have HF : Hid (trE Z Z.length = m + 1) := Lib.hid (by rw [HE.out, trE, if_neg (by rw [← hx]; exact h0)])
        clear hx h0 hcell hr
        go_wp2
        go_ret
        exact ⟨⟨_, _, by rw [HF.out] <;> rfl⟩, rfl⟩
theorem sideB_eq {sy : Int} {zs : List Int} (h : zs.length ≤ 200) : sideB sy zs = (digB sy zs && decide (trE zs zs.length = zs.length)) := by
  by_cases hd : Dig sy zs
  · rw [digB_true hd]
    by_cases ht : trE zs zs.length = zs.length
    · rw [decide_eq_true ht, sideB_true ⟨h, hd, (trE_full zs).1 ht⟩]; rfl
    · rw [decide_eq_false ht, sideB_false (fun H => ht ((trE_full zs).2 H.last))]; rfl
  · rw [digB_false hd, sideB_false (fun H => hd H.dig)]; rfl
set_option maxHeartbeats 2000000 in
theorem implSide (v : Value) (zs : List Int) (sy : Int) (w : World) (hv : Rd w v zs) :
    Calls Tryd.prog 68 #[v, .int .i64 sy] w fun e w' => e = .returned (.bool (sideB sy zs)) ∧ Below w.heap.size w w' := by
  have HV := Lib.hid hv
  obtain ⟨_, _, a, c, rfl, _, _⟩ := hv
  by_cases h1 : zs.length ≤ 200
  rotate_left
  · have hd : decide ((zs.length : Int) ≤ 200) = false := decide_eq_false (by omega)
    have HF : Hid (sideB sy zs = false) := Lib.hid (sideB_false fun H => h1 H.len)
    clear h1
    go_enter Tryd.func68, Tryd.ntmps68
    go_wp2_with fail
    go_ret
    exact ⟨by rw [HF.out] <;> rfl, Below.refl _ _⟩
  have hd : decide ((zs.length : Int) ≤ 200) = true := decide_eq_true (by omega)
  have hs := sideB_eq (sy := sy) h1
  have HS := Lib.hid hs
  clear h1 hs
  obtain ⟨bd, hbd⟩ : ∃ b, b = digB sy zs := ⟨_, rfl⟩
  have HBD := Lib.hid hbd
  clear hbd
  go_enter Tryd.func68, Tryd.ntmps68
  go_wp2_with fail
  refine (areBelow_any _ zs sy _ HV.out).mono ?_
  rintro e w1 ⟨rfl, hb1⟩
  rw [← HBD.out]
  have HB1 := Lib.hid hb1
  clear hb1
  rcases eqOr bd with hb | hb
  · subst hb
    have HF : Hid (sideB sy zs = false) := Lib.hid (by rw [HS.out, ← HBD.out]; rfl)
    go_wp2_with fail
    go_ret
    exact ⟨by rw [HF.out] <;> rfl, HB1.out⟩
  · subst hb
    go_wp2_with fail
    refine (implTrimRd _ zs _ (HV.out.below HB1.out (Nat.le_refl _))).mono ?_
    rintro e w2 ⟨a2, c2, rfl, rfl⟩
    have HF : Hid (sideB sy zs = decide (trE zs zs.length = zs.length)) := Lib.hid (by rw [HS.out, ← HBD.out]; rfl)
    obtain ⟨q, hq⟩ : ∃ q, q = trE zs zs.length := ⟨_, rfl⟩
    rw [← hq] at HF ⊢
    clear hq
    by_cases he : q = zs.length
    · have hz : ((q : Int) == (zs.length : Int)) = true := by simp only [beq_iff_eq]; omega
      have HF2 : Hid (sideB sy zs = true) := Lib.hid (by rw [HF.out, decide_eq_true he])
      clear he
      go_wp2
      go_ret
      exact ⟨by rw [HF2.out] <;> rfl, HB1.out⟩
    · have hz : ((q : Int) == (zs.length : Int)) = false := by simp only [beq_eq_false_iff_ne]; omega
      have HF2 : Hid (sideB sy zs = false) := Lib.hid (by rw [HF.out, decide_eq_false he])
      clear he
      go_wp2
      go_ret
      exact ⟨by rw [HF2.out] <;> rfl, HB1.out⟩
set_option maxHeartbeats 2000000 in
theorem specValidConfig (sy st : Int) (v : Value) (ms : List Ru) (cst : Int) (u : Value) (ls : List Int) (u' : Value) (rs : List Int) (w : World) (hv : RdR w v ms) (hu : Rd w u ls) (hu' : Rd w u' rs) :
    Calls Tryd.prog 30 #[.agg #[.int .i64 sy, .int .i64 st, v], .agg #[.int .i64 cst, u, u']] w fun e w' => e = .returned (.bool (vcB sy st ms cst ls rs)) ∧ Below w.heap.size w w' := by
  have HV := Lib.hid hv
  have HU := Lib.hid hu
  have HU' := Lib.hid hu'
  obtain ⟨_, _, a, c, rfl, _, _⟩ := hv
  obtain ⟨_, _, a1, c1, rfl, _, _⟩ := hu
  obtain ⟨_, _, a2, c2, rfl, _, _⟩ := hu'
  obtain ⟨W0, hW0⟩ : ∃ W, W = (w.alloc (Obj.cells #[.int .i64 sy, .int .i64 st, .slice a ms.length c] 29)).alloc (Obj.cells #[.int .i64 cst, .slice a1 ls.length c1, .slice a2 rs.length c2] 50) := ⟨_, rfl⟩
  have HB : Hid (Below w.heap.size w W0) := Lib.hid (by rw [hW0]; exact ((Below.refl w.heap.size w).alloc (Nat.le_refl _) _).alloc (by simp) _)
  have K1 : Hid (Cels W0 w.heap.size 29 [.int .i64 sy, .int .i64 st, .slice a ms.length c]) := Lib.hid (by rw [hW0]; exact (Cels.new _ _ _).alloc _)
  have K2 : Hid (Cels W0 (w.heap.size + 1) 50 [.int .i64 cst, .slice a1 ls.length c1, .slice a2 rs.length c2]) := Lib.hid (by rw [hW0]; have h := Cels.new (w.alloc (Obj.cells #[.int .i64 sy, .int .i64 st, .slice a ms.length c] 29)) 50 [.int .i64 cst, .slice a1 ls.length c1, .slice a2 rs.length c2]; rw [World.size_alloc] at h; exact h)
  have HW0 := Lib.hid hW0.symm
  clear hW0
  obtain ⟨bm, hbm⟩ : ∃ b, b = machB sy st ms := ⟨_, rfl⟩
  have HM := Lib.hid hbm
  clear hbm
  go_enter Tryd.func30, Tryd.ntmps30
  go_wp2_with fail
  rw [HW0.out]
  refine (specIs w.heap.size sy st _ ms _ (HV.out.below HB.out (Nat.le_refl _)) (K1.out.cell 0 rfl) (K1.out.cell 1 rfl) (K1.out.cell 2 rfl)).mono ?_
  rintro e w1 ⟨rfl, hb1⟩
  rw [← HM.out]
  have K1' := Lib.hid (K1.out.below hb1 K1.out.lt)
  have K2' := Lib.hid (K2.out.below hb1 K2.out.lt)
  have HB1 := Lib.hid (HB.out.trans (hb1.mono HB.out.size))
  clear hb1
  rcases eqOr bm with hb | hb
  · subst hb
    have e := Lib.hid (show vcB sy st ms cst ls rs = false by rw [vcB, ← HM.out]; rfl)
    go_wp2_with fail
    go_ret
    exact ⟨by rw [e.out] <;> rfl, HB1.out⟩
  · subst hb
    have hmo := machB_ok HM.out.symm
    have e := Lib.hid (show vcB sy st ms cst ls rs = goodB sy st cst ls rs by rw [vcB, ← HM.out]; rfl)
    have q0 := hmo.s0
    have q1 := hmo.s1
    have q2 := hmo.t0
    have q3 := hmo.t1
    clear hmo
    go_wp2_with fail
    refine (specGood w.heap.size (w.heap.size + 1) sy st cst _ _ ls rs _ (HU.out.below HB1.out (Nat.le_refl _)) (HU'.out.below HB1.out (Nat.le_refl _)) (K1'.out.cell 0 rfl) (K1'.out.cell 1 rfl) (K2'.out.cell 0 rfl) (K2'.out.cell 1 rfl) (K2'.out.cell 2 rfl) (by omega) (by omega) (by omega) (by omega)).mono ?_
    rintro e2 w2 ⟨rfl, hb2⟩
    have HB2 := Lib.hid (HB1.out.trans (hb2.mono HB1.out.size))
    clear hb2
    rw [← e.out]
    go_wp2
    go_ret
    exact ⟨rfl, HB2.out⟩
set_option maxHeartbeats 4000000 in
theorem implValidConfig (sy st : Int) (v : Value) (ms : List Ru) (cst : Int) (u : Value) (ls : List Int) (u' : Value) (rs : List Int) (w : World) (hv : RdR w v ms) (hu : Rd w u ls) (hu' : Rd w u' rs) (hnr : NoR w) :
    Calls Tryd.prog 32 #[.agg #[.int .i64 sy, .int .i64 st, v], .agg #[.int .i64 cst, u, u']] w fun e w' => e = .returned (.bool (vcB sy st ms cst ls rs)) ∧ Below w.heap.size w w' := by
  have HV := Lib.hid hv
  have HU := Lib.hid hu
  have HU' := Lib.hid hu'
  obtain ⟨_, _, a, c, rfl, _, _⟩ := hv
  obtain ⟨_, _, a1, c1, rfl, _, _⟩ := hu
  obtain ⟨_, _, a2, c2, rfl, _, _⟩ := hu'
  obtain ⟨W0, hW0⟩ : ∃ W, W = (w.alloc (Obj.cells #[.int .i64 sy, .int .i64 st, .slice a ms.length c] 29)).alloc (Obj.cells #[.int .i64 cst, .slice a1 ls.length c1, .slice a2 rs.length c2] 50) := ⟨_, rfl⟩
  have HB : Hid (Below w.heap.size w W0) := Lib.hid (by rw [hW0]; exact ((Below.refl w.heap.size w).alloc (Nat.le_refl _) _).alloc (by simp) _)
  have K1 : Hid (Cels W0 w.heap.size 29 [.int .i64 sy, .int .i64 st, .slice a ms.length c]) := Lib.hid (by rw [hW0]; exact (Cels.new _ _ _).alloc _)
  have K2 : Hid (Cels W0 (w.heap.size + 1) 50 [.int .i64 cst, .slice a1 ls.length c1, .slice a2 rs.length c2]) := Lib.hid (by rw [hW0]; have h := Cels.new (w.alloc (Obj.cells #[.int .i64 sy, .int .i64 st, .slice a ms.length c] 29)) 50 [.int .i64 cst, .slice a1 ls.length c1, .slice a2 rs.length c2]; rw [World.size_alloc] at h; exact h)
  have HW0 := Lib.hid hW0.symm
  have HN := Lib.hid (hnr.below HB.out (Nat.le_refl _))
  clear hW0 hnr
  obtain ⟨bm, hbm⟩ : ∃ b, b = machB sy st ms := ⟨_, rfl⟩
  have HM := Lib.hid hbm
  clear hbm
  go_enter Tryd.func32, Tryd.ntmps32
  go_wp2_with fail
  rw [HW0.out]
  refine (implValidMachine sy st _ ms _ (HV.out.below HB.out (Nat.le_refl _)) HN.out).mono ?_
  rintro e w1 ⟨rfl, hb1⟩
  rw [← HM.out]
  have K1' := Lib.hid (K1.out.below hb1 K1.out.lt)
  have K2' := Lib.hid (K2.out.below hb1 K2.out.lt)
  have HB1 := Lib.hid (HB.out.trans (hb1.mono HB.out.size))
  clear hb1
  rcases eqOr bm with hb | hb
  · subst hb
    have e := Lib.hid (show vcB sy st ms cst ls rs = false by rw [vcB, ← HM.out]; rfl)
    go_wp2_with fail
    go_ret
    exact ⟨by rw [e.out] <;> rfl, HB1.out⟩
  subst hb
  have e := Lib.hid (show vcB sy st ms cst ls rs = goodB sy st cst ls rs by rw [vcB, ← HM.out]; rfl)
  have x0 := K1'.out.cell 0 rfl
  have x1 := K1'.out.cell 1 rfl
  have y0 := K2'.out.cell 0 rfl
  have y1 := K2'.out.cell 1 rfl
  by_cases h1 : 0 ≤ cst
  rotate_left
  · have e3 := Lib.hid (goodB_c (sy := sy) (ls := ls) (rs := rs) (show ¬ (0 ≤ cst ∧ cst < st) by omega))
    go_wp2_with (first | (go_at_call 68; fail) | go_in)
    go_ret
    exact ⟨by rw [e.out, e3.out] <;> rfl, HB1.out⟩
  by_cases h2 : cst < st
  rotate_left
  · have e3 := Lib.hid (goodB_c (sy := sy) (ls := ls) (rs := rs) (show ¬ (0 ≤ cst ∧ cst < st) by omega))
    have hd : decide (cst < st) = false := decide_eq_false h2
    go_wp2_with (first | (go_at_call 68; fail) | go_in)
    go_ret
    exact ⟨by rw [e.out, e3.out] <;> rfl, HB1.out⟩
  have hd : decide (cst < st) = true := decide_eq_true h2
  have e3 := Lib.hid (goodB_s (sy := sy) (ls := ls) (rs := rs) ⟨h1, h2⟩)
  obtain ⟨bl, hbl⟩ : ∃ b, b = sideB sy ls := ⟨_, rfl⟩
  obtain ⟨br, hbr⟩ : ∃ b, b = sideB sy rs := ⟨_, rfl⟩
  have HL := Lib.hid hbl
  have HR := Lib.hid hbr
  clear hbl hbr
  go_wp2_with (go_at_call 63; go_in)
  refine (implSide _ ls sy _ (HU.out.below HB1.out (Nat.le_refl _))).mono ?_
  rintro e2 w2 ⟨rfl, hb2⟩
  rw [← HL.out]
  have K1'' := Lib.hid (K1'.out.below hb2 K1'.out.lt)
  have K2'' := Lib.hid (K2'.out.below hb2 K2'.out.lt)
  have HB2 := Lib.hid (HB1.out.trans (hb2.mono HB1.out.size))
  clear hb2 x0 x1 y0 y1
  rcases eqOr bl with hbl | hbl
  · subst hbl
    have e4 : Hid (vcB sy st ms cst ls rs = false) := Lib.hid (by rw [e.out, e3.out, ← HL.out]; rfl)
    go_wp2_with fail
    go_ret
    exact ⟨by rw [e4.out] <;> rfl, HB2.out⟩
  · subst hbl
    have e4 : Hid (vcB sy st ms cst ls rs = br) := Lib.hid (by rw [e.out, e3.out, ← HL.out, ← HR.out]; rfl)
    have x0 := K1''.out.cell 0 rfl
    have y2 := K2''.out.cell 2 rfl
    go_wp2_with fail
    refine (implSide _ rs sy _ (HU'.out.below HB2.out (Nat.le_refl _))).mono ?_
    rintro e5 w3 ⟨rfl, hb3⟩
    rw [← HR.out]
    have HB3 := Lib.hid (HB2.out.trans (hb3.mono HB2.out.size))
    clear hb3 x0 y2
    rw [← e4.out]
    go_wp2
    go_ret
    exact ⟨rfl, HB3.out⟩
end Go.Proofs.YtknlpoeolicinadDoor.Ints
