/- Contracts of ValidMulti: the parts of the program's. -/
import Derived.Test.YtepdjlhlcjkdkaaVm
import Derived.Test.YtepdjlhlcjkdkaaTrE
import Derived.Deep.RegionHeld3
namespace Go.Proofs.Ytepdjlhlcjkdkaa.Ints
open Go.RowKit
set_option linter.unusedVariables false
set_option linter.unusedSimpArgs false
theorem closMv (x : Int) (b : Bool) (w : World) (h : b = true ↔ ¬ (-1 ≤ x ∧ x ≤ 1)) :
    Calls Try.prog 166 #[.int .i64 x] w fun e w' => e = .returned (.bool b) ∧ w = w' := by
  by_cases h1 : x < -1
  · have HF : Hid (b = true) := Lib.hid (h.2 (by omega))
    clear h
    go_enter Try.func166, Try.ntmps166
    go_wp2
    go_ret
    exact ⟨by rw [HF.out] <;> rfl, rfl⟩
  by_cases h2 : 1 < x
  · have HF : Hid (b = true) := Lib.hid (h.2 (by omega))
    have e1 : decide (x < -1) = false := decide_eq_false h1
    clear h
    go_enter Try.func166, Try.ntmps166
    go_wp2
    go_ret
    exact ⟨by rw [HF.out] <;> rfl, rfl⟩
  · have HF : Hid (b = false) := Lib.hid (by cases b with | false => rfl | true => exact absurd (h.1 rfl) (by omega))
    have e1 : decide (x < -1) = false := decide_eq_false h1
    have e2 : decide (1 < x) = false := decide_eq_false h2
    clear h
    go_enter Try.func166, Try.ntmps166
    go_wp2
    go_ret
    exact ⟨by rw [HF.out] <;> rfl, rfl⟩
set_option maxHeartbeats 1000000 in
theorem indexMv (v : Value) (zs : List Int) (w : World) (h : Rd w v zs) :
    Calls Try.prog 195 #[v, .func (Fn.func 166) #[] #[]] w fun e w' =>
      ∃ r : Int, e = .returned (.int .i64 r) ∧ decide (0 ≤ r) = !betB (-1) 1 zs ∧ w = w' := by
  obtain ⟨hl, hf, a, c, rfl, hcap, hr⟩ := h
  go_enter Try.func195, Try.ntmps195
  go_wp2
  go_loop [8] (fun s => ∃ k : Nat, k ≤ zs.length ∧ s = .int .i64 k ∧ ∀ i, i < k → -1 ≤ zs.getD i 0 ∧ zs.getD i 0 ≤ 1) (fun s => zs.length - (intOf s).toNat)
  case atStart => exact ⟨0, Nat.zero_le _, rfl, fun i hi => by omega⟩
  case round =>
    obtain ⟨k, hk, rfl, hall⟩ := hrel
    have HA := Lib.hid hall
    clear hall
    by_cases hlt : k < zs.length
    · obtain ⟨b, o, rfl, hb, hcell⟩ := hr (by intro h0; rw [h0] at hlt; simp at hlt)
      have hc := hcell k hlt
      obtain ⟨x, hx⟩ : ∃ x, x = zs.getD k 0 := ⟨_, rfl⟩
      rw [← hx] at hc
      have HX := Lib.hid hx
      clear hcell hr hx
      by_cases hg : -1 ≤ x ∧ x ≤ 1
      · have HN : Hid (∀ i, i < k + 1 → -1 ≤ zs.getD i 0 ∧ zs.getD i 0 ≤ 1) := Lib.hid (fun i hi => by
          by_cases he : i = k
          · subst he; rw [← HX.out]; exact hg
          · exact HA.out i (by omega))
        have HG := Lib.hid hg
        clear hg
        go_wp2_with fail
        refine (closMv x false _ ⟨(fun h => by cases h), (fun h => absurd HG.out h)⟩).mono ?_
        rintro e w' ⟨rfl, rfl⟩
        go_wp2
        go_round
        case rel => exact ⟨k + 1, by omega, by go_num, HN.out⟩
        case measure => simp [intOf]; omega
      · have HF : Hid (betB (-1) 1 zs = false) := Lib.hid (betB_false fun H => hg (by rw [HX.out]; exact H k hlt))
        have HG := Lib.hid hg
        clear hg
        go_wp2_with fail
        refine (closMv x true _ ⟨fun _ => HG.out, fun _ => rfl⟩).mono ?_
        rintro e w' ⟨rfl, rfl⟩
        go_wp2
        go_ret
        exact ⟨k, rfl, by rw [HF.out]; simp, rfl⟩
    · have HF : Hid (betB (-1) 1 zs = true) := Lib.hid (betB_true fun i hi => HA.out i (by omega))
      go_wp2
      go_ret
      exact ⟨-1, rfl, by rw [HF.out]; rfl, rfl⟩
theorem containsMv (v : Value) (zs : List Int) (w : World) (h : Rd w v zs) :
    Calls Try.prog 165 #[v, .func (Fn.func 166) #[] #[]] w fun e w' => e = .returned (.bool (!betB (-1) 1 zs)) ∧ w = w' := by
  have H := Lib.hid h
  clear h
  go_enter Try.func165, Try.ntmps165
  go_wp2_with fail
  refine (indexMv _ zs _ H.out).mono ?_
  rintro e w' ⟨r, rfl, hr, rfl⟩
  have HR := Lib.hid hr
  clear hr
  go_wp2
  go_ret
  exact ⟨by rw [← HR.out] <;> rfl, rfl⟩
theorem betB_dig' (sy : Int) (zs : List Int) : betB 0 (sy - 1) zs = digB sy zs := by
  by_cases h : Dig sy zs
  · rw [digB_true h, betB_true fun i hi => by have := h i hi; omega]
  · rw [digB_false h, betB_false fun H => h fun i hi => by have := H i hi; omega]
theorem implHeads (tp sy st : Int) (u : Value) (n : Nat) (a : Option Addr) (c : Nat) (v : Value) (zs : List Int) (w : World) (hu : u = .slice a n c) (h : Rd w v zs) :
    Calls Try.prog 167 #[.agg #[.int .i64 tp, .int .i64 sy, .int .i64 st, u], v] w fun e w' => e = .returned (.bool (rowB tp 0 (sy - 1) zs)) ∧ Below w.heap.size w w' := by
  subst hu
  have H := Lib.hid h
  obtain ⟨_, _, a', c', rfl, _, _⟩ := h
  have HB : Hid (Below w.heap.size w (w.alloc (Obj.cells #[.int .i64 tp, .int .i64 sy, .int .i64 st, .slice a n c] 33))) := Lib.hid ((Below.refl _ _).alloc (Nat.le_refl _) _)
  obtain ⟨b, hb⟩ : ∃ b, b = digB sy zs := ⟨_, rfl⟩
  have HBB := Lib.hid hb
  by_cases hn : (zs.length : Int) = tp
  rotate_left
  · have e1 : ((zs.length : Int) == tp) = false := by simpa using hn
    have HF : Hid (rowB tp 0 (sy - 1) zs = false) := Lib.hid (by rw [rowB, decide_eq_false hn]; rfl)
    clear hn hb
    go_enter Try.func167, Try.ntmps167
    go_wp2_with fail
    go_ret
    exact ⟨by rw [HF.out] <;> rfl, HB.out⟩
  have e1 : ((zs.length : Int) == tp) = true := by simpa using hn
  have HF : Hid (rowB tp 0 (sy - 1) zs = b) := Lib.hid (by rw [rowB, decide_eq_true hn, betB_dig', hb]; rfl)
  clear hn hb
  go_enter Try.func167, Try.ntmps167
  go_wp2_with fail
  refine (areBelow_any _ zs sy _ (H.out.below HB.out (Nat.le_refl _))).mono ?_
  rintro e w1 ⟨rfl, hb1⟩
  rw [← HBB.out]
  have HB1 := Lib.hid (HB.out.trans (hb1.mono HB.out.size))
  clear hb1
  go_wp2
  go_ret
  exact ⟨by rw [HF.out] <;> rfl, HB1.out⟩
theorem isBelowV (n m : Int) (b : Bool) (w : World) (h : b = true ↔ (0 ≤ n ∧ n ≤ m - 1)) : Calls Try.prog 65 #[.int .i64 n, .int .i64 m] w fun e w' => e = .returned (.bool b) ∧ w = w' := by
  by_cases h1 : 0 ≤ n
  rotate_left
  · have HF : Hid (b = false) := Lib.hid (by cases b with | false => rfl | true => exact absurd (h.1 rfl).1 h1)
    have e1 : decide (0 ≤ n) = false := decide_eq_false h1
    clear h
    go_enter Try.func65, Try.ntmps65
    go_wp2
    go_ret
    exact ⟨by rw [HF.out] <;> rfl, rfl⟩
  have e1 : decide (0 ≤ n) = true := decide_eq_true h1
  by_cases h2 : n < m
  · have HF : Hid (b = true) := Lib.hid (h.2 ⟨h1, by omega⟩)
    have e2 : decide (n < m) = true := decide_eq_true h2
    clear h
    go_enter Try.func65, Try.ntmps65
    go_wp2
    go_ret
    exact ⟨by rw [HF.out] <;> rfl, rfl⟩
  · have HF : Hid (b = false) := Lib.hid (by cases b with | false => rfl | true => exact absurd (h.1 rfl).2 (by omega))
    have e2 : decide (n < m) = false := decide_eq_false h2
    clear h
    go_enter Try.func65, Try.ntmps65
    go_wp2
    go_ret
    exact ⟨by rw [HF.out] <;> rfl, rfl⟩
set_option maxHeartbeats 4000000 in
theorem implAllows (tp sy st : Int) (u : Value) (n : Nat) (a : Option Addr) (c : Nat) (m : Mr) (x y z : Value) (w : World) (hu : u = .slice a n c) (hx : Rd w x m.rd) (hy : Rd w y m.wr) (hz : Rd w z m.mv) :
    Calls Try.prog 123 #[.agg #[.int .i64 tp, .int .i64 sy, .int .i64 st, u], .agg #[.int .i64 m.st, x, y, z, .int .i64 m.nx]] w fun e w' => e = .returned (.bool (stB2 st m && rwB tp sy m)) ∧ Below w.heap.size w w' := by
  subst hu
  have HX := Lib.hid hx
  have HY := Lib.hid hy
  have HZ := Lib.hid hz
  obtain ⟨_, _, ax, cx, rfl, _, _⟩ := hx
  obtain ⟨_, _, ay, cy, rfl, _, _⟩ := hy
  obtain ⟨_, _, az, cz, rfl, _, _⟩ := hz
  obtain ⟨s0, t1, t2, t3, s4⟩ := m
  dsimp only at HX HY HZ ⊢
  obtain ⟨W0, hW0⟩ : ∃ W, W = (w.alloc (Obj.cells #[.int .i64 tp, .int .i64 sy, .int .i64 st, .slice a n c] 33)).alloc (Obj.cells #[.int .i64 s0, .slice ax t1.length cx, .slice ay t2.length cy, .slice az t3.length cz, .int .i64 s4] 100) := ⟨_, rfl⟩
  have HB : Hid (Below w.heap.size w W0) := Lib.hid (by rw [hW0]; exact ((Below.refl w.heap.size w).alloc (Nat.le_refl _) _).alloc (by simp) _)
  have K1 : Hid (Cels W0 w.heap.size 33 [.int .i64 tp, .int .i64 sy, .int .i64 st, .slice a n c]) := Lib.hid (by rw [hW0]; exact (Cels.new _ _ _).alloc _)
  have K2 : Hid (Cels W0 (w.heap.size + 1) 100 [.int .i64 s0, .slice ax t1.length cx, .slice ay t2.length cy, .slice az t3.length cz, .int .i64 s4]) := Lib.hid (by rw [hW0]; have h := Cels.new (w.alloc (Obj.cells #[.int .i64 tp, .int .i64 sy, .int .i64 st, .slice a n c] 33)) 100 [.int .i64 s0, .slice ax t1.length cx, .slice ay t2.length cy, .slice az t3.length cz, .int .i64 s4]; rw [World.size_alloc] at h; exact h)
  have HW0 := Lib.hid hW0.symm
  clear hW0
  obtain ⟨bs, hbs⟩ : ∃ b, b = decide (0 ≤ s0 ∧ s0 ≤ st - 1) := ⟨_, rfl⟩
  obtain ⟨bn, hbn⟩ : ∃ b, b = decide (0 ≤ s4 ∧ s4 ≤ st - 1) := ⟨_, rfl⟩
  obtain ⟨b1, hb1⟩ : ∃ b, b = rowB tp 0 (sy - 1) t1 := ⟨_, rfl⟩
  obtain ⟨b2, hb2⟩ : ∃ b, b = rowB tp 0 (sy - 1) t2 := ⟨_, rfl⟩
  obtain ⟨b3, hb3⟩ : ∃ b, b = betB (-1) 1 t3 := ⟨_, rfl⟩
  obtain ⟨b4, hb4⟩ : ∃ b, b = decide ((t3.length : Int) = tp) := ⟨_, rfl⟩
  have HV : Hid ((stB2 st ⟨s0, t1, t2, t3, s4⟩ && rwB tp sy ⟨s0, t1, t2, t3, s4⟩) = ((bs && bn) && (b1 && (b2 && (b4 && b3))))) := Lib.hid (by rw [hbs, hbn, hb1, hb2, hb3, hb4]; rfl)
  have HS := Lib.hid (show bs = true ↔ (0 ≤ s0 ∧ s0 ≤ st - 1) by rw [hbs]; simp)
  have HN := Lib.hid (show bn = true ↔ (0 ≤ s4 ∧ s4 ≤ st - 1) by rw [hbn]; simp)
  have HB1 := Lib.hid hb1
  have HB2 := Lib.hid hb2
  have HB3 := Lib.hid hb3
  have HB4 := Lib.hid hb4
  rw [HV.out]
  clear hbs hbn hb1 hb2 hb3 hb4
  have k10 := K1.out.cell 0 rfl
  have k11 := K1.out.cell 1 rfl
  have k12 := K1.out.cell 2 rfl
  have k13 := K1.out.cell 3 rfl
  have k20 := K2.out.cell 0 rfl
  have k21 := K2.out.cell 1 rfl
  have k22 := K2.out.cell 2 rfl
  have k23 := K2.out.cell 3 rfl
  have k24 := K2.out.cell 4 rfl
  go_enter Try.func123, Try.ntmps123
  go_wp2_with fail
  rw [HW0.out]
  refine (isBelowV s0 st bs _ HS.out).mono ?_
  rintro e w' ⟨rfl, rfl⟩
  rcases eqOr bs with hb | hb
  · subst hb
    go_wp2_with fail
    go_ret
    exact ⟨rfl, HB.out⟩
  subst hb
  go_wp2_with fail
  refine (isBelowV s4 st bn _ HN.out).mono ?_
  rintro e w' ⟨rfl, rfl⟩
  rcases eqOr bn with hb | hb
  · subst hb
    go_wp2_with fail
    go_ret
    exact ⟨rfl, HB.out⟩
  subst hb
  rcases eqOr b4 with hb | hb
  · subst hb
    have e1 : ((t3.length : Int) != tp) = true := by have := HB4.out.symm; simpa using this
    go_wp2_with fail
    go_ret
    exact ⟨by simp, HB.out⟩
  subst hb
  have e1 : ((t3.length : Int) != tp) = false := by have := HB4.out.symm; simpa using this
  go_wp2_with fail
  refine (containsMv _ t3 _ (HZ.out.below HB.out (Nat.le_refl _))).mono ?_
  rintro e w' ⟨rfl, rfl⟩
  rw [← HB3.out]
  rcases eqOr b3 with hb | hb
  · subst hb
    go_wp2_with fail
    go_ret
    exact ⟨by simp, HB.out⟩
  subst hb
  go_wp2_with fail
  refine (implHeads tp sy st _ n a c _ t1 _ rfl (HX.out.below HB.out (Nat.le_refl _))).mono ?_
  rintro e w1 ⟨rfl, hq1⟩
  rw [← HB1.out]
  replace K1 := Lib.hid (K1.out.below hq1 K1.out.lt)
  replace K2 := Lib.hid (K2.out.below hq1 K2.out.lt)
  have HBW := Lib.hid (HB.out.trans (hq1.mono HB.out.size))
  clear hq1 k10 k11 k12 k13 k20 k21 k22 k23 k24
  rcases eqOr b1 with hb | hb
  · subst hb
    go_wp2_with fail
    go_ret
    exact ⟨by simp, HBW.out⟩
  subst hb
  have k10 := K1.out.cell 0 rfl
  have k11 := K1.out.cell 1 rfl
  have k12 := K1.out.cell 2 rfl
  have k13 := K1.out.cell 3 rfl
  have k22 := K2.out.cell 2 rfl
  go_wp2_with fail
  refine (implHeads tp sy st _ n a c _ t2 _ rfl (HY.out.below HBW.out (Nat.le_refl _))).mono ?_
  rintro e w2 ⟨rfl, hq2⟩
  rw [← HB2.out]
  have HBW2 := Lib.hid (HBW.out.trans (hq2.mono HBW.out.size))
  clear hq2 k10 k11 k12 k13 k22
  go_wp2
  go_ret
  exact ⟨by simp, HBW2.out⟩
/-- What two rules are compared by. -/
def crI (a b : Mr) : Int := if a.st < b.st then -1 else if b.st < a.st then 1 else cmpL a.rd b.rd
theorem crI_bef (a b : Mr) : decide (0 ≤ crI a b) = !befB a b := by
  unfold crI
  by_cases h1 : a.st < b.st
  · rw [if_pos h1, befB_yes (.inl h1)]; rfl
  · rw [if_neg h1]
    by_cases h2 : b.st < a.st
    · rw [if_pos h2, befB_no (fun h => by rcases h with h | h <;> omega)]; rfl
    · rw [if_neg h2]
      by_cases h3 : cmpL a.rd b.rd < 0
      · rw [befB_yes (.inr ⟨by omega, h3⟩), decide_eq_false (by omega)]; rfl
      · rw [befB_no (fun h => by rcases h with h | h; exact h1 h; exact h3 h.2), decide_eq_true (by omega)]; rfl
theorem libCmp1 (x y : Int) (w : World) : Calls Try.prog 139 #[.int .i64 x, .int .i64 y] w fun e w' => e = .returned (.int .i64 (if x < y then -1 else if y < x then 1 else 0)) ∧ w = w' := by
  by_cases h1 : x < y
  · rw [if_pos h1]
    go_enter Try.func139, Try.ntmps139
    go_wp2
    go_ret
    exact ⟨rfl, rfl⟩
  · rw [if_neg h1]
    by_cases h2 : y < x
    · rw [if_pos h2]
      go_enter Try.func139, Try.ntmps139
      go_wp2
      go_ret
      exact ⟨rfl, rfl⟩
    · rw [if_neg h2]
      go_enter Try.func139, Try.ntmps139
      go_wp2
      go_ret
      exact ⟨rfl, rfl⟩
theorem libOr2 (g : Nat) (x y : Int) (w : World) (c0 : w.cell? ⟨g, 0, none⟩ = some (.int .i64 x)) (c1 : w.cell? ⟨g, 1, none⟩ = some (.int .i64 y)) :
    Calls Try.prog 138 #[.slice (some ⟨g, 0, none⟩) 2 2] w fun e w' => e = .returned (.int .i64 (if x = 0 then y else x)) ∧ w = w' := by
  by_cases h1 : x = 0
  · have e1 : (x != 0) = false := by simpa using h1
    rw [if_pos h1]
    by_cases h2 : y = 0
    · have e2 : (y != 0) = false := by simpa using h2
      have HY := Lib.hid h2
      clear h1 h2
      go_enter Try.func138, Try.ntmps138
      go_wp2
      refine wp_loop_rounds 3 ?_
      rw [rounds_succ]
      go_wp2
      rw [rounds_succ]
      go_wp2
      rw [rounds_succ]
      go_wp2
      go_ret
      exact ⟨by rw [HY.out] <;> rfl, rfl⟩
    · have e2 : (y != 0) = true := by simpa using h2
      clear h1 h2
      go_enter Try.func138, Try.ntmps138
      go_wp2
      refine wp_loop_rounds 3 ?_
      rw [rounds_succ]
      go_wp2
      rw [rounds_succ]
      go_wp2
      go_ret
      exact ⟨rfl, rfl⟩
  · have e1 : (x != 0) = true := by simpa using h1
    rw [if_neg h1]
    clear h1
    go_enter Try.func138, Try.ntmps138
    go_wp2
    refine wp_loop_rounds 3 ?_
    rw [rounds_succ]
    go_wp2
    go_ret
    exact ⟨rfl, rfl⟩
end Go.Proofs.Ytepdjlhlcjkdkaa.Ints
