/- Counters read from texts, of the model. -/
import Derived.Test.YtbifkjmmhfnblaaDoorSpl
import Derived.Test.YtbifkjmmhfnblaaDoorRdD
import Derived.Test.YtbifkjmmhfnblaaDoorCtT
namespace Go.Proofs.YtbifkjmmhfnblaaDoor.Ints
open Go.RowKit
set_option linter.unusedVariables false
set_option linter.unusedSimpArgs false
theorem join_pcs (c : UInt8) (l : List UInt8) : Lib.join (pcs c l) [c] = l := by
  refine snocRec (P := fun l => Lib.join (pcs c l) [c] = l) ?_ ?_ l
  · simp [pcs, pcRun, Lib.join_one]
  · intro l x ih
    unfold pcs at ih ⊢
    rw [pcRun_snoc, pcStep]
    split
    · rename_i hx
      subst hx
      dsimp only
      rw [join_snoc _ _ _ (by simp), ih]; simp
    · dsimp only
      by_cases h0 : (pcRun c l).1 = []
      · rw [h0] at ih ⊢
        simp only [List.nil_append, Lib.join_one] at ih ⊢
        rw [ih]
      · rw [join_snoc _ _ _ h0] at ih ⊢
        rw [← List.append_assoc, ih]
/-- Three numbers between colons, within the bounds. -/
def rkOk (ts : List (List UInt8)) : Prop := ts.length = 3 ∧ (∀ j, j < 3 → NumOk (ts.getD j [])) ∧ valB (valL (ts.getD 0 [])) (valL (ts.getD 1 [])) (valL (ts.getD 2 [])) = true
open Classical in
noncomputable def rkB (l : List UInt8) : Bool := decide (rkOk (pcs 58 l))
open Classical in
noncomputable def rkX (l : List UInt8) (j : Nat) : Int := if rkOk (pcs 58 l) then valL ((pcs 58 l).getD j []) else 0
theorem rk_bad {l : List UInt8} (h : ¬ rkOk (pcs 58 l)) : rkB l = false ∧ ∀ j, rkX l j = 0 := by simp [rkB, rkX, h]
theorem rk_good {l : List UInt8} (h : rkOk (pcs 58 l)) : rkB l = true ∧ ∀ j, rkX l j = valL ((pcs 58 l).getD j []) := by simp [rkB, rkX, h]
theorem rk_text {l a b c : List UInt8} (h : pcs 58 l = [a, b, c]) (ha : NumOk a) (hb : NumOk b) (hc : NumOk c) : ctT (valL a) (valL b) (valL c) = l := by
  rw [← ctJoin, itoa_valL ha, itoa_valL hb, itoa_valL hc, ← h, join_pcs]
theorem rk_empty {l a b c : List UInt8} (h : pcs 58 l = [a, b, c]) : l ≠ [] := fun e => by subst e; simp [pcs, pcRun] at h
set_option maxHeartbeats 8000000 in
theorem specReadCt (s : ByteArray) (w : World) (hs : s.size ≤ 1048576) :
    Calls Tryd.prog 14 #[.string s] w fun e w' => e = .returned (.tuple #[.agg #[.int .i64 (rkX s.data.toList 0), .int .i64 (rkX s.data.toList 1), .int .i64 (rkX s.data.toList 2)], .bool (rkB s.data.toList)]) ∧ Below w.heap.size w w' := by
  obtain ⟨l, hl⟩ : ∃ l, l = s.data.toList := ⟨_, rfl⟩
  rw [← hl]
  have HL := Lib.hid hl
  obtain ⟨ts, hts⟩ : ∃ ts, ts = pcs 58 l := ⟨_, rfl⟩
  have HTs := Lib.hid hts
  have HPz : Hid (∀ j, j < ts.length → (ts.getD j []).length ≤ 1048576) := Lib.hid (fun j hj => by
    have := pcs_piece 58 l (ts.getD j []) (by rw [← hts, List.getD_eq_getElem?_getD, List.getElem?_eq_getElem hj]; exact List.getElem_mem hj)
    have h2 := Lib.size_eq s
    rw [hl] at this
    omega)
  obtain ⟨W0, hW0⟩ : ∃ W, W = w.alloc (Obj.cells #[.int .i64 0, .int .i64 0, .int .i64 0] 29) := ⟨_, rfl⟩
  have HB0 : Hid (Below w.heap.size w W0) := Lib.hid (by rw [hW0]; exact (Below.refl w.heap.size w).alloc (Nat.le_refl _) _)
  have K1 : Hid (Cels W0 w.heap.size 29 [.int .i64 0, .int .i64 0, .int .i64 0]) := Lib.hid (by rw [hW0]; exact Cels.new _ _ _)
  have HW0 := Lib.hid hW0.symm
  have HSp := Lib.hid (specSplit s 58 58 rfl W0 hs)
  clear hl hts hW0
  go_enter Tryd.func14, Tryd.ntmps14
  go_wp2_with fail
  rw [HW0.out]
  refine HSp.out.mono ?_
  rintro e w1 ⟨u, rfl, hr, hb1⟩
  rw [← HL.out, ← HTs.out] at hr
  obtain ⟨b, c, rfl, hcap, hbl, hcell⟩ := hr
  have HC := Lib.hid hcell
  have HB1 := Lib.hid (HB0.out.trans (hb1.mono HB0.out.size))
  have K2 := Lib.hid (K1.out.below hb1 K1.out.lt)
  clear hcell hb1
  by_cases h3 : ts.length = 3
  rotate_left
  · have HF := Lib.hid (rk_bad (l := l) (fun h => h3 (by rw [HTs.out]; exact h.1)))
    have e3 : ((ts.length : Int) == 3) = false := by rw [beq_eq_false_iff_ne]; omega
    clear h3
    obtain ⟨f1, f2, f3, f4, f5, f6, f7⟩ := put3 K2.out (.int .i64 0) (.int .i64 0) (.int .i64 0)
    have F7 := Lib.hid f7
    clear f7
    go_wp2
    have f7 := F7.out
    obtain ⟨Wf, hWf⟩ : ∃ Wf, Wf = ((w1.setCell ⟨w.heap.size, 0, none⟩ (.int .i64 0)).setCell ⟨w.heap.size, 1, none⟩ (.int .i64 0)).setCell ⟨w.heap.size, 2, none⟩ (.int .i64 0) := ⟨_, rfl⟩
    have hB : Below w.heap.size w Wf := by rw [hWf]; exact below_set (below_set (below_set HB1.out (Nat.le_refl _) _ _) (Nat.le_refl _) _ _) (Nat.le_refl _) _ _
    rw [← hWf] at f7 ⊢
    have z0 := f7.cell 0 rfl
    have z1 := f7.cell 1 rfl
    have z2 := f7.cell 2 rfl
    clear f1 f2 f3 f4 f5 f6 hWf
    refine bodyPost_ret (v := .tuple #[.agg #[.int .i64 0, .int .i64 0, .int .i64 0], .bool false]) (by simp [results, Tryd.f14, go_sem, z0, z1, z2]) rfl ⟨?_, hB⟩
    rw [HF.out.1, HF.out.2 0, HF.out.2 1, HF.out.2 2]
  obtain ⟨t0, t1, t2, rfl⟩ : ∃ a b c, ts = [a, b, c] := by
    match ts, h3 with
    | [a, b, c], _ => exact ⟨a, b, c, rfl⟩
  have HBx1 := Lib.hid (Below.refl w1.heap.size w1)
  have hcc := HC.out
  have H0 : Hid (∀ W, Below w1.heap.size w1 W → W.cell? ⟨b, 0, none⟩ = some (.string (bs t0))) := Lib.hid (fun W hW => (hW.cell hbl).trans (hcc 0 (by simp)))
  have H1 : Hid (∀ W, Below w1.heap.size w1 W → W.cell? ⟨b, 1, none⟩ = some (.string (bs t1))) := Lib.hid (fun W hW => (hW.cell hbl).trans (hcc 1 (by simp)))
  have H2 : Hid (∀ W, Below w1.heap.size w1 W → W.cell? ⟨b, 2, none⟩ = some (.string (bs t2))) := Lib.hid (fun W hW => (hW.cell hbl).trans (hcc 2 (by simp)))
  have hpz := HPz.out
  have HS0 : Hid ((bs t0).size ≤ 1048576) := Lib.hid (by rw [bs_size]; exact hpz 0 (by simp))
  have HS1 : Hid ((bs t1).size ≤ 1048576) := Lib.hid (by rw [bs_size]; exact hpz 1 (by simp))
  have HS2 : Hid ((bs t2).size ≤ 1048576) := Lib.hid (by rw [bs_size]; exact hpz 2 (by simp))
  have HOk : Hid (rkOk (pcs 58 l) ↔ (NumOk t0 ∧ NumOk t1 ∧ NumOk t2) ∧ valB (valL t0) (valL t1) (valL t2) = true) := Lib.hid (by
    rw [← HTs.out]
    constructor
    · rintro ⟨_, h, hv⟩
      exact ⟨⟨h 0 (by decide), h 1 (by decide), h 2 (by decide)⟩, hv⟩
    · rintro ⟨⟨a0, a1, a2⟩, hv⟩
      refine ⟨rfl, fun j hj => ?_, hv⟩
      match j, hj with
      | 0, _ => exact a0
      | 1, _ => exact a1
      | 2, _ => exact a2)
  have HVal : Hid (∀ j, valL ((pcs 58 l).getD j []) = valL ([t0, t1, t2].getD j [])) := Lib.hid (fun j => by rw [← HTs.out])
  clear hcc hpz h3
  obtain ⟨n0, hn0⟩ : ∃ n, n = numV (bs t0).data.toList := ⟨_, rfl⟩
  obtain ⟨q0, hq0⟩ : ∃ n, n = numB (bs t0).data.toList := ⟨_, rfl⟩
  have HN0 := Lib.hid hn0
  have HQ0 := Lib.hid hq0
  have HY0 : Hid (q0 = true → NumOk t0 ∧ n0 = valL t0) := Lib.hid (fun hq => by
    rw [hq0, bs_list] at hq
    rcases Classical.em (NumOk t0) with h | h
    · exact ⟨h, by rw [hn0, bs_list, (num_yes h).2]⟩
    · rw [(num_no h).1] at hq; cases hq)
  have HX0 : Hid (q0 = false → ¬ NumOk t0) := Lib.hid (fun hq h => by rw [hq0, bs_list, (num_yes h).1] at hq; cases hq)
  clear hn0 hq0
  obtain ⟨n1, hn1⟩ : ∃ n, n = numV (bs t1).data.toList := ⟨_, rfl⟩
  obtain ⟨q1, hq1⟩ : ∃ n, n = numB (bs t1).data.toList := ⟨_, rfl⟩
  have HN1 := Lib.hid hn1
  have HQ1 := Lib.hid hq1
  have HY1 : Hid (q1 = true → NumOk t1 ∧ n1 = valL t1) := Lib.hid (fun hq => by
    rw [hq1, bs_list] at hq
    rcases Classical.em (NumOk t1) with h | h
    · exact ⟨h, by rw [hn1, bs_list, (num_yes h).2]⟩
    · rw [(num_no h).1] at hq; cases hq)
  have HX1 : Hid (q1 = false → ¬ NumOk t1) := Lib.hid (fun hq h => by rw [hq1, bs_list, (num_yes h).1] at hq; cases hq)
  clear hn1 hq1
  obtain ⟨n2, hn2⟩ : ∃ n, n = numV (bs t2).data.toList := ⟨_, rfl⟩
  obtain ⟨q2, hq2⟩ : ∃ n, n = numB (bs t2).data.toList := ⟨_, rfl⟩
  have HN2 := Lib.hid hn2
  have HQ2 := Lib.hid hq2
  have HY2 : Hid (q2 = true → NumOk t2 ∧ n2 = valL t2) := Lib.hid (fun hq => by
    rw [hq2, bs_list] at hq
    rcases Classical.em (NumOk t2) with h | h
    · exact ⟨h, by rw [hn2, bs_list, (num_yes h).2]⟩
    · rw [(num_no h).1] at hq; cases hq)
  have HX2 : Hid (q2 = false → ¬ NumOk t2) := Lib.hid (fun hq h => by rw [hq2, bs_list, (num_yes h).1] at hq; cases hq)
  clear hn2 hq2
  have HBx := HB1
  have hc0 : w1.cell? ⟨b, 0, none⟩ = some (.string (bs t0)) := H0.out _ HBx1.out
  go_wp2_with fail
  refine (specNumber (bs t0) _ HS0.out).mono ?_
  rintro e w2 ⟨rfl, bb⟩
  rw [← HN0.out, ← HQ0.out]
  have HBy := Lib.hid (HBx.out.trans (bb.mono HBx.out.size))
  have HBy1 := Lib.hid (HBx1.out.trans (bb.mono HBx1.out.size))
  have K3 := Lib.hid (K2.out.below bb K2.out.lt)
  clear bb hc0
  have hc1 : w2.cell? ⟨b, 1, none⟩ = some (.string (bs t1)) := H1.out _ HBy1.out
  go_wp2_with fail
  refine (specNumber (bs t1) _ HS1.out).mono ?_
  rintro e w3 ⟨rfl, bb⟩
  rw [← HN1.out, ← HQ1.out]
  have HBz := Lib.hid (HBy.out.trans (bb.mono HBy.out.size))
  have HBz1 := Lib.hid (HBy1.out.trans (bb.mono HBy1.out.size))
  have K4 := Lib.hid (K3.out.below bb K3.out.lt)
  clear bb hc1
  have hc2 : w3.cell? ⟨b, 2, none⟩ = some (.string (bs t2)) := H2.out _ HBz1.out
  go_wp2_with fail
  refine (specNumber (bs t2) _ HS2.out).mono ?_
  rintro e w4 ⟨rfl, bb⟩
  rw [← HN2.out, ← HQ2.out]
  have HBu := Lib.hid (HBz.out.trans (bb.mono HBz.out.size))
  have HBu1 := Lib.hid (HBz1.out.trans (bb.mono HBz1.out.size))
  have K5 := Lib.hid (K4.out.below bb K4.out.lt)
  clear bb hc2
  have K6 : Hid (Cels (w4.alloc (Obj.cells #[.int .i64 n0, .int .i64 n1, .int .i64 n2] 29)) w.heap.size 29 [.int .i64 0, .int .i64 0, .int .i64 0]) := Lib.hid (K5.out.alloc _)
  have KC : Hid (Cels (w4.alloc (Obj.cells #[.int .i64 n0, .int .i64 n1, .int .i64 n2] 29)) w4.heap.size 29 [.int .i64 n0, .int .i64 n1, .int .i64 n2]) := Lib.hid (Cels.new _ _ _)
  have HB6 : Hid (Below w.heap.size w (w4.alloc (Obj.cells #[.int .i64 n0, .int .i64 n1, .int .i64 n2] 29))) := Lib.hid (HBu.out.alloc HBu.out.size _)
  have HBad : Hid (¬ ((NumOk t0 ∧ NumOk t1 ∧ NumOk t2) ∧ valB (valL t0) (valL t1) (valL t2) = true) → rkB l = false ∧ ∀ j, rkX l j = 0) := Lib.hid (fun h => rk_bad (fun h2 => h (HOk.out.1 h2)))
  rcases eqOr q0 with hb | hb
  · have HF := Lib.hid (HBad.out (fun h => HX0.out hb h.1.1))
    subst hb
    obtain ⟨f1, f2, f3, f4, f5, f6, f7⟩ := put3 K6.out (.int .i64 0) (.int .i64 0) (.int .i64 0)
    have F7 := Lib.hid f7
    clear f7
    go_wp2
    have f7 := F7.out
    obtain ⟨Wf, hWf⟩ : ∃ Wf, Wf = (((w4.alloc (Obj.cells #[.int .i64 n0, .int .i64 n1, .int .i64 n2] 29)).setCell ⟨w.heap.size, 0, none⟩ (.int .i64 0)).setCell ⟨w.heap.size, 1, none⟩ (.int .i64 0)).setCell ⟨w.heap.size, 2, none⟩ (.int .i64 0) := ⟨_, rfl⟩
    have hB : Below w.heap.size w Wf := by rw [hWf]; exact below_set (below_set (below_set HB6.out (Nat.le_refl _) _ _) (Nat.le_refl _) _ _) (Nat.le_refl _) _ _
    rw [← hWf] at f7 ⊢
    have z0 := f7.cell 0 rfl
    have z1 := f7.cell 1 rfl
    have z2 := f7.cell 2 rfl
    clear f1 f2 f3 f4 f5 f6 hWf
    refine bodyPost_ret (v := .tuple #[.agg #[.int .i64 0, .int .i64 0, .int .i64 0], .bool false]) (by simp [results, Tryd.f14, go_sem, z0, z1, z2]) rfl ⟨?_, hB⟩
    rw [HF.out.1, HF.out.2 0, HF.out.2 1, HF.out.2 2]
  have HY0' := Lib.hid (HY0.out hb)
  subst hb
  rcases eqOr q1 with hb | hb
  · have HF := Lib.hid (HBad.out (fun h => HX1.out hb h.1.2.1))
    subst hb
    obtain ⟨f1, f2, f3, f4, f5, f6, f7⟩ := put3 K6.out (.int .i64 0) (.int .i64 0) (.int .i64 0)
    have F7 := Lib.hid f7
    clear f7
    go_wp2
    have f7 := F7.out
    obtain ⟨Wf, hWf⟩ : ∃ Wf, Wf = (((w4.alloc (Obj.cells #[.int .i64 n0, .int .i64 n1, .int .i64 n2] 29)).setCell ⟨w.heap.size, 0, none⟩ (.int .i64 0)).setCell ⟨w.heap.size, 1, none⟩ (.int .i64 0)).setCell ⟨w.heap.size, 2, none⟩ (.int .i64 0) := ⟨_, rfl⟩
    have hB : Below w.heap.size w Wf := by rw [hWf]; exact below_set (below_set (below_set HB6.out (Nat.le_refl _) _ _) (Nat.le_refl _) _ _) (Nat.le_refl _) _ _
    rw [← hWf] at f7 ⊢
    have z0 := f7.cell 0 rfl
    have z1 := f7.cell 1 rfl
    have z2 := f7.cell 2 rfl
    clear f1 f2 f3 f4 f5 f6 hWf
    refine bodyPost_ret (v := .tuple #[.agg #[.int .i64 0, .int .i64 0, .int .i64 0], .bool false]) (by simp [results, Tryd.f14, go_sem, z0, z1, z2]) rfl ⟨?_, hB⟩
    rw [HF.out.1, HF.out.2 0, HF.out.2 1, HF.out.2 2]
  have HY1' := Lib.hid (HY1.out hb)
  subst hb
  rcases eqOr q2 with hb | hb
  · have HF := Lib.hid (HBad.out (fun h => HX2.out hb h.1.2.2))
    subst hb
    obtain ⟨f1, f2, f3, f4, f5, f6, f7⟩ := put3 K6.out (.int .i64 0) (.int .i64 0) (.int .i64 0)
    have F7 := Lib.hid f7
    clear f7
    go_wp2
    have f7 := F7.out
    obtain ⟨Wf, hWf⟩ : ∃ Wf, Wf = (((w4.alloc (Obj.cells #[.int .i64 n0, .int .i64 n1, .int .i64 n2] 29)).setCell ⟨w.heap.size, 0, none⟩ (.int .i64 0)).setCell ⟨w.heap.size, 1, none⟩ (.int .i64 0)).setCell ⟨w.heap.size, 2, none⟩ (.int .i64 0) := ⟨_, rfl⟩
    have hB : Below w.heap.size w Wf := by rw [hWf]; exact below_set (below_set (below_set HB6.out (Nat.le_refl _) _ _) (Nat.le_refl _) _ _) (Nat.le_refl _) _ _
    rw [← hWf] at f7 ⊢
    have z0 := f7.cell 0 rfl
    have z1 := f7.cell 1 rfl
    have z2 := f7.cell 2 rfl
    clear f1 f2 f3 f4 f5 f6 hWf
    refine bodyPost_ret (v := .tuple #[.agg #[.int .i64 0, .int .i64 0, .int .i64 0], .bool false]) (by simp [results, Tryd.f14, go_sem, z0, z1, z2]) rfl ⟨?_, hB⟩
    rw [HF.out.1, HF.out.2 0, HF.out.2 1, HF.out.2 2]
  have HY2' := Lib.hid (HY2.out hb)
  subst hb
  have k0 := KC.out.cell 0 rfl
  have k1 := KC.out.cell 1 rfl
  have k2 := KC.out.cell 2 rfl
  have hctv := specCtText n0 n1 n2
  obtain ⟨tx, htx⟩ : ∃ t, t = bs (ctV n0 n1 n2) := ⟨_, rfl⟩
  rw [← htx] at hctv
  have HCT := Lib.hid hctv
  have HTx := Lib.hid htx
  clear hctv htx
  go_wp2_with fail
  refine (HCT.out _).mono ?_
  rintro e w6 ⟨rfl, bb⟩
  have K7 := Lib.hid (K6.out.below bb K6.out.lt)
  have KD := Lib.hid (KC.out.below bb KC.out.lt)
  have HB7 := Lib.hid (HB6.out.trans (bb.mono HB6.out.size))
  clear bb k0 k1 k2
  by_cases hv : valB (valL t0) (valL t1) (valL t2) = true
  rotate_left
  · have HF := Lib.hid (HBad.out (fun h => hv h.2))
    have hne : (tx.toList == s.toList) = false := by
      rw [HTx.out, ctV, HY0'.out.2, HY1'.out.2, HY2'.out.2, if_neg hv]
      have h2 := rk_empty HTs.out.symm
      rw [beq_eq_false_iff_ne]
      intro e
      apply h2
      rw [HL.out, ← Lib.toList_data, ← e]
      simp
    have hne' : ¬ tx.toList = s.toList := by simpa using hne
    clear hv
    obtain ⟨f1, f2, f3, f4, f5, f6, f7⟩ := put3 K7.out (.int .i64 0) (.int .i64 0) (.int .i64 0)
    have F7 := Lib.hid f7
    clear f7
    go_wp2
    have f7 := F7.out
    obtain ⟨Wf, hWf⟩ : ∃ Wf, Wf = ((w6.setCell ⟨w.heap.size, 0, none⟩ (.int .i64 0)).setCell ⟨w.heap.size, 1, none⟩ (.int .i64 0)).setCell ⟨w.heap.size, 2, none⟩ (.int .i64 0) := ⟨_, rfl⟩
    have hB : Below w.heap.size w Wf := by rw [hWf]; exact below_set (below_set (below_set HB7.out (Nat.le_refl _) _ _) (Nat.le_refl _) _ _) (Nat.le_refl _) _ _
    rw [← hWf] at f7 ⊢
    have z0 := f7.cell 0 rfl
    have z1 := f7.cell 1 rfl
    have z2 := f7.cell 2 rfl
    clear f1 f2 f3 f4 f5 f6 hWf
    refine bodyPost_ret (v := .tuple #[.agg #[.int .i64 0, .int .i64 0, .int .i64 0], .bool false]) (by simp [results, Tryd.f14, go_sem, z0, z1, z2]) rfl ⟨?_, hB⟩
    rw [HF.out.1, HF.out.2 0, HF.out.2 1, HF.out.2 2]
  have HF : Hid (rkB l = true ∧ ∀ j, rkX l j = valL ([t0, t1, t2].getD j [])) := Lib.hid (by
    have h1 := rk_good (l := l) (HOk.out.2 ⟨⟨HY0'.out.1, HY1'.out.1, HY2'.out.1⟩, hv⟩)
    exact ⟨h1.1, fun j => by rw [h1.2 j]; exact HVal.out j⟩)
  have heq : tx = s := by
    rw [HTx.out, ctV, HY0'.out.2, HY1'.out.2, HY2'.out.2, if_pos hv, rk_text HTs.out.symm HY0'.out.1 HY1'.out.1 HY2'.out.1, HL.out, bs_of]
  subst heq
  have hee : (tx.toList == tx.toList) = true := by simp
  have m0 := KD.out.cell 0 rfl
  have m1 := KD.out.cell 1 rfl
  have m2 := KD.out.cell 2 rfl
  clear hv
  obtain ⟨f1, f2, f3, f4, f5, f6, f7⟩ := put3 K7.out (.int .i64 n0) (.int .i64 n1) (.int .i64 n2)
  have F7 := Lib.hid f7
  clear f7
  go_wp2
  have f7 := F7.out
  obtain ⟨Wf, hWf⟩ : ∃ Wf, Wf = ((w6.setCell ⟨w.heap.size, 0, none⟩ (.int .i64 n0)).setCell ⟨w.heap.size, 1, none⟩ (.int .i64 n1)).setCell ⟨w.heap.size, 2, none⟩ (.int .i64 n2) := ⟨_, rfl⟩
  have hB : Below w.heap.size w Wf := by rw [hWf]; exact below_set (below_set (below_set HB7.out (Nat.le_refl _) _ _) (Nat.le_refl _) _ _) (Nat.le_refl _) _ _
  rw [← hWf] at f7 ⊢
  have z0 := f7.cell 0 rfl
  have z1 := f7.cell 1 rfl
  have z2 := f7.cell 2 rfl
  clear f1 f2 f3 f4 f5 f6 hWf
  refine bodyPost_ret (v := .tuple #[.agg #[.int .i64 n0, .int .i64 n1, .int .i64 n2], .bool true]) (by simp [results, Tryd.f14, go_sem, z0, z1, z2]) rfl ⟨?_, hB⟩
  rw [HF.out.1, HF.out.2 0, HF.out.2 1, HF.out.2 2, HY0'.out.2, HY1'.out.2, HY2'.out.2] <;> rfl
end Go.Proofs.YtbifkjmmhfnblaaDoor.Ints
