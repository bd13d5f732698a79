/- SetRule: the contract of the program. -/
import Derived.Test.YtmgogbcipdjddaaDoorSetR
namespace Go.Proofs.YtmgogbcipdjddaaDoor.Ints
open Go.RowKit
set_option linter.unusedVariables false
set_option linter.unusedSimpArgs false
theorem implBelowB (n l : Int) (b : Bool) (w : World) (h : b = true ↔ (0 ≤ n ∧ n < l)) : Calls Tryd.prog 48 #[.int .i64 n, .int .i64 l] w fun e w' => e = .returned (.bool b) ∧ w' = w := by
  cases b with
  | true =>
    obtain ⟨h0, h1⟩ := h.1 rfl
    clear h
    go_enter Tryd.func48, Tryd.ntmps48
    go_wp2
    go_ret
    exact ⟨rfl, rfl⟩
  | false =>
    have hn : ¬ (0 ≤ n ∧ n < l) := fun h' => by cases h.2 h'
    clear h
    by_cases h0 : 0 ≤ n
    · have h1 : decide (n < l) = false := decide_eq_false (fun h1 => hn ⟨h0, h1⟩)
      clear hn
      go_enter Tryd.func48, Tryd.ntmps48
      go_wp2
      go_ret
      exact ⟨rfl, rfl⟩
    · clear hn
      go_enter Tryd.func48, Tryd.ntmps48
      go_wp2
      go_ret
      exact ⟨rfl, rfl⟩
set_option maxHeartbeats 4000000 in
theorem implSetRule (sy st : Int) (v : Value) (rs : List Ru) (t x y z : Int) (w : World) (hv : RdR w v rs) (hnr : NoR w) :
    Calls Tryd.prog 41 #[.agg #[.int .i64 sy, .int .i64 st, v], .int .i64 t, .agg #[.int .i64 x, .int .i64 y, .int .i64 z]] w fun e w' => ∃ u, e = .returned (.tuple #[.agg #[.int .i64 (srI sy st rs t ⟨x, y, z⟩ sy), .int .i64 (srI sy st rs t ⟨x, y, z⟩ st), u], .int .i64 (srC sy st rs t ⟨x, y, z⟩)]) ∧ OwR w' w.heap.size w'.heap.size u (srR sy st rs t ⟨x, y, z⟩) ∧ Below w.heap.size w w' := by
  have HV := Lib.hid hv
  obtain ⟨hl, _, a, c, rfl, _, _⟩ := hv
  obtain ⟨W0, hW0⟩ : ∃ W, W = ((w.alloc (Obj.cells #[.int .i64 sy, .int .i64 st, .slice a rs.length c] 33)).alloc (Obj.cells #[.int .i64 x, .int .i64 y, .int .i64 z] 59)).alloc (Obj.cells #[.int .i64 0, .int .i64 0, .slice none 0 0] 33) := ⟨_, rfl⟩
  have HB : Hid (Below w.heap.size w W0) := Lib.hid (by rw [hW0]; exact (((Below.refl w.heap.size w).alloc (Nat.le_refl _) _).alloc (by simp) _).alloc (by simp; omega) _)
  have K1 : Hid (Cels W0 w.heap.size 33 [.int .i64 sy, .int .i64 st, .slice a rs.length c]) := Lib.hid (by rw [hW0]; exact ((Cels.new _ _ _).alloc _).alloc _)
  have KR : Hid (Cels W0 (w.heap.size + 1) 59 [.int .i64 x, .int .i64 y, .int .i64 z]) := Lib.hid (by rw [hW0]; have h := (Cels.new (w.alloc (Obj.cells #[.int .i64 sy, .int .i64 st, .slice a rs.length c] 33)) 59 [.int .i64 x, .int .i64 y, .int .i64 z]).alloc (Obj.cells #[.int .i64 0, .int .i64 0, .slice none 0 0] 33); simp only [World.size_alloc] at h; exact h)
  have K2 : Hid (Cels W0 (w.heap.size + 1 + 1) 33 [.int .i64 0, .int .i64 0, .slice none 0 0]) := Lib.hid (by rw [hW0]; have h := Cels.new ((w.alloc (Obj.cells #[.int .i64 sy, .int .i64 st, .slice a rs.length c] 33)).alloc (Obj.cells #[.int .i64 x, .int .i64 y, .int .i64 z] 59)) 33 [.int .i64 0, .int .i64 0, .slice none 0 0]; simp only [World.size_alloc] at h; exact h)
  have HSZ : Hid (w.heap.size + 3 = W0.heap.size) := Lib.hid (by rw [hW0]; simp)
  have HN := Lib.hid (hnr.below HB.out (Nat.le_refl _))
  clear hnr
  have HW0 := Lib.hid hW0.symm
  obtain ⟨bm, hbm⟩ : ∃ b, b = machB sy st rs := ⟨_, rfl⟩
  have HM := Lib.hid hbm
  clear hbm hW0
  go_enter Tryd.func41, Tryd.ntmps41
  go_wp2_with fail
  rw [HW0.out]
  refine (implValidMachine sy st _ rs _ (HV.out.below HB.out (Nat.le_refl _)) HN.out).mono ?_
  rintro e w1 ⟨rfl, hb1⟩
  rw [← HM.out]
  have HK := Lib.hid (K1.out.below hb1 K1.out.lt)
  have HR := Lib.hid (KR.out.below hb1 KR.out.lt)
  have HK2 := Lib.hid (K2.out.below hb1 K2.out.lt)
  have HB1 := Lib.hid (HB.out.trans (hb1.mono HB.out.size))
  have HSZ1 : Hid (w.heap.size + 3 ≤ w1.heap.size) := Lib.hid (by have := hb1.size; have := HSZ.out; omega)
  have HN1 := Lib.hid (HN.out.below hb1 (Nat.le_refl _))
  clear hb1
  rcases eqOr bm with hb | hb
  · subst hb
    have hc : srC sy st rs t ⟨x, y, z⟩ = 1 := by simp [srC, ← HM.out]
    have e := Lib.hid (show srR sy st rs t ⟨x, y, z⟩ = [] ∧ srC sy st rs t ⟨x, y, z⟩ = 1 ∧ srI sy st rs t ⟨x, y, z⟩ sy = 0 ∧ srI sy st rs t ⟨x, y, z⟩ st = 0 by simp [srR, srI, hc])
    clear hc
    have HF3 := Lib.hid (put3 HK2.out (.int .i64 0) (.int .i64 0) (.slice none 0 0))
    obtain ⟨f1, f2, f3, f4, f5, f6, f7⟩ := HF3.out
    go_wp2
    obtain ⟨W, hW⟩ : ∃ W, W = ((w1.setCell ⟨w.heap.size + 1 + 1, 0, none⟩ (.int .i64 0)).setCell ⟨w.heap.size + 1 + 1, 1, none⟩ (.int .i64 0)).setCell ⟨w.heap.size + 1 + 1, 2, none⟩ (.slice none 0 0) := ⟨_, rfl⟩
    have hB : Below w.heap.size w W := by
      rw [hW]
      exact below_set (below_set (below_set HB1.out (by omega) _ _) (by omega) _ _) (by omega) _ _
    rw [← hW] at f7 ⊢
    have z0 := f7.cell 0 rfl
    have z1 := f7.cell 1 rfl
    have z2 := f7.cell 2 rfl
    clear f1 f2 f3 f4 f5 f6 hW
    rw [e.out.1, e.out.2.1, e.out.2.2.1, e.out.2.2.2]
    refine bodyPost_ret (v := .tuple #[.agg #[.int .i64 0, .int .i64 0, .slice none 0 0], .int .i64 1]) (by simp [results, Tryd.f41, go_sem, z0, z1, z2]) rfl ⟨_, rfl, OwR.emptyUp hB.size, hB⟩
  · subst hb
    have HMK := Lib.hid (machB_ok HM.out.symm)
    have y2 := HK.out.cell 2 rfl
    obtain ⟨bt, hbt⟩ : ∃ b, b = decide (0 ≤ t ∧ t < (rs.length : Int)) := ⟨_, rfl⟩
    have HT := Lib.hid hbt
    clear hbt
    go_wp2_with fail
    refine (implBelowB t (rs.length : Int) bt _ (by rw [HT.out]; simp)).mono ?_
    rintro e1 w1' ⟨rfl, hw⟩
    obtain rfl := hw.symm
    rcases eqOr bt with hb | hb
    · subst hb
      have ht : ¬ (0 ≤ t ∧ t < (rs.length : Int)) := by simpa using HT.out.symm
      have hc : srC sy st rs t ⟨x, y, z⟩ = 2 := by rw [srC, ← HM.out, if_pos rfl, if_neg ht]
      have e := Lib.hid (show srR sy st rs t ⟨x, y, z⟩ = [] ∧ srC sy st rs t ⟨x, y, z⟩ = 2 ∧ srI sy st rs t ⟨x, y, z⟩ sy = 0 ∧ srI sy st rs t ⟨x, y, z⟩ st = 0 by simp [srR, srI, hc])
      clear hc
      clear ht
      have HF3 := Lib.hid (put3 HK2.out (.int .i64 0) (.int .i64 0) (.slice none 0 0))
      obtain ⟨f1, f2, f3, f4, f5, f6, f7⟩ := HF3.out
      go_wp2
      obtain ⟨W, hW⟩ : ∃ W, W = ((w1.setCell ⟨w.heap.size + 1 + 1, 0, none⟩ (.int .i64 0)).setCell ⟨w.heap.size + 1 + 1, 1, none⟩ (.int .i64 0)).setCell ⟨w.heap.size + 1 + 1, 2, none⟩ (.slice none 0 0) := ⟨_, rfl⟩
      have hB : Below w.heap.size w W := by
        rw [hW]
        exact below_set (below_set (below_set HB1.out (by omega) _ _) (by omega) _ _) (by omega) _ _
      rw [← hW] at f7 ⊢
      have z0 := f7.cell 0 rfl
      have z1 := f7.cell 1 rfl
      have z2 := f7.cell 2 rfl
      clear f1 f2 f3 f4 f5 f6 hW
      rw [e.out.1, e.out.2.1, e.out.2.2.1, e.out.2.2.2]
      refine bodyPost_ret (v := .tuple #[.agg #[.int .i64 0, .int .i64 0, .slice none 0 0], .int .i64 2]) (by simp [results, Tryd.f41, go_sem, z0, z1, z2]) rfl ⟨_, rfl, OwR.emptyUp hB.size, hB⟩
    · subst hb
      have ht : 0 ≤ t ∧ t < (rs.length : Int) := by simpa using HT.out.symm
      have HTT := Lib.hid ht
      obtain ⟨br, hbr⟩ : ∃ b, b = ruleB sy st ⟨x, y, z⟩ := ⟨_, rfl⟩
      have HRB := Lib.hid hbr
      have y0 := HK.out.cell 0 rfl
      have y1 := HK.out.cell 1 rfl
      have r0 := HR.out.cell 0 rfl
      have r1 := HR.out.cell 1 rfl
      have r2 := HR.out.cell 2 rfl
      clear hbr ht
      go_wp2_with fail
      refine (implAllows x y z sy st _ _ _ _ HN1.out).mono ?_
      rintro e2 w2 ⟨rfl, hb2⟩
      rw [← HRB.out]
      have HK3 := Lib.hid (HK.out.below hb2 HK.out.lt)
      have HR3 := Lib.hid (HR.out.below hb2 HR.out.lt)
      have HK4 := Lib.hid (HK2.out.below hb2 HK2.out.lt)
      have HB2 := Lib.hid (HB1.out.trans (hb2.mono HB1.out.size))
      have HSZ2 : Hid (w.heap.size + 3 ≤ w2.heap.size) := Lib.hid (by have := hb2.size; have := HSZ1.out; omega)
      clear hb2 y0 y1 y2 r0 r1 r2
      rcases eqOr br with hb | hb
      · subst hb
        have hc : srC sy st rs t ⟨x, y, z⟩ = 7 := by rw [srC, ← HM.out, if_pos rfl, if_pos HTT.out, ← HRB.out]; rfl
        have e := Lib.hid (show srR sy st rs t ⟨x, y, z⟩ = [] ∧ srC sy st rs t ⟨x, y, z⟩ = 7 ∧ srI sy st rs t ⟨x, y, z⟩ sy = 0 ∧ srI sy st rs t ⟨x, y, z⟩ st = 0 by simp [srR, srI, hc])
        clear hc
        have HF3 := Lib.hid (put3 HK4.out (.int .i64 0) (.int .i64 0) (.slice none 0 0))
        obtain ⟨f1, f2, f3, f4, f5, f6, f7⟩ := HF3.out
        go_wp2
        obtain ⟨W, hW⟩ : ∃ W, W = ((w2.setCell ⟨w.heap.size + 1 + 1, 0, none⟩ (.int .i64 0)).setCell ⟨w.heap.size + 1 + 1, 1, none⟩ (.int .i64 0)).setCell ⟨w.heap.size + 1 + 1, 2, none⟩ (.slice none 0 0) := ⟨_, rfl⟩
        have hB : Below w.heap.size w W := by
          rw [hW]
          exact below_set (below_set (below_set HB2.out (by omega) _ _) (by omega) _ _) (by omega) _ _
        rw [← hW] at f7 ⊢
        have z0 := f7.cell 0 rfl
        have z1 := f7.cell 1 rfl
        have z2 := f7.cell 2 rfl
        clear f1 f2 f3 f4 f5 f6 hW
        rw [e.out.1, e.out.2.1, e.out.2.2.1, e.out.2.2.2]
        refine bodyPost_ret (v := .tuple #[.agg #[.int .i64 0, .int .i64 0, .slice none 0 0], .int .i64 7]) (by simp [results, Tryd.f41, go_sem, z0, z1, z2]) rfl ⟨_, rfl, OwR.emptyUp hB.size, hB⟩
      · subst hb
        obtain ⟨k, rfl⟩ : ∃ k : Nat, t = (k : Int) := ⟨t.toNat, by have := HTT.out; omega⟩
        have hc : srC sy st rs k ⟨x, y, z⟩ = 0 := by rw [srC, ← HM.out, if_pos rfl, if_pos HTT.out, ← HRB.out]; rfl
        have e := Lib.hid (show srR sy st rs k ⟨x, y, z⟩ = rs.set k ⟨x, y, z⟩ ∧ srC sy st rs k ⟨x, y, z⟩ = 0 ∧ srI sy st rs k ⟨x, y, z⟩ sy = sy ∧ srI sy st rs k ⟨x, y, z⟩ st = st by simp [srR, srI, hc])
        have HFR : Hid (Ru.fit ⟨x, y, z⟩) := Lib.hid ((ruleB_ok HRB.out.symm).fit HMK.out.s1 HMK.out.t1)
        have hk : k < rs.length := by have := HTT.out; omega
        have i0 : (0 : Int) ≤ (k : Int) := by omega
        have i1 : (k : Int) < (rs.length : Int) := by omega
        clear hc
        have y2 := HK3.out.cell 2 rfl
        go_wp2_with fail
        refine (libCloneR _ rs _ (HV.out.below HB2.out (Nat.le_refl _))).mono ?_
        rintro e3 w3 ⟨u, rfl, ho, hb3⟩
        obtain ⟨ga, gc, rfl⟩ := ho.shape
        have hs2' := HSZ2.out
        have p1 := HK3.out.below hb3 HK3.out.lt
        have m2 := p1.cell 2 rfl
        have m3 := p1.frozen 2
        have pl := p1.set 2 (.slice ga rs.length gc)
        have p2 := (HK4.out.below hb3 HK4.out.lt).other (p := ⟨w.heap.size, 2, none⟩) (by show w.heap.size + 1 + 1 ≠ w.heap.size; omega) (.slice ga rs.length gc)
        have pr := (HR3.out.below hb3 HR3.out.lt).other (p := ⟨w.heap.size, 2, none⟩) (by show w.heap.size + 1 ≠ w.heap.size; omega) (.slice ga rs.length gc)
        have hoA := ho.apartCell (g := w.heap.size) (by omega) 2 (.slice ga rs.length gc)
        have hbA := below_set (HB2.out.trans (hb3.mono HB2.out.size)) (Nat.le_refl _) 2 (.slice ga rs.length gc)
        simp only [List.set_cons_succ, List.set_cons_zero] at pl
        clear y2
        obtain ⟨gg, hga, g1, g2, c0, c1, c2, e0, e1, e2, ho'⟩ := OwR.put (k := k) hoA hk ⟨x, y, z⟩ HFR.out
        subst hga
        dsimp only at c1 c2 e1 e2 ho'
        have hs2 := HSZ2.out
        have hs0 : w2.heap.size ≤ gg := g1
        have q1 := ((pl.other (p := ⟨gg, k * 3, none⟩) (by show w.heap.size ≠ gg; omega) (.int .i64 x)).other (p := ⟨gg, k * 3 + 1, none⟩) (by show w.heap.size ≠ gg; omega) (.int .i64 y)).other (p := ⟨gg, k * 3 + 2, none⟩) (by show w.heap.size ≠ gg; omega) (.int .i64 z)
        have q2 := ((p2.other (p := ⟨gg, k * 3, none⟩) (by show w.heap.size + 1 + 1 ≠ gg; omega) (.int .i64 x)).other (p := ⟨gg, k * 3 + 1, none⟩) (by show w.heap.size + 1 + 1 ≠ gg; omega) (.int .i64 y)).other (p := ⟨gg, k * 3 + 2, none⟩) (by show w.heap.size + 1 + 1 ≠ gg; omega) (.int .i64 z)
        have HF3 := Lib.hid (put3 q2 (.int .i64 sy) (.int .i64 st) (.slice (some ⟨gg, 0, none⟩) rs.length gc))
        obtain ⟨f1, f2, f3, f4, f5, f6, f7⟩ := HF3.out
        have l0 := q1.cell 0 rfl
        have l1 := q1.cell 1 rfl
        have l2 := q1.cell 2 rfl
        have r0 := pr.cell 0 rfl
        have r1 := pr.cell 1 rfl
        have r2 := pr.cell 2 rfl
        have j2 := pl.cell 2 rfl
        have HO' := Lib.hid ho'
        have HB4 := Lib.hid (below_set (g := gg) (below_set (g := gg) (below_set (g := gg) hbA (by omega) (k * 3) (.int .i64 x)) (by omega) (k * 3 + 1) (.int .i64 y)) (by omega) (k * 3 + 2) (.int .i64 z))
        have HG := Lib.hid hs0
        clear q1 q2 ho' hoA hbA hs0 g1 g2 hs2 p1 p2 pr pl ho hb3 hs2'
        go_wp2
        obtain ⟨E3, hE3⟩ : ∃ W, W = (((w3.setCell ⟨w.heap.size, 2, none⟩ (.slice (some ⟨gg, 0, none⟩) rs.length gc)).setCell ⟨gg, k * 3, none⟩ (.int .i64 x)).setCell ⟨gg, k * 3 + 1, none⟩ (.int .i64 y)).setCell ⟨gg, k * 3 + 2, none⟩ (.int .i64 z) := ⟨_, rfl⟩
        have HO5 := HO'.out
        have HB5 := HB4.out
        rw [← hE3] at f7 HO5 HB5 ⊢
        obtain ⟨W, hW⟩ : ∃ W, W = ((E3.setCell ⟨w.heap.size + 1 + 1, 0, none⟩ (.int .i64 sy)).setCell ⟨w.heap.size + 1 + 1, 1, none⟩ (.int .i64 st)).setCell ⟨w.heap.size + 1 + 1, 2, none⟩ (.slice (some ⟨gg, 0, none⟩) rs.length gc) := ⟨_, rfl⟩
        have hs2 := HSZ2.out
        have hB : Below w.heap.size w W ∧ OwR W w2.heap.size W.heap.size (.slice (some ⟨gg, 0, none⟩) rs.length gc) (rs.set k ⟨x, y, z⟩) := by
          rw [hW]
          exact ⟨below_set (below_set (below_set HB5 (by omega) _ _) (by omega) _ _) (by omega) _ _,
            (((HO5.apartCell (by omega) _ _).apartCell (by omega) _ _).apartCell (by omega) _ _).up⟩
        rw [← hW] at f7 ⊢
        have z0 := f7.cell 0 rfl
        have z1 := f7.cell 1 rfl
        have z2 := f7.cell 2 rfl
        clear f1 f2 f3 f4 f5 f6 hW
        rw [e.out.1, e.out.2.1, e.out.2.2.1, e.out.2.2.2]
        refine bodyPost_ret (v := .tuple #[.agg #[.int .i64 sy, .int .i64 st, .slice (some ⟨gg, 0, none⟩) rs.length gc], .int .i64 0]) (by simp [results, Tryd.f41, go_sem, z0, z1, z2]) rfl ⟨_, rfl, hB.2.mono (by omega) (Nat.le_refl _) (Nat.le_refl _), hB.1⟩
end Go.Proofs.YtmgogbcipdjddaaDoor.Ints
