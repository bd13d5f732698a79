/- Contracts of ValidMulti: the program's loop. -/
import Derived.Test.YtepdjlhlcjkdkaaVmJ
namespace Go.Proofs.Ytepdjlhlcjkdkaa.Ints
open Go.RowKit
set_option linter.unusedVariables false
set_option linter.unusedSimpArgs false
theorem mu_at' {tp sy st : Int} {ms : List Mr} {k : Nat} (hk : k < ms.length) (h : ¬ (stB2 st (ms.getD k mr0) = true ∧ rwB tp sy (ms.getD k mr0) = true)) : muB tp sy st ms = false := muB_no fun H => h (H.2.a k hk)
set_option maxHeartbeats 16000000 in
set_option maxRecDepth 100000 in
theorem implValidMulti (tp sy st : Int) (v : Value) (ms : List Mr) (w : World) (hv : RdM w v ms) :
    Calls Try.prog 64 #[.agg #[.int .i64 tp, .int .i64 sy, .int .i64 st, v]] w fun e w' => e = .returned (.bool (muB tp sy st ms)) ∧ Below w.heap.size w w' := by
  obtain ⟨hl, a, c, rfl, hcap, hr⟩ := hv
  obtain ⟨W0, hW0⟩ : ∃ W, W = w.alloc (Obj.cells #[.int .i64 tp, .int .i64 sy, .int .i64 st, .slice a ms.length c] 33) := ⟨_, rfl⟩
  have HB : Hid (Below w.heap.size w W0) := Lib.hid (by rw [hW0]; exact (Below.refl w.heap.size w).alloc (Nat.le_refl _) _)
  have K0 : Hid (Cels W0 w.heap.size 33 [.int .i64 tp, .int .i64 sy, .int .i64 st, .slice a ms.length c]) := Lib.hid (by rw [hW0]; exact Cels.new _ _ _)
  have HW0 := Lib.hid hW0.symm
  clear hW0
  by_cases h1 : tp < 2
  · have HF := Lib.hid (muB_no (tp := tp) (sy := sy) (st := st) (ms := ms) (fun H => by have := H.1.t; omega))
    clear hr
    go_enter Try.func64, Try.ntmps64
    go_wp2
    go_ret
    exact ⟨by rw [HF.out] <;> rfl, by rw [HW0.out]; exact HB.out⟩
  have e1 : decide (tp < 2) = false := decide_eq_false h1
  by_cases h2 : 3 < tp
  · have HF := Lib.hid (muB_no (tp := tp) (sy := sy) (st := st) (ms := ms) (fun H => by have := H.1.t; omega))
    clear hr
    go_enter Try.func64, Try.ntmps64
    go_wp2
    go_ret
    exact ⟨by rw [HF.out] <;> rfl, by rw [HW0.out]; exact HB.out⟩
  have e2 : decide (3 < tp) = false := decide_eq_false h2
  by_cases h3 : sy = 2 ∨ sy = 3
  rotate_left
  · have HF := Lib.hid (muB_no (tp := tp) (sy := sy) (st := st) (ms := ms) (fun H => by have := H.1.s; omega))
    have f1 : (sy == 2) = false := by simp only [beq_eq_false_iff_ne]; omega
    have f2 : (sy == 3) = false := by simp only [beq_eq_false_iff_ne]; omega
    clear hr h3
    go_enter Try.func64, Try.ntmps64
    go_wp2
    go_ret
    exact ⟨by rw [HF.out] <;> rfl, by rw [HW0.out]; exact HB.out⟩
  by_cases h4 : st < 1
  · have HF := Lib.hid (muB_no (tp := tp) (sy := sy) (st := st) (ms := ms) (fun H => by have := H.1.q; omega))
    clear hr
    rcases h3 with rfl | rfl
    all_goals
      go_enter Try.func64, Try.ntmps64
      go_wp2
      go_ret
      exact ⟨by rw [HF.out] <;> rfl, by rw [HW0.out]; exact HB.out⟩
  have e4 : decide (st < 1) = false := decide_eq_false h4
  by_cases h5 : 16 < st
  · have HF := Lib.hid (muB_no (tp := tp) (sy := sy) (st := st) (ms := ms) (fun H => by have := H.1.q; omega))
    clear hr
    rcases h3 with rfl | rfl
    all_goals
      go_enter Try.func64, Try.ntmps64
      go_wp2
      go_ret
      exact ⟨by rw [HF.out] <;> rfl, by rw [HW0.out]; exact HB.out⟩
  have e5 : decide (16 < st) = false := decide_eq_false h5
  by_cases h6 : (60 : Int) < (ms.length : Int)
  · have HF := Lib.hid (muB_no (tp := tp) (sy := sy) (st := st) (ms := ms) (fun H => by have := H.1.n; omega))
    clear hr
    rcases h3 with rfl | rfl
    all_goals
      go_enter Try.func64, Try.ntmps64
      go_wp2
      go_ret
      exact ⟨by rw [HF.out] <;> rfl, by rw [HW0.out]; exact HB.out⟩
  have e6 : decide ((60 : Int) < (ms.length : Int)) = false := decide_eq_false h6
  have HH : Hid (MuHd tp sy st ms.length) := Lib.hid ⟨by omega, by omega, by omega, by omega⟩
  have hsy : (sy == 2) = true ∨ ((sy == 2) = false ∧ (sy == 3) = true) := by
    rcases h3 with rfl | rfl
    · exact .inl rfl
    · exact .inr ⟨rfl, rfl⟩
  clear h3
  -- the loop, whichever of the two the symbols are
  rcases hsy with f1 | ⟨f1, f2⟩
  all_goals
    go_enter Try.func64, Try.ntmps64
    go_wp2
    rw [HW0.out]
    go_loopw [36] (fun s wr => ∃ k : Nat, k ≤ ms.length ∧ s = .int .i64 k ∧ MuTo tp sy st ms k ∧ Below W0.heap.size W0 wr) (fun s _ => ms.length - (intOf s).toNat)
    case atStart => exact ⟨0, Nat.zero_le _, rfl, ⟨fun i hi => by omega, fun i hi => by omega⟩, Below.refl _ _⟩
    case round =>
      obtain ⟨k, hk, rfl, hto, hbel⟩ := hrel
      have HTO := Lib.hid hto
      have HBW := Lib.hid hbel
      have HBB := Lib.hid (HB.out.trans (hbel.mono HB.out.size))
      clear hto hbel
      by_cases hlt : k < ms.length
      · obtain ⟨b, o, rfl, hb, hcell⟩ := hr (by intro h0; rw [h0] at hlt; simp at hlt)
        obtain ⟨x, y, z, c0, c1, c2, c3, c4, hx, hy, hz⟩ := hcell k hlt
        obtain ⟨q, hqm⟩ : ∃ q, q = ms.getD k mr0 := ⟨_, rfl⟩
        rw [← hqm] at c0 c4 hx hy hz
        have HAT : Hid (¬ (stB2 st q = true ∧ rwB tp sy q = true) → muB tp sy st ms = false) := Lib.hid (fun h => mu_at' hlt (by rw [← hqm]; exact h))
        have HST : Hid (stB2 st q = true → rwB tp sy q = true → (0 < k → Bef (ms.getD (k - 1) mr0) q) → MuTo tp sy st ms (k + 1)) := Lib.hid (fun h h' h'' => HTO.out.step (by rw [← hqm]; exact h) (by rw [← hqm]; exact h') (by rw [← hqm]; exact h''))
        have HBF : Hid (0 < k → ¬ Bef (ms.getD (k - 1) mr0) q → muB tp sy st ms = false) := Lib.hid (fun h0 h => muB_no fun H => h (by
          have := H.2.o (k - 1) (by omega)
          rw [show k - 1 + 1 = k by omega, ← hqm] at this
          exact this))
        obtain ⟨s0, t1, t2, t3, s4⟩ := q
        dsimp only at c0 c4 hx hy hz
        have hq : ∀ j v, w.cell? ⟨b, j, none⟩ = some v → wr.cell? ⟨b, j, none⟩ = some v := fun j v h => (HBB.out.cell (p := ⟨b, j, none⟩) hb).trans h
        have HX0 := Lib.hid (hx.below HBB.out (Nat.le_refl _))
        have HY0 := Lib.hid (hy.below HBB.out (Nat.le_refl _))
        have HZ0 := Lib.hid (hz.below HBB.out (Nat.le_refl _))
        obtain ⟨_, _, ax, cx, rfl, _, _⟩ := hx
        obtain ⟨_, _, ay, cy, rfl, _, _⟩ := hy
        obtain ⟨_, _, az, cz, rfl, _, _⟩ := hz
        have g0 := hq _ _ c0
        have g1 := hq _ _ c1
        have g2 := hq _ _ c2
        have g3 := hq _ _ c3
        have g4 := hq _ _ c4
        obtain ⟨W1, hW1⟩ : ∃ W, W = wr.alloc (Obj.cells #[.int .i64 s0, .slice ax t1.length cx, .slice ay t2.length cy, .slice az t3.length cz, .int .i64 s4] 100) := ⟨_, rfl⟩
        have Q1 : Hid (Below wr.heap.size wr W1) := Lib.hid (by rw [hW1]; exact (Below.refl _ _).alloc (Nat.le_refl _) _)
        have KT : Hid (Cels W1 wr.heap.size 100 [.int .i64 s0, .slice ax t1.length cx, .slice ay t2.length cy, .slice az t3.length cz, .int .i64 s4]) := Lib.hid (by rw [hW1]; exact Cels.new _ _ _)
        have HW1 := Lib.hid hW1.symm
        have HB1 := Lib.hid (HBW.out.trans (Q1.out.mono HBW.out.size))
        have HX := Lib.hid (HX0.out.below Q1.out (Nat.le_refl _))
        have HY := Lib.hid (HY0.out.below Q1.out (Nat.le_refl _))
        have HZ := Lib.hid (HZ0.out.below Q1.out (Nat.le_refl _))
        have KM := Lib.hid (K0.out.below HB1.out K0.out.lt)
        have i0 : (0 : Int) ≤ (k : Int) := by omega
        have i1 : (k : Int) < (ms.length : Int) := by omega
        obtain ⟨bA, hbA⟩ : ∃ x, x = (stB2 st ⟨s0, t1, t2, t3, s4⟩ && rwB tp sy ⟨s0, t1, t2, t3, s4⟩) := ⟨_, rfl⟩
        have HBA := Lib.hid hbA
        have HCE := Lib.hid hcell
        clear hcell hr hqm hW1 hbA c0 c1 c2 c3 c4 hq
        have HD : Hid (Below W1.heap.size W1 W1.drew) := Lib.hid (Below.refl _ _).drew
        rcases eqOr bA with hbo | hbo
        · subst hbo
          have HS : Hid (∀ W', Below W1.heap.size W1 W' → ((W'.cell? ⟨w.heap.size, 0, none⟩ = some (.int .i64 tp) ∧ W'.cell? ⟨w.heap.size, 1, none⟩ = some (.int .i64 sy) ∧ W'.cell? ⟨w.heap.size, 2, none⟩ = some (.int .i64 st) ∧ W'.cell? ⟨w.heap.size, 3, none⟩ = some (.slice (some ⟨b, o, none⟩) ms.length c)) ∧ (W'.cell? ⟨wr.heap.size, 0, none⟩ = some (.int .i64 s0) ∧ W'.cell? ⟨wr.heap.size, 1, none⟩ = some (.slice ax t1.length cx) ∧ W'.cell? ⟨wr.heap.size, 2, none⟩ = some (.slice ay t2.length cy) ∧ W'.cell? ⟨wr.heap.size, 3, none⟩ = some (.slice az t3.length cz) ∧ W'.cell? ⟨wr.heap.size, 4, none⟩ = some (.int .i64 s4)))) := Lib.hid (fun W' hW' => ⟨⟨(KM.out.below hW' KM.out.lt).cell 0 rfl, (KM.out.below hW' KM.out.lt).cell 1 rfl, (KM.out.below hW' KM.out.lt).cell 2 rfl, (KM.out.below hW' KM.out.lt).cell 3 rfl⟩, ⟨(KT.out.below hW' KT.out.lt).cell 0 rfl, (KT.out.below hW' KT.out.lt).cell 1 rfl, (KT.out.below hW' KT.out.lt).cell 2 rfl, (KT.out.below hW' KT.out.lt).cell 3 rfl, (KT.out.below hW' KT.out.lt).cell 4 rfl⟩⟩)
          have HF := Lib.hid (HAT.out (fun h => by have := HBA.out; rw [h.1, h.2] at this; cases this))
          go_wp2_with fail
          rw [HW1.out]
          refine wp_region_held_drew (S := fun W' => (W'.cell? ⟨w.heap.size, 0, none⟩ = some (.int .i64 tp) ∧ W'.cell? ⟨w.heap.size, 1, none⟩ = some (.int .i64 sy) ∧ W'.cell? ⟨w.heap.size, 2, none⟩ = some (.int .i64 st) ∧ W'.cell? ⟨w.heap.size, 3, none⟩ = some (.slice (some ⟨b, o, none⟩) ms.length c)) ∧ (W'.cell? ⟨wr.heap.size, 0, none⟩ = some (.int .i64 s0) ∧ W'.cell? ⟨wr.heap.size, 1, none⟩ = some (.slice ax t1.length cx) ∧ W'.cell? ⟨wr.heap.size, 2, none⟩ = some (.slice ay t2.length cy) ∧ W'.cell? ⟨wr.heap.size, 3, none⟩ = some (.slice az t3.length cz) ∧ W'.cell? ⟨wr.heap.size, 4, none⟩ = some (.int .i64 s4))) (by kernel_rfl) ?_ (fun hHeld => ?_)
          · exact HS.out _ HD.out
          refine wpAnyH_take (i := 0) (v := ?_) rfl (by kernel_rfl) (by kernel_rfl) (by kernel_rfl) (fun _ _ _ h => h) (Or.inl ⟨by rfl, ?_⟩) (by assumption) ?_
          rotate_left
          · intro w hSw
            try dsimp only at hSw
            go_simp
            try with_reducible rfl
          try simp only [Array.getInternal_eq_getElem, List.getElem_toArray, List.getElem_cons_succ, List.getElem_cons_zero, Act.put, List.setIfInBounds_toArray, List.set_cons_zero, List.set_cons_succ]
          refine wpAnyH_take (i := 1) (v := ?_) rfl (by kernel_rfl) (by kernel_rfl) (by kernel_rfl) (fun _ _ _ h => h) (Or.inl ⟨by rfl, ?_⟩) (by assumption) ?_
          rotate_left
          · intro w hSw
            try dsimp only at hSw
            go_simp
            try with_reducible rfl
          try simp only [Array.getInternal_eq_getElem, List.getElem_toArray, List.getElem_cons_succ, List.getElem_cons_zero, Act.put, List.setIfInBounds_toArray, List.set_cons_zero, List.set_cons_succ]
          refine wpAnyH_ready (rs := [2]) (by kernel_rfl) (by simp) ?_
          refine AllReadyH.cons rfl (fun K hK => ?_) AllReadyH.nil
          go_simp
          go_at_call 123
          refine (implAllows tp sy st _ ms.length (some ⟨b, o, none⟩) c ⟨s0, t1, t2, t3, s4⟩ _ _ _ _ rfl (HX.out.below HD.out (Nat.le_refl _)) (HY.out.below HD.out (Nat.le_refl _)) (HZ.out.below HD.out (Nat.le_refl _))).mono ?_
          rintro e w3 ⟨rfl, bq⟩
          rw [← HBA.out]
          replace HD := Lib.hid (HD.out.trans (bq.mono HD.out.size))
          clear bq
          try go_wp2_with fail
          refine hK.out _ _ ?_ (fun hHeld => ?_)
          · exact HS.out _ HD.out
          clear hK K
          try simp only [Array.getInternal_eq_getElem, List.getElem_toArray, List.getElem_cons_succ, List.getElem_cons_zero, Act.put, List.setIfInBounds_toArray, List.set_cons_zero, List.set_cons_succ]
          refine wpAnyH_take (i := 3) (v := ?_) rfl (by kernel_rfl) (by kernel_rfl) (by kernel_rfl) (fun _ _ _ h => h) (Or.inl ⟨by rfl, ?_⟩) (by assumption) ?_
          rotate_left
          · intro w hSw
            try dsimp only at hSw
            go_simp
            try with_reducible rfl
          try simp only [Array.getInternal_eq_getElem, List.getElem_toArray, List.getElem_cons_succ, List.getElem_cons_zero, Act.put, List.setIfInBounds_toArray, List.set_cons_zero, List.set_cons_succ]
          refine wpAnyH_take (i := 4) (v := ?_) rfl (by kernel_rfl) (by kernel_rfl) (by kernel_rfl) (fun _ _ _ h => h) (Or.inl ⟨by rfl, ?_⟩) (by assumption) ?_
          rotate_left
          · intro w hSw
            try dsimp only at hSw
            go_simp
            try with_reducible rfl
          try simp only [Array.getInternal_eq_getElem, List.getElem_toArray, List.getElem_cons_succ, List.getElem_cons_zero, Act.put, List.setIfInBounds_toArray, List.set_cons_zero, List.set_cons_succ]
          refine wpAnyH_take (i := 5) (v := undef) rfl (by kernel_rfl) (by kernel_rfl) (by kernel_rfl) (fun _ _ _ h => h) (Or.inr ⟨by rfl, rfl⟩) (by assumption) ?_
          try simp only [Array.getInternal_eq_getElem, List.getElem_toArray, List.getElem_cons_succ, List.getElem_cons_zero, Act.put, List.setIfInBounds_toArray, List.set_cons_zero, List.set_cons_succ]
          refine wpAnyH_take (i := 6) (v := undef) rfl (by kernel_rfl) (by kernel_rfl) (by kernel_rfl) (fun _ _ _ h => h) (Or.inr ⟨by rfl, rfl⟩) (by assumption) ?_
          try simp only [Array.getInternal_eq_getElem, List.getElem_toArray, List.getElem_cons_succ, List.getElem_cons_zero, Act.put, List.setIfInBounds_toArray, List.set_cons_zero, List.set_cons_succ]
          refine wpAnyH_take (i := 7) (v := undef) rfl (by kernel_rfl) (by kernel_rfl) (by kernel_rfl) (fun _ _ _ h => h) (Or.inr ⟨by rfl, rfl⟩) (by assumption) ?_
          try simp only [Array.getInternal_eq_getElem, List.getElem_toArray, List.getElem_cons_succ, List.getElem_cons_zero, Act.put, List.setIfInBounds_toArray, List.set_cons_zero, List.set_cons_succ]
          refine wpAnyH_take (i := 8) (v := undef) rfl (by kernel_rfl) (by kernel_rfl) (by kernel_rfl) (fun _ _ _ h => h) (Or.inr ⟨by rfl, rfl⟩) (by assumption) ?_
          try simp only [Array.getInternal_eq_getElem, List.getElem_toArray, List.getElem_cons_succ, List.getElem_cons_zero, Act.put, List.setIfInBounds_toArray, List.set_cons_zero, List.set_cons_succ]
          refine wpAnyH_take (i := 9) (v := undef) rfl (by kernel_rfl) (by kernel_rfl) (by kernel_rfl) (fun _ _ _ h => h) (Or.inr ⟨by rfl, rfl⟩) (by assumption) ?_
          try simp only [Array.getInternal_eq_getElem, List.getElem_toArray, List.getElem_cons_succ, List.getElem_cons_zero, Act.put, List.setIfInBounds_toArray, List.set_cons_zero, List.set_cons_succ]
          refine wpAnyH_take (i := 10) (v := undef) rfl (by kernel_rfl) (by kernel_rfl) (by kernel_rfl) (fun _ _ _ h => h) (Or.inr ⟨by rfl, rfl⟩) (by assumption) ?_
          try simp only [Array.getInternal_eq_getElem, List.getElem_toArray, List.getElem_cons_succ, List.getElem_cons_zero, Act.put, List.setIfInBounds_toArray, List.set_cons_zero, List.set_cons_succ]
          refine wpAnyH_take (i := 11) (v := undef) rfl (by kernel_rfl) (by kernel_rfl) (by kernel_rfl) (fun _ _ _ h => h) (Or.inr ⟨by rfl, rfl⟩) (by assumption) ?_
          try simp only [Array.getInternal_eq_getElem, List.getElem_toArray, List.getElem_cons_succ, List.getElem_cons_zero, Act.put, List.setIfInBounds_toArray, List.set_cons_zero, List.set_cons_succ]
          refine wpAnyH_take (i := 12) (v := undef) rfl (by kernel_rfl) (by kernel_rfl) (by kernel_rfl) (fun _ _ _ h => h) (Or.inr ⟨by rfl, rfl⟩) (by assumption) ?_
          try simp only [Array.getInternal_eq_getElem, List.getElem_toArray, List.getElem_cons_succ, List.getElem_cons_zero, Act.put, List.setIfInBounds_toArray, List.set_cons_zero, List.set_cons_succ]
          refine wpAnyH_take (i := 13) (v := undef) rfl (by kernel_rfl) (by kernel_rfl) (by kernel_rfl) (fun _ _ _ h => h) (Or.inr ⟨by rfl, rfl⟩) (by assumption) ?_
          try simp only [Array.getInternal_eq_getElem, List.getElem_toArray, List.getElem_cons_succ, List.getElem_cons_zero, Act.put, List.setIfInBounds_toArray, List.set_cons_zero, List.set_cons_succ]
          refine wpAnyH_take (i := 14) (v := undef) rfl (by kernel_rfl) (by kernel_rfl) (by kernel_rfl) (fun _ _ _ h => h) (Or.inr ⟨by rfl, rfl⟩) (by assumption) ?_
          try simp only [Array.getInternal_eq_getElem, List.getElem_toArray, List.getElem_cons_succ, List.getElem_cons_zero, Act.put, List.setIfInBounds_toArray, List.set_cons_zero, List.set_cons_succ]
          refine wpAnyH_take (i := 15) (v := undef) rfl (by kernel_rfl) (by kernel_rfl) (by kernel_rfl) (fun _ _ _ h => h) (Or.inr ⟨by rfl, rfl⟩) (by assumption) ?_
          try simp only [Array.getInternal_eq_getElem, List.getElem_toArray, List.getElem_cons_succ, List.getElem_cons_zero, Act.put, List.setIfInBounds_toArray, List.set_cons_zero, List.set_cons_succ]
          refine wpAnyH_take (i := 16) (v := undef) rfl (by kernel_rfl) (by kernel_rfl) (by kernel_rfl) (fun _ _ _ h => h) (Or.inr ⟨by rfl, rfl⟩) (by assumption) ?_
          try simp only [Array.getInternal_eq_getElem, List.getElem_toArray, List.getElem_cons_succ, List.getElem_cons_zero, Act.put, List.setIfInBounds_toArray, List.set_cons_zero, List.set_cons_succ]
          refine wpAnyH_take (i := 17) (v := undef) rfl (by kernel_rfl) (by kernel_rfl) (by kernel_rfl) (fun _ _ _ h => h) (Or.inr ⟨by rfl, rfl⟩) (by assumption) ?_
          try simp only [Array.getInternal_eq_getElem, List.getElem_toArray, List.getElem_cons_succ, List.getElem_cons_zero, Act.put, List.setIfInBounds_toArray, List.set_cons_zero, List.set_cons_succ]
          refine wpAnyH_take (i := 18) (v := ?_) rfl (by kernel_rfl) (by kernel_rfl) (by kernel_rfl) (fun _ _ _ h => h) (Or.inl ⟨by rfl, ?_⟩) (by assumption) ?_
          rotate_left
          · intro w hSw
            try dsimp only at hSw
            go_simp
            try with_reducible rfl
          try simp only [Array.getInternal_eq_getElem, List.getElem_toArray, List.getElem_cons_succ, List.getElem_cons_zero, Act.put, List.setIfInBounds_toArray, List.set_cons_zero, List.set_cons_succ]
          refine wpAnyH_done (by kernel_rfl) ?_ _
          have HE := Lib.hid (HB1.out.trans (HD.out.mono HB1.out.size))
          go_wp2
          go_ret
          exact ⟨by rw [HF.out] <;> rfl, HB.out.trans (HE.out.mono HB.out.size)⟩
        subst hbo
        have HAND : Hid (stB2 st ⟨s0, t1, t2, t3, s4⟩ = true ∧ rwB tp sy ⟨s0, t1, t2, t3, s4⟩ = true) := Lib.hid (by have := HBA.out.symm; simpa using this)
        rcases Nat.eq_zero_or_pos k with hk0 | hk0
        · have e7 : decide ((0 : Int) < (k : Int)) = false := decide_eq_false (by omega)
          have HK0 := Lib.hid hk0
          clear hk0
          have HS : Hid (∀ W', Below W1.heap.size W1 W' → ((W'.cell? ⟨w.heap.size, 0, none⟩ = some (.int .i64 tp) ∧ W'.cell? ⟨w.heap.size, 1, none⟩ = some (.int .i64 sy) ∧ W'.cell? ⟨w.heap.size, 2, none⟩ = some (.int .i64 st) ∧ W'.cell? ⟨w.heap.size, 3, none⟩ = some (.slice (some ⟨b, o, none⟩) ms.length c)) ∧ (W'.cell? ⟨wr.heap.size, 0, none⟩ = some (.int .i64 s0) ∧ W'.cell? ⟨wr.heap.size, 1, none⟩ = some (.slice ax t1.length cx) ∧ W'.cell? ⟨wr.heap.size, 2, none⟩ = some (.slice ay t2.length cy) ∧ W'.cell? ⟨wr.heap.size, 3, none⟩ = some (.slice az t3.length cz) ∧ W'.cell? ⟨wr.heap.size, 4, none⟩ = some (.int .i64 s4)))) := Lib.hid (fun W' hW' => ⟨⟨(KM.out.below hW' KM.out.lt).cell 0 rfl, (KM.out.below hW' KM.out.lt).cell 1 rfl, (KM.out.below hW' KM.out.lt).cell 2 rfl, (KM.out.below hW' KM.out.lt).cell 3 rfl⟩, ⟨(KT.out.below hW' KT.out.lt).cell 0 rfl, (KT.out.below hW' KT.out.lt).cell 1 rfl, (KT.out.below hW' KT.out.lt).cell 2 rfl, (KT.out.below hW' KT.out.lt).cell 3 rfl, (KT.out.below hW' KT.out.lt).cell 4 rfl⟩⟩)
          have HN2 := Lib.hid (HST.out HAND.out.1 HAND.out.2 (fun h => by have := HK0.out; omega))
          go_wp2_with fail
          rw [HW1.out]
          refine wp_region_held_drew (S := fun W' => (W'.cell? ⟨w.heap.size, 0, none⟩ = some (.int .i64 tp) ∧ W'.cell? ⟨w.heap.size, 1, none⟩ = some (.int .i64 sy) ∧ W'.cell? ⟨w.heap.size, 2, none⟩ = some (.int .i64 st) ∧ W'.cell? ⟨w.heap.size, 3, none⟩ = some (.slice (some ⟨b, o, none⟩) ms.length c)) ∧ (W'.cell? ⟨wr.heap.size, 0, none⟩ = some (.int .i64 s0) ∧ W'.cell? ⟨wr.heap.size, 1, none⟩ = some (.slice ax t1.length cx) ∧ W'.cell? ⟨wr.heap.size, 2, none⟩ = some (.slice ay t2.length cy) ∧ W'.cell? ⟨wr.heap.size, 3, none⟩ = some (.slice az t3.length cz) ∧ W'.cell? ⟨wr.heap.size, 4, none⟩ = some (.int .i64 s4))) (by kernel_rfl) ?_ (fun hHeld => ?_)
          · exact HS.out _ HD.out
          refine wpAnyH_take (i := 0) (v := ?_) rfl (by kernel_rfl) (by kernel_rfl) (by kernel_rfl) (fun _ _ _ h => h) (Or.inl ⟨by rfl, ?_⟩) (by assumption) ?_
          rotate_left
          · intro w hSw
            try dsimp only at hSw
            go_simp
            try with_reducible rfl
          try simp only [Array.getInternal_eq_getElem, List.getElem_toArray, List.getElem_cons_succ, List.getElem_cons_zero, Act.put, List.setIfInBounds_toArray, List.set_cons_zero, List.set_cons_succ]
          refine wpAnyH_take (i := 1) (v := ?_) rfl (by kernel_rfl) (by kernel_rfl) (by kernel_rfl) (fun _ _ _ h => h) (Or.inl ⟨by rfl, ?_⟩) (by assumption) ?_
          rotate_left
          · intro w hSw
            try dsimp only at hSw
            go_simp
            try with_reducible rfl
          try simp only [Array.getInternal_eq_getElem, List.getElem_toArray, List.getElem_cons_succ, List.getElem_cons_zero, Act.put, List.setIfInBounds_toArray, List.set_cons_zero, List.set_cons_succ]
          refine wpAnyH_ready (rs := [2]) (by kernel_rfl) (by simp) ?_
          refine AllReadyH.cons rfl (fun K hK => ?_) AllReadyH.nil
          go_simp
          go_at_call 123
          refine (implAllows tp sy st _ ms.length (some ⟨b, o, none⟩) c ⟨s0, t1, t2, t3, s4⟩ _ _ _ _ rfl (HX.out.below HD.out (Nat.le_refl _)) (HY.out.below HD.out (Nat.le_refl _)) (HZ.out.below HD.out (Nat.le_refl _))).mono ?_
          rintro e w3 ⟨rfl, bq⟩
          rw [← HBA.out]
          replace HD := Lib.hid (HD.out.trans (bq.mono HD.out.size))
          clear bq
          try go_wp2_with fail
          refine hK.out _ _ ?_ (fun hHeld => ?_)
          · exact HS.out _ HD.out
          clear hK K
          try simp only [Array.getInternal_eq_getElem, List.getElem_toArray, List.getElem_cons_succ, List.getElem_cons_zero, Act.put, List.setIfInBounds_toArray, List.set_cons_zero, List.set_cons_succ]
          refine wpAnyH_take (i := 3) (v := ?_) rfl (by kernel_rfl) (by kernel_rfl) (by kernel_rfl) (fun _ _ _ h => h) (Or.inl ⟨by rfl, ?_⟩) (by assumption) ?_
          rotate_left
          · intro w hSw
            try dsimp only at hSw
            go_simp
            try with_reducible rfl
          try simp only [Array.getInternal_eq_getElem, List.getElem_toArray, List.getElem_cons_succ, List.getElem_cons_zero, Act.put, List.setIfInBounds_toArray, List.set_cons_zero, List.set_cons_succ]
          refine wpAnyH_take (i := 4) (v := ?_) rfl (by kernel_rfl) (by kernel_rfl) (by kernel_rfl) (fun _ _ _ h => h) (Or.inl ⟨by rfl, ?_⟩) (by assumption) ?_
          rotate_left
          · intro w hSw
            try dsimp only at hSw
            go_simp
            try with_reducible rfl
          try simp only [Array.getInternal_eq_getElem, List.getElem_toArray, List.getElem_cons_succ, List.getElem_cons_zero, Act.put, List.setIfInBounds_toArray, List.set_cons_zero, List.set_cons_succ]
          refine wpAnyH_take (i := 5) (v := ?_) rfl (by kernel_rfl) (by kernel_rfl) (by kernel_rfl) (fun _ _ _ h => h) (Or.inl ⟨by rfl, ?_⟩) (by assumption) ?_
          rotate_left
          · intro w hSw
            try dsimp only at hSw
            go_simp
            try with_reducible rfl
          try simp only [Array.getInternal_eq_getElem, List.getElem_toArray, List.getElem_cons_succ, List.getElem_cons_zero, Act.put, List.setIfInBounds_toArray, List.set_cons_zero, List.set_cons_succ]
          refine wpAnyH_take (i := 6) (v := .bool false) rfl (by kernel_rfl) (by kernel_rfl) (by kernel_rfl) (fun _ _ _ h => h) (Or.inl ⟨by rfl, ?_⟩) (by assumption) ?_
          · intro w hSw
            try dsimp only at hSw
            go_simp
            first | done | exact e7 | (have h0 := of_decide_eq_false e7; omega) | (have h0 := of_decide_eq_false e7; simp only [decide_eq_true_eq, decide_eq_false_iff_not]; omega) | (simp only [e7]; done) | trace_state
          try simp only [Array.getInternal_eq_getElem, List.getElem_toArray, List.getElem_cons_succ, List.getElem_cons_zero, Act.put, List.setIfInBounds_toArray, List.set_cons_zero, List.set_cons_succ]
          refine wpAnyH_take (i := 7) (v := ?_) rfl (by kernel_rfl) (by kernel_rfl) (by kernel_rfl) (fun _ _ _ h => h) (Or.inl ⟨by rfl, ?_⟩) (by assumption) ?_
          rotate_left
          · intro w hSw
            try dsimp only at hSw
            go_simp
            try with_reducible rfl
          try simp only [Array.getInternal_eq_getElem, List.getElem_toArray, List.getElem_cons_succ, List.getElem_cons_zero, Act.put, List.setIfInBounds_toArray, List.set_cons_zero, List.set_cons_succ]
          refine wpAnyH_take (i := 8) (v := undef) rfl (by kernel_rfl) (by kernel_rfl) (by kernel_rfl) (fun _ _ _ h => h) (Or.inr ⟨by rfl, rfl⟩) (by assumption) ?_
          try simp only [Array.getInternal_eq_getElem, List.getElem_toArray, List.getElem_cons_succ, List.getElem_cons_zero, Act.put, List.setIfInBounds_toArray, List.set_cons_zero, List.set_cons_succ]
          refine wpAnyH_take (i := 9) (v := undef) rfl (by kernel_rfl) (by kernel_rfl) (by kernel_rfl) (fun _ _ _ h => h) (Or.inr ⟨by rfl, rfl⟩) (by assumption) ?_
          try simp only [Array.getInternal_eq_getElem, List.getElem_toArray, List.getElem_cons_succ, List.getElem_cons_zero, Act.put, List.setIfInBounds_toArray, List.set_cons_zero, List.set_cons_succ]
          refine wpAnyH_take (i := 10) (v := undef) rfl (by kernel_rfl) (by kernel_rfl) (by kernel_rfl) (fun _ _ _ h => h) (Or.inr ⟨by rfl, rfl⟩) (by assumption) ?_
          try simp only [Array.getInternal_eq_getElem, List.getElem_toArray, List.getElem_cons_succ, List.getElem_cons_zero, Act.put, List.setIfInBounds_toArray, List.set_cons_zero, List.set_cons_succ]
          refine wpAnyH_take (i := 11) (v := undef) rfl (by kernel_rfl) (by kernel_rfl) (by kernel_rfl) (fun _ _ _ h => h) (Or.inr ⟨by rfl, rfl⟩) (by assumption) ?_
          try simp only [Array.getInternal_eq_getElem, List.getElem_toArray, List.getElem_cons_succ, List.getElem_cons_zero, Act.put, List.setIfInBounds_toArray, List.set_cons_zero, List.set_cons_succ]
          refine wpAnyH_take (i := 12) (v := undef) rfl (by kernel_rfl) (by kernel_rfl) (by kernel_rfl) (fun _ _ _ h => h) (Or.inr ⟨by rfl, rfl⟩) (by assumption) ?_
          try simp only [Array.getInternal_eq_getElem, List.getElem_toArray, List.getElem_cons_succ, List.getElem_cons_zero, Act.put, List.setIfInBounds_toArray, List.set_cons_zero, List.set_cons_succ]
          refine wpAnyH_take (i := 13) (v := undef) rfl (by kernel_rfl) (by kernel_rfl) (by kernel_rfl) (fun _ _ _ h => h) (Or.inr ⟨by rfl, rfl⟩) (by assumption) ?_
          try simp only [Array.getInternal_eq_getElem, List.getElem_toArray, List.getElem_cons_succ, List.getElem_cons_zero, Act.put, List.setIfInBounds_toArray, List.set_cons_zero, List.set_cons_succ]
          refine wpAnyH_take (i := 14) (v := undef) rfl (by kernel_rfl) (by kernel_rfl) (by kernel_rfl) (fun _ _ _ h => h) (Or.inr ⟨by rfl, rfl⟩) (by assumption) ?_
          try simp only [Array.getInternal_eq_getElem, List.getElem_toArray, List.getElem_cons_succ, List.getElem_cons_zero, Act.put, List.setIfInBounds_toArray, List.set_cons_zero, List.set_cons_succ]
          refine wpAnyH_take (i := 15) (v := undef) rfl (by kernel_rfl) (by kernel_rfl) (by kernel_rfl) (fun _ _ _ h => h) (Or.inr ⟨by rfl, rfl⟩) (by assumption) ?_
          try simp only [Array.getInternal_eq_getElem, List.getElem_toArray, List.getElem_cons_succ, List.getElem_cons_zero, Act.put, List.setIfInBounds_toArray, List.set_cons_zero, List.set_cons_succ]
          refine wpAnyH_take (i := 16) (v := undef) rfl (by kernel_rfl) (by kernel_rfl) (by kernel_rfl) (fun _ _ _ h => h) (Or.inr ⟨by rfl, rfl⟩) (by assumption) ?_
          try simp only [Array.getInternal_eq_getElem, List.getElem_toArray, List.getElem_cons_succ, List.getElem_cons_zero, Act.put, List.setIfInBounds_toArray, List.set_cons_zero, List.set_cons_succ]
          refine wpAnyH_take (i := 17) (v := ?_) rfl (by kernel_rfl) (by kernel_rfl) (by kernel_rfl) (fun _ _ _ h => h) (Or.inl ⟨by rfl, ?_⟩) (by assumption) ?_
          rotate_left
          · intro w hSw
            try dsimp only at hSw
            go_simp
            try with_reducible rfl
          try simp only [Array.getInternal_eq_getElem, List.getElem_toArray, List.getElem_cons_succ, List.getElem_cons_zero, Act.put, List.setIfInBounds_toArray, List.set_cons_zero, List.set_cons_succ]
          refine wpAnyH_take (i := 18) (v := ?_) rfl (by kernel_rfl) (by kernel_rfl) (by kernel_rfl) (fun _ _ _ h => h) (Or.inl ⟨by rfl, ?_⟩) (by assumption) ?_
          rotate_left
          · intro w hSw
            try dsimp only at hSw
            go_simp
            try with_reducible rfl
          try simp only [Array.getInternal_eq_getElem, List.getElem_toArray, List.getElem_cons_succ, List.getElem_cons_zero, Act.put, List.setIfInBounds_toArray, List.set_cons_zero, List.set_cons_succ]
          refine wpAnyH_done (by kernel_rfl) ?_ _
          have HE := Lib.hid (HB1.out.trans (HD.out.mono HB1.out.size))
          go_wp2
          go_roundw
          case rel => exact ⟨k + 1, by omega, by go_num, HN2.out, HE.out⟩
          case measure => simp [intOf]; omega
        have e7 : decide ((0 : Int) < (k : Int)) = true := decide_eq_true (by omega)
        obtain ⟨j, hj⟩ : ∃ j, j + 1 = k := ⟨k - 1, by omega⟩
        obtain ⟨x', y', z', d0, d1, d2, d3, d4, hx', hy', hz'⟩ := HCE.out j (by omega)
        obtain ⟨q', hqm'⟩ : ∃ q, q = ms.getD j mr0 := ⟨_, rfl⟩
        rw [← hqm'] at d0 d4 hx' hy' hz'
        have hjk : k - 1 = j := by omega
        have HBE : Hid (¬ Bef q' ⟨s0, t1, t2, t3, s4⟩ → muB tp sy st ms = false) := Lib.hid (fun h => HBF.out hk0 (by rw [hjk, ← hqm']; exact h))
        have HSE : Hid (stB2 st ⟨s0, t1, t2, t3, s4⟩ = true → rwB tp sy ⟨s0, t1, t2, t3, s4⟩ = true → Bef q' ⟨s0, t1, t2, t3, s4⟩ → MuTo tp sy st ms (k + 1)) := Lib.hid (fun h h' h'' => HST.out h h' (fun _ => by rw [hjk, ← hqm']; exact h''))
        obtain ⟨p0, r1, r2, r3, p4⟩ := q'
        dsimp only at d0 d4 hx' hy' hz'
        have HB2 := Lib.hid (HBB.out.trans (Q1.out.mono HBB.out.size))
        have HXP := Lib.hid (hx'.below HB2.out (Nat.le_refl _))
        obtain ⟨_, _, bx, dx, rfl, _, _⟩ := hx'
        obtain ⟨_, _, bY, dy, rfl, _, _⟩ := hy'
        obtain ⟨_, _, bz, dz, rfl, _, _⟩ := hz'
        have hq' : ∀ W', Below W1.heap.size W1 W' → ∀ j v, w.cell? ⟨b, j, none⟩ = some v → W'.cell? ⟨b, j, none⟩ = some v := fun W' hW j v h => ((HB2.out.trans (hW.mono HB2.out.size)).cell (p := ⟨b, j, none⟩) hb).trans h
        have HS : Hid (∀ W', Below W1.heap.size W1 W' → ((W'.cell? ⟨w.heap.size, 0, none⟩ = some (.int .i64 tp) ∧ W'.cell? ⟨w.heap.size, 1, none⟩ = some (.int .i64 sy) ∧ W'.cell? ⟨w.heap.size, 2, none⟩ = some (.int .i64 st) ∧ W'.cell? ⟨w.heap.size, 3, none⟩ = some (.slice (some ⟨b, o, none⟩) ms.length c)) ∧ (W'.cell? ⟨wr.heap.size, 0, none⟩ = some (.int .i64 s0) ∧ W'.cell? ⟨wr.heap.size, 1, none⟩ = some (.slice ax t1.length cx) ∧ W'.cell? ⟨wr.heap.size, 2, none⟩ = some (.slice ay t2.length cy) ∧ W'.cell? ⟨wr.heap.size, 3, none⟩ = some (.slice az t3.length cz) ∧ W'.cell? ⟨wr.heap.size, 4, none⟩ = some (.int .i64 s4)) ∧ W'.cell? ⟨b, o + j * 5, none⟩ = some (.int .i64 p0) ∧ W'.cell? ⟨b, o + j * 5 + 1, none⟩ = some (.slice bx r1.length dx) ∧ W'.cell? ⟨b, o + j * 5 + 2, none⟩ = some (.slice bY r2.length dy) ∧ W'.cell? ⟨b, o + j * 5 + 3, none⟩ = some (.slice bz r3.length dz) ∧ W'.cell? ⟨b, o + j * 5 + 4, none⟩ = some (.int .i64 p4))) := Lib.hid (fun W' hW' => ⟨⟨(KM.out.below hW' KM.out.lt).cell 0 rfl, (KM.out.below hW' KM.out.lt).cell 1 rfl, (KM.out.below hW' KM.out.lt).cell 2 rfl, (KM.out.below hW' KM.out.lt).cell 3 rfl⟩, ⟨(KT.out.below hW' KT.out.lt).cell 0 rfl, (KT.out.below hW' KT.out.lt).cell 1 rfl, (KT.out.below hW' KT.out.lt).cell 2 rfl, (KT.out.below hW' KT.out.lt).cell 3 rfl, (KT.out.below hW' KT.out.lt).cell 4 rfl⟩, hq' W' hW' _ _ d0, hq' W' hW' _ _ d1, hq' W' hW' _ _ d2, hq' W' hW' _ _ d3, hq' W' hW' _ _ d4⟩)
        have i2 : (0 : Int) ≤ (j : Int) := by omega
        have i3 : (j : Int) < (ms.length : Int) := by omega
        have i4 : IntKind.i64.wrap ((k : Int) - 1) = (j : Int) := by rw [IntKind.wrap_i64]; omega
        obtain ⟨cI, hcI⟩ : ∃ x, x = crI ⟨p0, r1, r2, r3, p4⟩ ⟨s0, t1, t2, t3, s4⟩ := ⟨_, rfl⟩
        have HCI := Lib.hid hcI
        obtain ⟨bf, hbf⟩ : ∃ x, x = befB ⟨p0, r1, r2, r3, p4⟩ ⟨s0, t1, t2, t3, s4⟩ := ⟨_, rfl⟩
        have HFB := Lib.hid hbf
        have e8 : decide (0 ≤ cI) = !bf := by rw [hcI, hbf]; exact crI_bef _ _
        clear d0 d1 d2 d3 d4 hqm' hjk hcI hbf hq' hj hk0
        rcases eqOr bf with hbo | hbo
        · subst hbo
          have e9 : decide (0 ≤ cI) = true := e8
          clear e8
          have HF := Lib.hid (HBE.out (fun h => by have := HFB.out; rw [befB_yes h] at this; cases this))
          go_wp2_with fail
          rw [HW1.out]
          refine wp_region_held_drew (S := fun W' => (W'.cell? ⟨w.heap.size, 0, none⟩ = some (.int .i64 tp) ∧ W'.cell? ⟨w.heap.size, 1, none⟩ = some (.int .i64 sy) ∧ W'.cell? ⟨w.heap.size, 2, none⟩ = some (.int .i64 st) ∧ W'.cell? ⟨w.heap.size, 3, none⟩ = some (.slice (some ⟨b, o, none⟩) ms.length c)) ∧ (W'.cell? ⟨wr.heap.size, 0, none⟩ = some (.int .i64 s0) ∧ W'.cell? ⟨wr.heap.size, 1, none⟩ = some (.slice ax t1.length cx) ∧ W'.cell? ⟨wr.heap.size, 2, none⟩ = some (.slice ay t2.length cy) ∧ W'.cell? ⟨wr.heap.size, 3, none⟩ = some (.slice az t3.length cz) ∧ W'.cell? ⟨wr.heap.size, 4, none⟩ = some (.int .i64 s4)) ∧ W'.cell? ⟨b, o + j * 5, none⟩ = some (.int .i64 p0) ∧ W'.cell? ⟨b, o + j * 5 + 1, none⟩ = some (.slice bx r1.length dx) ∧ W'.cell? ⟨b, o + j * 5 + 2, none⟩ = some (.slice bY r2.length dy) ∧ W'.cell? ⟨b, o + j * 5 + 3, none⟩ = some (.slice bz r3.length dz) ∧ W'.cell? ⟨b, o + j * 5 + 4, none⟩ = some (.int .i64 p4)) (by kernel_rfl) ?_ (fun hHeld => ?_)
          · exact HS.out _ HD.out
          refine wpAnyH_take (i := 0) (v := ?_) rfl (by kernel_rfl) (by kernel_rfl) (by kernel_rfl) (fun _ _ _ h => h) (Or.inl ⟨by rfl, ?_⟩) (by assumption) ?_
          rotate_left
          · intro w hSw
            try dsimp only at hSw
            go_simp
            try with_reducible rfl
          try simp only [Array.getInternal_eq_getElem, List.getElem_toArray, List.getElem_cons_succ, List.getElem_cons_zero, Act.put, List.setIfInBounds_toArray, List.set_cons_zero, List.set_cons_succ]
          refine wpAnyH_take (i := 1) (v := ?_) rfl (by kernel_rfl) (by kernel_rfl) (by kernel_rfl) (fun _ _ _ h => h) (Or.inl ⟨by rfl, ?_⟩) (by assumption) ?_
          rotate_left
          · intro w hSw
            try dsimp only at hSw
            go_simp
            try with_reducible rfl
          try simp only [Array.getInternal_eq_getElem, List.getElem_toArray, List.getElem_cons_succ, List.getElem_cons_zero, Act.put, List.setIfInBounds_toArray, List.set_cons_zero, List.set_cons_succ]
          refine wpAnyH_ready (rs := [2]) (by kernel_rfl) (by simp) ?_
          refine AllReadyH.cons rfl (fun K hK => ?_) AllReadyH.nil
          go_simp
          go_at_call 123
          refine (implAllows tp sy st _ ms.length (some ⟨b, o, none⟩) c ⟨s0, t1, t2, t3, s4⟩ _ _ _ _ rfl (HX.out.below HD.out (Nat.le_refl _)) (HY.out.below HD.out (Nat.le_refl _)) (HZ.out.below HD.out (Nat.le_refl _))).mono ?_
          rintro e w3 ⟨rfl, bq⟩
          rw [← HBA.out]
          replace HD := Lib.hid (HD.out.trans (bq.mono HD.out.size))
          clear bq
          try go_wp2_with fail
          refine hK.out _ _ ?_ (fun hHeld => ?_)
          · exact HS.out _ HD.out
          clear hK K
          try simp only [Array.getInternal_eq_getElem, List.getElem_toArray, List.getElem_cons_succ, List.getElem_cons_zero, Act.put, List.setIfInBounds_toArray, List.set_cons_zero, List.set_cons_succ]
          refine wpAnyH_take (i := 3) (v := ?_) rfl (by kernel_rfl) (by kernel_rfl) (by kernel_rfl) (fun _ _ _ h => h) (Or.inl ⟨by rfl, ?_⟩) (by assumption) ?_
          rotate_left
          · intro w hSw
            try dsimp only at hSw
            go_simp
            try with_reducible rfl
          try simp only [Array.getInternal_eq_getElem, List.getElem_toArray, List.getElem_cons_succ, List.getElem_cons_zero, Act.put, List.setIfInBounds_toArray, List.set_cons_zero, List.set_cons_succ]
          refine wpAnyH_take (i := 4) (v := ?_) rfl (by kernel_rfl) (by kernel_rfl) (by kernel_rfl) (fun _ _ _ h => h) (Or.inl ⟨by rfl, ?_⟩) (by assumption) ?_
          rotate_left
          · intro w hSw
            try dsimp only at hSw
            go_simp
            try with_reducible rfl
          try simp only [Array.getInternal_eq_getElem, List.getElem_toArray, List.getElem_cons_succ, List.getElem_cons_zero, Act.put, List.setIfInBounds_toArray, List.set_cons_zero, List.set_cons_succ]
          refine wpAnyH_take (i := 5) (v := ?_) rfl (by kernel_rfl) (by kernel_rfl) (by kernel_rfl) (fun _ _ _ h => h) (Or.inl ⟨by rfl, ?_⟩) (by assumption) ?_
          rotate_left
          · intro w hSw
            try dsimp only at hSw
            go_simp
            try with_reducible rfl
          try simp only [Array.getInternal_eq_getElem, List.getElem_toArray, List.getElem_cons_succ, List.getElem_cons_zero, Act.put, List.setIfInBounds_toArray, List.set_cons_zero, List.set_cons_succ]
          refine wpAnyH_take (i := 6) (v := .bool true) rfl (by kernel_rfl) (by kernel_rfl) (by kernel_rfl) (fun _ _ _ h => h) (Or.inl ⟨by rfl, ?_⟩) (by assumption) ?_
          · intro w hSw
            try dsimp only at hSw
            go_simp
            first | done | exact e7 | (have h0 := of_decide_eq_true e7; omega) | (have h0 := of_decide_eq_true e7; simp only [decide_eq_true_eq, decide_eq_false_iff_not]; omega) | (simp only [e7]; done) | trace_state
          try simp only [Array.getInternal_eq_getElem, List.getElem_toArray, List.getElem_cons_succ, List.getElem_cons_zero, Act.put, List.setIfInBounds_toArray, List.set_cons_zero, List.set_cons_succ]
          refine wpAnyH_take (i := 7) (v := ?_) rfl (by kernel_rfl) (by kernel_rfl) (by kernel_rfl) (fun _ _ _ h => h) (Or.inl ⟨by rfl, ?_⟩) (by assumption) ?_
          rotate_left
          · intro w hSw
            try dsimp only at hSw
            go_simp
            try with_reducible rfl
          try simp only [Array.getInternal_eq_getElem, List.getElem_toArray, List.getElem_cons_succ, List.getElem_cons_zero, Act.put, List.setIfInBounds_toArray, List.set_cons_zero, List.set_cons_succ]
          refine wpAnyH_take (i := 8) (v := ?_) rfl (by kernel_rfl) (by kernel_rfl) (by kernel_rfl) (fun _ _ _ h => h) (Or.inl ⟨by rfl, ?_⟩) (by assumption) ?_
          rotate_left
          · intro w hSw
            try dsimp only at hSw
            go_simp
            try with_reducible rfl
          try simp only [Array.getInternal_eq_getElem, List.getElem_toArray, List.getElem_cons_succ, List.getElem_cons_zero, Act.put, List.setIfInBounds_toArray, List.set_cons_zero, List.set_cons_succ]
          refine wpAnyH_take (i := 9) (v := ?_) rfl (by kernel_rfl) (by kernel_rfl) (by kernel_rfl) (fun _ _ _ h => h) (Or.inl ⟨by rfl, ?_⟩) (by assumption) ?_
          rotate_left
          · intro w hSw
            try dsimp only at hSw
            go_simp
            try with_reducible rfl
          try simp only [Array.getInternal_eq_getElem, List.getElem_toArray, List.getElem_cons_succ, List.getElem_cons_zero, Act.put, List.setIfInBounds_toArray, List.set_cons_zero, List.set_cons_succ]
          refine wpAnyH_take (i := 10) (v := ?_) rfl (by kernel_rfl) (by kernel_rfl) (by kernel_rfl) (fun _ _ _ h => h) (Or.inl ⟨by rfl, ?_⟩) (by assumption) ?_
          rotate_left
          · intro w hSw
            try dsimp only at hSw
            go_simp
            try with_reducible rfl
          try simp only [Array.getInternal_eq_getElem, List.getElem_toArray, List.getElem_cons_succ, List.getElem_cons_zero, Act.put, List.setIfInBounds_toArray, List.set_cons_zero, List.set_cons_succ]
          refine wpAnyH_take (i := 11) (v := ?_) rfl (by kernel_rfl) (by kernel_rfl) (by kernel_rfl) (fun _ _ _ h => h) (Or.inl ⟨by rfl, ?_⟩) (by assumption) ?_
          rotate_left
          · intro w hSw
            try dsimp only at hSw
            go_simp
            try with_reducible rfl
          try simp only [Array.getInternal_eq_getElem, List.getElem_toArray, List.getElem_cons_succ, List.getElem_cons_zero, Act.put, List.setIfInBounds_toArray, List.set_cons_zero, List.set_cons_succ]
          refine wpAnyH_take (i := 12) (v := ?_) rfl (by kernel_rfl) (by kernel_rfl) (by kernel_rfl) (fun _ _ _ h => h) (Or.inl ⟨by rfl, ?_⟩) (by assumption) ?_
          rotate_left
          · intro w hSw
            try dsimp only at hSw
            go_simp
            try with_reducible rfl
          try simp only [Array.getInternal_eq_getElem, List.getElem_toArray, List.getElem_cons_succ, List.getElem_cons_zero, Act.put, List.setIfInBounds_toArray, List.set_cons_zero, List.set_cons_succ]
          refine wpAnyH_take (i := 13) (v := ?_) rfl (by kernel_rfl) (by kernel_rfl) (by kernel_rfl) (fun _ _ _ h => h) (Or.inl ⟨by rfl, ?_⟩) (by assumption) ?_
          rotate_left
          · intro w hSw
            try dsimp only at hSw
            go_simp
            try with_reducible rfl
          try simp only [Array.getInternal_eq_getElem, List.getElem_toArray, List.getElem_cons_succ, List.getElem_cons_zero, Act.put, List.setIfInBounds_toArray, List.set_cons_zero, List.set_cons_succ]
          refine wpAnyH_take (i := 14) (v := ?_) rfl (by kernel_rfl) (by kernel_rfl) (by kernel_rfl) (fun _ _ _ h => h) (Or.inl ⟨by rfl, ?_⟩) (by assumption) ?_
          rotate_left
          · intro w hSw
            try dsimp only at hSw
            go_simp
            try with_reducible rfl
          try simp only [Array.getInternal_eq_getElem, List.getElem_toArray, List.getElem_cons_succ, List.getElem_cons_zero, Act.put, List.setIfInBounds_toArray, List.set_cons_zero, List.set_cons_succ]
          refine wpAnyH_ready (rs := [15]) (by kernel_rfl) (by simp) ?_
          refine AllReadyH.cons rfl (fun K hK => ?_) AllReadyH.nil
          go_simp
          go_at_call 91
          refine (implCompare p0 p4 s0 s4 r1 r2 r3 t1 t2 t3 _ _ _ _ _ _ _ _ _ _ _ _ _ (HXP.out.below HD.out (Nat.le_refl _)) (HX.out.below HD.out (Nat.le_refl _))).mono ?_
          rintro e w3 ⟨rfl, bq⟩
          rw [← HCI.out]
          replace HD := Lib.hid (HD.out.trans (bq.mono HD.out.size))
          clear bq
          try go_wp2_with fail
          refine hK.out _ _ ?_ (fun hHeld => ?_)
          · exact HS.out _ HD.out
          clear hK K
          try simp only [Array.getInternal_eq_getElem, List.getElem_toArray, List.getElem_cons_succ, List.getElem_cons_zero, Act.put, List.setIfInBounds_toArray, List.set_cons_zero, List.set_cons_succ]
          refine wpAnyH_take (i := 16) (v := .bool true) rfl (by kernel_rfl) (by kernel_rfl) (by kernel_rfl) (fun _ _ _ h => h) (Or.inl ⟨by rfl, ?_⟩) (by assumption) ?_
          · intro w hSw
            try dsimp only at hSw
            go_simp
            first | done | exact e9 | (have h0 := of_decide_eq_true e9; omega) | (have h0 := of_decide_eq_true e9; simp only [decide_eq_true_eq, decide_eq_false_iff_not]; omega) | (simp only [e9]; done) | trace_state
          try simp only [Array.getInternal_eq_getElem, List.getElem_toArray, List.getElem_cons_succ, List.getElem_cons_zero, Act.put, List.setIfInBounds_toArray, List.set_cons_zero, List.set_cons_succ]
          refine wpAnyH_take (i := 17) (v := ?_) rfl (by kernel_rfl) (by kernel_rfl) (by kernel_rfl) (fun _ _ _ h => h) (Or.inl ⟨by rfl, ?_⟩) (by assumption) ?_
          rotate_left
          · intro w hSw
            try dsimp only at hSw
            go_simp
            try with_reducible rfl
          try simp only [Array.getInternal_eq_getElem, List.getElem_toArray, List.getElem_cons_succ, List.getElem_cons_zero, Act.put, List.setIfInBounds_toArray, List.set_cons_zero, List.set_cons_succ]
          refine wpAnyH_take (i := 18) (v := ?_) rfl (by kernel_rfl) (by kernel_rfl) (by kernel_rfl) (fun _ _ _ h => h) (Or.inl ⟨by rfl, ?_⟩) (by assumption) ?_
          rotate_left
          · intro w hSw
            try dsimp only at hSw
            go_simp
            try with_reducible rfl
          try simp only [Array.getInternal_eq_getElem, List.getElem_toArray, List.getElem_cons_succ, List.getElem_cons_zero, Act.put, List.setIfInBounds_toArray, List.set_cons_zero, List.set_cons_succ]
          refine wpAnyH_done (by kernel_rfl) ?_ _
          have HE := Lib.hid (HB1.out.trans (HD.out.mono HB1.out.size))
          go_wp2
          go_ret
          exact ⟨by rw [HF.out] <;> rfl, HB.out.trans (HE.out.mono HB.out.size)⟩
        subst hbo
        have e9 : decide (0 ≤ cI) = false := e8
        clear e8
        have HN2 := Lib.hid (HSE.out HAND.out.1 HAND.out.2 (befB_iff.1 HFB.out.symm))
        go_wp2_with fail
        rw [HW1.out]
        refine wp_region_held_drew (S := fun W' => (W'.cell? ⟨w.heap.size, 0, none⟩ = some (.int .i64 tp) ∧ W'.cell? ⟨w.heap.size, 1, none⟩ = some (.int .i64 sy) ∧ W'.cell? ⟨w.heap.size, 2, none⟩ = some (.int .i64 st) ∧ W'.cell? ⟨w.heap.size, 3, none⟩ = some (.slice (some ⟨b, o, none⟩) ms.length c)) ∧ (W'.cell? ⟨wr.heap.size, 0, none⟩ = some (.int .i64 s0) ∧ W'.cell? ⟨wr.heap.size, 1, none⟩ = some (.slice ax t1.length cx) ∧ W'.cell? ⟨wr.heap.size, 2, none⟩ = some (.slice ay t2.length cy) ∧ W'.cell? ⟨wr.heap.size, 3, none⟩ = some (.slice az t3.length cz) ∧ W'.cell? ⟨wr.heap.size, 4, none⟩ = some (.int .i64 s4)) ∧ W'.cell? ⟨b, o + j * 5, none⟩ = some (.int .i64 p0) ∧ W'.cell? ⟨b, o + j * 5 + 1, none⟩ = some (.slice bx r1.length dx) ∧ W'.cell? ⟨b, o + j * 5 + 2, none⟩ = some (.slice bY r2.length dy) ∧ W'.cell? ⟨b, o + j * 5 + 3, none⟩ = some (.slice bz r3.length dz) ∧ W'.cell? ⟨b, o + j * 5 + 4, none⟩ = some (.int .i64 p4)) (by kernel_rfl) ?_ (fun hHeld => ?_)
        · exact HS.out _ HD.out
        refine wpAnyH_take (i := 0) (v := ?_) rfl (by kernel_rfl) (by kernel_rfl) (by kernel_rfl) (fun _ _ _ h => h) (Or.inl ⟨by rfl, ?_⟩) (by assumption) ?_
        rotate_left
        · intro w hSw
          try dsimp only at hSw
          go_simp
          try with_reducible rfl
        try simp only [Array.getInternal_eq_getElem, List.getElem_toArray, List.getElem_cons_succ, List.getElem_cons_zero, Act.put, List.setIfInBounds_toArray, List.set_cons_zero, List.set_cons_succ]
        refine wpAnyH_take (i := 1) (v := ?_) rfl (by kernel_rfl) (by kernel_rfl) (by kernel_rfl) (fun _ _ _ h => h) (Or.inl ⟨by rfl, ?_⟩) (by assumption) ?_
        rotate_left
        · intro w hSw
          try dsimp only at hSw
          go_simp
          try with_reducible rfl
        try simp only [Array.getInternal_eq_getElem, List.getElem_toArray, List.getElem_cons_succ, List.getElem_cons_zero, Act.put, List.setIfInBounds_toArray, List.set_cons_zero, List.set_cons_succ]
        refine wpAnyH_ready (rs := [2]) (by kernel_rfl) (by simp) ?_
        refine AllReadyH.cons rfl (fun K hK => ?_) AllReadyH.nil
        go_simp
        go_at_call 123
        refine (implAllows tp sy st _ ms.length (some ⟨b, o, none⟩) c ⟨s0, t1, t2, t3, s4⟩ _ _ _ _ rfl (HX.out.below HD.out (Nat.le_refl _)) (HY.out.below HD.out (Nat.le_refl _)) (HZ.out.below HD.out (Nat.le_refl _))).mono ?_
        rintro e w3 ⟨rfl, bq⟩
        rw [← HBA.out]
        replace HD := Lib.hid (HD.out.trans (bq.mono HD.out.size))
        clear bq
        try go_wp2_with fail
        refine hK.out _ _ ?_ (fun hHeld => ?_)
        · exact HS.out _ HD.out
        clear hK K
        try simp only [Array.getInternal_eq_getElem, List.getElem_toArray, List.getElem_cons_succ, List.getElem_cons_zero, Act.put, List.setIfInBounds_toArray, List.set_cons_zero, List.set_cons_succ]
        refine wpAnyH_take (i := 3) (v := ?_) rfl (by kernel_rfl) (by kernel_rfl) (by kernel_rfl) (fun _ _ _ h => h) (Or.inl ⟨by rfl, ?_⟩) (by assumption) ?_
        rotate_left
        · intro w hSw
          try dsimp only at hSw
          go_simp
          try with_reducible rfl
        try simp only [Array.getInternal_eq_getElem, List.getElem_toArray, List.getElem_cons_succ, List.getElem_cons_zero, Act.put, List.setIfInBounds_toArray, List.set_cons_zero, List.set_cons_succ]
        refine wpAnyH_take (i := 4) (v := ?_) rfl (by kernel_rfl) (by kernel_rfl) (by kernel_rfl) (fun _ _ _ h => h) (Or.inl ⟨by rfl, ?_⟩) (by assumption) ?_
        rotate_left
        · intro w hSw
          try dsimp only at hSw
          go_simp
          try with_reducible rfl
        try simp only [Array.getInternal_eq_getElem, List.getElem_toArray, List.getElem_cons_succ, List.getElem_cons_zero, Act.put, List.setIfInBounds_toArray, List.set_cons_zero, List.set_cons_succ]
        refine wpAnyH_take (i := 5) (v := ?_) rfl (by kernel_rfl) (by kernel_rfl) (by kernel_rfl) (fun _ _ _ h => h) (Or.inl ⟨by rfl, ?_⟩) (by assumption) ?_
        rotate_left
        · intro w hSw
          try dsimp only at hSw
          go_simp
          try with_reducible rfl
        try simp only [Array.getInternal_eq_getElem, List.getElem_toArray, List.getElem_cons_succ, List.getElem_cons_zero, Act.put, List.setIfInBounds_toArray, List.set_cons_zero, List.set_cons_succ]
        refine wpAnyH_take (i := 6) (v := .bool true) rfl (by kernel_rfl) (by kernel_rfl) (by kernel_rfl) (fun _ _ _ h => h) (Or.inl ⟨by rfl, ?_⟩) (by assumption) ?_
        · intro w hSw
          try dsimp only at hSw
          go_simp
          first | done | exact e7 | (have h0 := of_decide_eq_true e7; omega) | (have h0 := of_decide_eq_true e7; simp only [decide_eq_true_eq, decide_eq_false_iff_not]; omega) | (simp only [e7]; done) | trace_state
        try simp only [Array.getInternal_eq_getElem, List.getElem_toArray, List.getElem_cons_succ, List.getElem_cons_zero, Act.put, List.setIfInBounds_toArray, List.set_cons_zero, List.set_cons_succ]
        refine wpAnyH_take (i := 7) (v := ?_) rfl (by kernel_rfl) (by kernel_rfl) (by kernel_rfl) (fun _ _ _ h => h) (Or.inl ⟨by rfl, ?_⟩) (by assumption) ?_
        rotate_left
        · intro w hSw
          try dsimp only at hSw
          go_simp
          try with_reducible rfl
        try simp only [Array.getInternal_eq_getElem, List.getElem_toArray, List.getElem_cons_succ, List.getElem_cons_zero, Act.put, List.setIfInBounds_toArray, List.set_cons_zero, List.set_cons_succ]
        refine wpAnyH_take (i := 8) (v := ?_) rfl (by kernel_rfl) (by kernel_rfl) (by kernel_rfl) (fun _ _ _ h => h) (Or.inl ⟨by rfl, ?_⟩) (by assumption) ?_
        rotate_left
        · intro w hSw
          try dsimp only at hSw
          go_simp
          try with_reducible rfl
        try simp only [Array.getInternal_eq_getElem, List.getElem_toArray, List.getElem_cons_succ, List.getElem_cons_zero, Act.put, List.setIfInBounds_toArray, List.set_cons_zero, List.set_cons_succ]
        refine wpAnyH_take (i := 9) (v := ?_) rfl (by kernel_rfl) (by kernel_rfl) (by kernel_rfl) (fun _ _ _ h => h) (Or.inl ⟨by rfl, ?_⟩) (by assumption) ?_
        rotate_left
        · intro w hSw
          try dsimp only at hSw
          go_simp
          try with_reducible rfl
        try simp only [Array.getInternal_eq_getElem, List.getElem_toArray, List.getElem_cons_succ, List.getElem_cons_zero, Act.put, List.setIfInBounds_toArray, List.set_cons_zero, List.set_cons_succ]
        refine wpAnyH_take (i := 10) (v := ?_) rfl (by kernel_rfl) (by kernel_rfl) (by kernel_rfl) (fun _ _ _ h => h) (Or.inl ⟨by rfl, ?_⟩) (by assumption) ?_
        rotate_left
        · intro w hSw
          try dsimp only at hSw
          go_simp
          try with_reducible rfl
        try simp only [Array.getInternal_eq_getElem, List.getElem_toArray, List.getElem_cons_succ, List.getElem_cons_zero, Act.put, List.setIfInBounds_toArray, List.set_cons_zero, List.set_cons_succ]
        refine wpAnyH_take (i := 11) (v := ?_) rfl (by kernel_rfl) (by kernel_rfl) (by kernel_rfl) (fun _ _ _ h => h) (Or.inl ⟨by rfl, ?_⟩) (by assumption) ?_
        rotate_left
        · intro w hSw
          try dsimp only at hSw
          go_simp
          try with_reducible rfl
        try simp only [Array.getInternal_eq_getElem, List.getElem_toArray, List.getElem_cons_succ, List.getElem_cons_zero, Act.put, List.setIfInBounds_toArray, List.set_cons_zero, List.set_cons_succ]
        refine wpAnyH_take (i := 12) (v := ?_) rfl (by kernel_rfl) (by kernel_rfl) (by kernel_rfl) (fun _ _ _ h => h) (Or.inl ⟨by rfl, ?_⟩) (by assumption) ?_
        rotate_left
        · intro w hSw
          try dsimp only at hSw
          go_simp
          try with_reducible rfl
        try simp only [Array.getInternal_eq_getElem, List.getElem_toArray, List.getElem_cons_succ, List.getElem_cons_zero, Act.put, List.setIfInBounds_toArray, List.set_cons_zero, List.set_cons_succ]
        refine wpAnyH_take (i := 13) (v := ?_) rfl (by kernel_rfl) (by kernel_rfl) (by kernel_rfl) (fun _ _ _ h => h) (Or.inl ⟨by rfl, ?_⟩) (by assumption) ?_
        rotate_left
        · intro w hSw
          try dsimp only at hSw
          go_simp
          try with_reducible rfl
        try simp only [Array.getInternal_eq_getElem, List.getElem_toArray, List.getElem_cons_succ, List.getElem_cons_zero, Act.put, List.setIfInBounds_toArray, List.set_cons_zero, List.set_cons_succ]
        refine wpAnyH_take (i := 14) (v := ?_) rfl (by kernel_rfl) (by kernel_rfl) (by kernel_rfl) (fun _ _ _ h => h) (Or.inl ⟨by rfl, ?_⟩) (by assumption) ?_
        rotate_left
        · intro w hSw
          try dsimp only at hSw
          go_simp
          try with_reducible rfl
        try simp only [Array.getInternal_eq_getElem, List.getElem_toArray, List.getElem_cons_succ, List.getElem_cons_zero, Act.put, List.setIfInBounds_toArray, List.set_cons_zero, List.set_cons_succ]
        refine wpAnyH_ready (rs := [15]) (by kernel_rfl) (by simp) ?_
        refine AllReadyH.cons rfl (fun K hK => ?_) AllReadyH.nil
        go_simp
        go_at_call 91
        refine (implCompare p0 p4 s0 s4 r1 r2 r3 t1 t2 t3 _ _ _ _ _ _ _ _ _ _ _ _ _ (HXP.out.below HD.out (Nat.le_refl _)) (HX.out.below HD.out (Nat.le_refl _))).mono ?_
        rintro e w3 ⟨rfl, bq⟩
        rw [← HCI.out]
        replace HD := Lib.hid (HD.out.trans (bq.mono HD.out.size))
        clear bq
        try go_wp2_with fail
        refine hK.out _ _ ?_ (fun hHeld => ?_)
        · exact HS.out _ HD.out
        clear hK K
        try simp only [Array.getInternal_eq_getElem, List.getElem_toArray, List.getElem_cons_succ, List.getElem_cons_zero, Act.put, List.setIfInBounds_toArray, List.set_cons_zero, List.set_cons_succ]
        refine wpAnyH_take (i := 16) (v := .bool false) rfl (by kernel_rfl) (by kernel_rfl) (by kernel_rfl) (fun _ _ _ h => h) (Or.inl ⟨by rfl, ?_⟩) (by assumption) ?_
        · intro w hSw
          try dsimp only at hSw
          go_simp
          first | done | exact e9 | (have h0 := of_decide_eq_false e9; omega) | (have h0 := of_decide_eq_false e9; simp only [decide_eq_true_eq, decide_eq_false_iff_not]; omega) | (simp only [e9]; done) | trace_state
        try simp only [Array.getInternal_eq_getElem, List.getElem_toArray, List.getElem_cons_succ, List.getElem_cons_zero, Act.put, List.setIfInBounds_toArray, List.set_cons_zero, List.set_cons_succ]
        refine wpAnyH_take (i := 17) (v := ?_) rfl (by kernel_rfl) (by kernel_rfl) (by kernel_rfl) (fun _ _ _ h => h) (Or.inl ⟨by rfl, ?_⟩) (by assumption) ?_
        rotate_left
        · intro w hSw
          try dsimp only at hSw
          go_simp
          try with_reducible rfl
        try simp only [Array.getInternal_eq_getElem, List.getElem_toArray, List.getElem_cons_succ, List.getElem_cons_zero, Act.put, List.setIfInBounds_toArray, List.set_cons_zero, List.set_cons_succ]
        refine wpAnyH_take (i := 18) (v := ?_) rfl (by kernel_rfl) (by kernel_rfl) (by kernel_rfl) (fun _ _ _ h => h) (Or.inl ⟨by rfl, ?_⟩) (by assumption) ?_
        rotate_left
        · intro w hSw
          try dsimp only at hSw
          go_simp
          try with_reducible rfl
        try simp only [Array.getInternal_eq_getElem, List.getElem_toArray, List.getElem_cons_succ, List.getElem_cons_zero, Act.put, List.setIfInBounds_toArray, List.set_cons_zero, List.set_cons_succ]
        refine wpAnyH_done (by kernel_rfl) ?_ _
        have HE := Lib.hid (HB1.out.trans (HD.out.mono HB1.out.size))
        go_wp2
        go_roundw
        case rel => exact ⟨k + 1, by omega, by go_num, HN2.out, HE.out⟩
        case measure => simp [intOf]; omega
      · obtain rfl : k = ms.length := by omega
        have HF := Lib.hid (muB_yes (tp := tp) (sy := sy) (st := st) (ms := ms) ⟨HH.out, HTO.out⟩)
        clear hr
        have hnlt : ¬ ((ms.length : Int) < (ms.length : Int)) := by omega
        go_wp2
        go_ret
        exact ⟨by rw [HF.out] <;> rfl, HBB.out⟩
end Go.Proofs.Ytepdjlhlcjkdkaa.Ints

