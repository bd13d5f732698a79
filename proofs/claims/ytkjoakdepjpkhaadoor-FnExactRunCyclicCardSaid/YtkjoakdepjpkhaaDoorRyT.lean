/- RunCyclic: the model's function, and both contracts in the law's order. -/
import Derived.Test.YtkjoakdepjpkhaaDoorRyS
import Derived.Test.YtkjoakdepjpkhaaDoorRyI
namespace Go.Proofs.YtkjoakdepjpkhaaDoor.Ints
open Go.RowKit
set_option linter.unusedVariables false
set_option linter.unusedSimpArgs false
theorem specBudgetY (n : Int) (b : Bool) (w : World) (h : b = true ↔ (1 ≤ n ∧ n ≤ 20000)) : Calls Tryd.prog 64 #[.int .i64 n] w fun e w' => e = .returned (.bool b) ∧ w = w' := by
  cases b with
  | true =>
    have H := Lib.hid (h.1 rfl)
    clear h
    go_enter Tryd.func64, Tryd.ntmps64
    go_wp2_with fail
    refine (specInY n 1 20000 _ H.out).mono ?_
    rintro e w1 ⟨rfl, rfl⟩
    go_wp2
    go_ret
    exact ⟨rfl, rfl⟩
  | false =>
    have H : Hid (¬ (1 ≤ n ∧ n ≤ 20000)) := Lib.hid (fun q => by have := h.2 q; cases this)
    clear h
    go_enter Tryd.func64, Tryd.ntmps64
    go_wp2_with fail
    refine (specInN n 1 20000 _ H.out).mono ?_
    rintro e w1 ⟨rfl, rfl⟩
    go_wp2
    go_ret
    exact ⟨rfl, rfl⟩
set_option maxRecDepth 100000 in
set_option maxHeartbeats 8000000 in
theorem specRunCyc (vz x : Value) (zss : List (List Int)) (at' : Int) (xs : List Int) (bu : Int) (w : World) (hz : RdL w vz zss) (hx : Rd w x xs) :
    Calls Tryd.prog 28 #[.agg #[vz], .agg #[.int .i64 at', x], .int .i64 bu] w fun e w' => ∃ u, e = .returned (.tuple #[.agg #[.int .i64 (ryR zss at' xs bu).at', u], .int .i64 (ryR zss at' xs bu).n, .bool (ryR zss at' xs bu).h, .int .i64 (ryR zss at' xs bu).code]) ∧ Ow w' w.heap.size w'.heap.size u (ryR zss at' xs bu).cs ∧ Below w.heap.size w w' := by
  have HZ := Lib.hid hz
  have HX := Lib.hid hx
  obtain ⟨_, az, cz, rfl, _, _⟩ := hz
  obtain ⟨_, _, ax, cx, rfl, _, _⟩ := hx
  obtain ⟨W0, hW0⟩ : ∃ W, W = ((w.alloc (Obj.cells #[.slice az zss.length cz] 44)).alloc (Obj.cells #[.int .i64 at', .slice ax xs.length cx] 41)).alloc (Obj.cells #[.int .i64 0, .slice none 0 0] 41) := ⟨_, rfl⟩
  have HB : Hid (Below w.heap.size w W0) := Lib.hid (by rw [hW0]; exact (((Below.refl w.heap.size w).alloc (Nat.le_refl _) _).alloc (by simp) _).alloc (by simp; omega) _)
  have K0 : Hid (Cels W0 w.heap.size 44 [.slice az zss.length cz]) := Lib.hid (by rw [hW0]; exact ((Cels.new _ _ _).alloc _).alloc _)
  have K1 : Hid (Cels W0 (w.heap.size + 1) 41 [.int .i64 at', .slice ax xs.length cx]) := Lib.hid (by
    rw [hW0]
    have := Cels.new (w.alloc (Obj.cells #[.slice az zss.length cz] 44)) 41 [.int .i64 at', .slice ax xs.length cx]
    rw [World.size_alloc] at this
    exact this.alloc _)
  have KR : Hid (Cels W0 (w.heap.size + 1 + 1) 41 [.int .i64 0, .slice none 0 0]) := Lib.hid (by
    rw [hW0]
    have := Cels.new ((w.alloc (Obj.cells #[.slice az zss.length cz] 44)).alloc (Obj.cells #[.int .i64 at', .slice ax xs.length cx] 41)) 41 [.int .i64 0, .slice none 0 0]
    rwa [World.size_alloc, World.size_alloc] at this)
  have HW0 := Lib.hid hW0.symm
  have HZ0 := Lib.hid (HZ.out.below HB.out (Nat.le_refl _))
  have HX0 := Lib.hid (HX.out.below HB.out (Nat.le_refl _))
  obtain ⟨R, hR⟩ : ∃ R, R = ryR zss at' xs bu := ⟨_, rfl⟩
  rw [← hR]
  have HR := Lib.hid hR
  clear hW0 hR
  rcases eqOr (turnB zss at' xs) with hv | hv
  · have e := Lib.hid (HR.out.trans (ry_bad (bu := bu) hv))
    have HV := Lib.hid hv.symm
    clear hv
    go_enter Tryd.func28, Tryd.ntmps28
    go_wp2_with fail
    rw [HW0.out]
    refine (specAskY w.heap.size (w.heap.size + 1) _ zss at' _ xs _ HZ0.out HX0.out K0.out K1.out false HV.out 1 (fun h => by cases h) (fun _ => rfl)).mono ?_
    rintro e1 w1 ⟨rfl, hb1⟩
    have HB1 := Lib.hid (HB.out.trans (hb1.mono HB.out.size))
    have KR1 := Lib.hid (KR.out.below hb1 KR.out.lt)
    clear hb1
    obtain ⟨f1, f2, f3, f4, f7⟩ := put2y KR1.out (.int .i64 0) (.slice none 0 0)
    have HF7 := Lib.hid f7
    clear f7
    go_wp2
    obtain ⟨W, hW⟩ : ∃ W, W = (w1.setCell ⟨w.heap.size + 1 + 1, 0, none⟩ (.int .i64 0)).setCell ⟨w.heap.size + 1 + 1, 1, none⟩ (.slice none 0 0) := ⟨_, rfl⟩
    have f7 := HF7.out
    have hB : Below w.heap.size w W := by
      rw [hW]
      exact below_set (below_set HB1.out (by omega) _ _) (by omega) _ _
    rw [← hW] at f7 ⊢
    have z0 := f7.cell 0 rfl
    have z1 := f7.cell 1 rfl
    clear f1 f2 f3 f4 hW
    refine bodyPost_ret (v := .tuple #[.agg #[.int .i64 0, .slice none 0 0], .int .i64 0, .bool false, .int .i64 1]) (by simp [results, Tryd.f28, go_sem, z0, z1]) rfl ⟨_, by rw [e.out], by rw [e.out]; exact Ow.emptyUp hB.size, hB⟩
  have HV := Lib.hid hv.symm
  by_cases hq : 1 ≤ bu ∧ bu ≤ 20000
  rotate_left
  · have HQ := Lib.hid hq
    have e := Lib.hid (HR.out.trans (ry_range hv hq))
    clear hq hv
    go_enter Tryd.func28, Tryd.ntmps28
    go_wp2_with fail
    rw [HW0.out]
    refine (specAskY w.heap.size (w.heap.size + 1) _ zss at' _ xs _ HZ0.out HX0.out K0.out K1.out true HV.out 0 (fun _ => rfl) (fun h => by cases h)).mono ?_
    rintro e1 w1 ⟨rfl, hb1⟩
    have HB1 := Lib.hid (HB.out.trans (hb1.mono HB.out.size))
    have KR1 := Lib.hid (KR.out.below hb1 KR.out.lt)
    clear hb1
    go_wp2_with fail
    refine (specBudgetY bu false _ ⟨fun h => (by cases h), fun h => (by have := HQ.out; omega)⟩).mono ?_
    rintro e1 w3 ⟨rfl, rfl⟩
    obtain ⟨f1, f2, f3, f4, f7⟩ := put2y KR1.out (.int .i64 0) (.slice none 0 0)
    have HF7 := Lib.hid f7
    clear f7
    go_wp2
    obtain ⟨W, hW⟩ : ∃ W, W = (w1.setCell ⟨w.heap.size + 1 + 1, 0, none⟩ (.int .i64 0)).setCell ⟨w.heap.size + 1 + 1, 1, none⟩ (.slice none 0 0) := ⟨_, rfl⟩
    have f7 := HF7.out
    have hB : Below w.heap.size w W := by
      rw [hW]
      exact below_set (below_set HB1.out (by omega) _ _) (by omega) _ _
    rw [← hW] at f7 ⊢
    have z0 := f7.cell 0 rfl
    have z1 := f7.cell 1 rfl
    clear f1 f2 f3 f4 hW
    refine bodyPost_ret (v := .tuple #[.agg #[.int .i64 0, .slice none 0 0], .int .i64 0, .bool false, .int .i64 2]) (by simp [results, Tryd.f28, go_sem, z0, z1]) rfl ⟨_, by rw [e.out], by rw [e.out]; exact Ow.emptyUp hB.size, hB⟩
  have HBU := Lib.hid hq
  have e := Lib.hid (HR.out.trans (ry_good hv hq))
  obtain ⟨hc, ha, hw⟩ := turnB_ok hv
  obtain ⟨j, rfl⟩ : ∃ j : Nat, at' = (j : Int) := ⟨at'.toNat, by omega⟩
  have HOK := Lib.hid (And.intro hc (And.intro (show j < zss.length by omega) hw))
  obtain ⟨B, rfl⟩ : ∃ B : Nat, bu = (B : Int) := ⟨bu.toNat, by omega⟩
  have HBB : Hid (B ≤ 20000) := Lib.hid (by omega)
  have HCD : Hid (R.code = 0 ∨ R = ⟨5, 0, [], 0, false⟩) := Lib.hid (by rw [e.out]; exact ryF_code _ _ _ _ _)
  clear hq hc ha hw hv
  go_enter Tryd.func28, Tryd.ntmps28
  go_wp2_with fail
  rw [HW0.out]
  refine (specAskY w.heap.size (w.heap.size + 1) _ zss (j : Int) _ xs _ HZ0.out HX0.out K0.out K1.out true HV.out 0 (fun _ => rfl) (fun h => by cases h)).mono ?_
  rintro e1 w1 ⟨rfl, hb1⟩
  have HB1 := Lib.hid (HB.out.trans (hb1.mono HB.out.size))
  have KR1 := Lib.hid (KR.out.below hb1 KR.out.lt)
  have K01 := Lib.hid (K0.out.below hb1 K0.out.lt)
  have K11 := Lib.hid (K1.out.below hb1 K1.out.lt)
  clear hb1
  go_wp2_with fail
  refine (specBudgetY (B : Int) true _ ⟨fun _ => HBU.out, fun _ => rfl⟩).mono ?_
  rintro e1 w3 ⟨rfl, rfl⟩
  have y0 := K11.out.cell 0 rfl
  have y1 := K11.out.cell 1 rfl
  go_wp2_with fail
  refine (specRunY w.heap.size j B _ xs _ zss _ (HZ.out.below HB1.out (Nat.le_refl _)) (HX.out.below HB1.out (Nat.le_refl _)) K01.out HOK.out.1 HOK.out.2 HBB.out R (by have := e.out; simpa using this)).mono ?_
  rintro e3 w3 ⟨r3, rfl, o3, hb3⟩
  obtain ⟨g3, c3, hr3⟩ := o3.shape
  subst hr3
  obtain ⟨q, hq⟩ : ∃ q, q = decide (R.code = 0) := ⟨_, rfl⟩
  rw [← hq]
  have HQ := Lib.hid hq
  have KR3 := Lib.hid (KR1.out.below hb3 KR1.out.lt)
  have HB3 := Lib.hid (HB1.out.trans (hb3.mono HB1.out.size))
  have O3 := Lib.hid (o3.mono (B' := w.heap.size) HB1.out.size (Nat.le_refl _) (Nat.le_refl _))
  clear hq hb3 o3 y0 y1
  obtain ⟨u0, u1, us, u4, u5⟩ := R
  dsimp only at O3 ⊢
  have hA : Below w3.heap.size w3 (w3.alloc (Obj.cells #[.int .i64 u1, .slice g3 us.length c3] 41)) := (Below.refl _ _).alloc (Nat.le_refl _) _
  obtain ⟨W4, hW4⟩ : ∃ W, W = w3.alloc (Obj.cells #[.int .i64 u1, .slice g3 us.length c3] 41) := ⟨_, rfl⟩
  have KR4 := Lib.hid (KR3.out.below hA KR3.out.lt)
  have HB4 := Lib.hid (HB3.out.trans (hA.mono HB3.out.size))
  have O4 := Lib.hid (O3.out.below hA (Nat.le_refl _)).up
  have KN4 : Hid (Cels W4 w3.heap.size 41 [.int .i64 u1, .slice g3 us.length c3]) := Lib.hid (by rw [hW4]; exact Cels.new _ _ _)
  rw [← hW4] at KR4 HB4 O4
  have HW4 := Lib.hid hW4.symm
  clear hA hW4
  rcases eqOr q with hb | hb
  · subst hb
    have HE5 : Hid ((⟨u0, u1, us, u4, u5⟩ : RyE) = ⟨5, 0, [], 0, false⟩) := Lib.hid (by
      rcases HCD.out with h | h
      · have := HQ.out; simp at this; exact absurd h this
      · exact h)
    have HF7 := Lib.hid (put2y KR4.out (.int .i64 0) (.slice none 0 0)).2.2.2.2
    have HBF := Lib.hid (below_set (below_set HB4.out (g := w.heap.size + 1 + 1) (by omega) 0 (.int .i64 0)) (g := w.heap.size + 1 + 1) (by omega) 1 (.slice none 0 0))
    obtain ⟨f1, f2, f3, f4, _⟩ := put2y KR4.out (.int .i64 0) (.slice none 0 0)
    rw [← HW4.out] at f1 f2 f3 f4
    go_wp2
    rw [HW4.out]
    obtain ⟨W, hW⟩ : ∃ W, W = (W4.setCell ⟨w.heap.size + 1 + 1, 0, none⟩ (.int .i64 0)).setCell ⟨w.heap.size + 1 + 1, 1, none⟩ (.slice none 0 0) := ⟨_, rfl⟩
    rw [← hW] at HF7 HBF ⊢
    have z0 := HF7.out.cell 0 rfl
    have z1 := HF7.out.cell 1 rfl
    clear f1 f2 f3 f4 hW
    refine bodyPost_ret (v := .tuple #[.agg #[.int .i64 0, .slice none 0 0], .int .i64 0, .bool false, .int .i64 5]) (by simp [results, Tryd.f28, go_sem, z0, z1]) rfl ⟨.slice none 0 0, ?_, ?_, HBF.out⟩
    · have h5 := HE5.out
      injection h5 with h0 h1 h2 h3 h4
      rw [h0, h1, h3, h4]
    · have h5 := HE5.out
      injection h5 with h0 h1 h2 h3 h4
      rw [h2]
      exact Ow.emptyUp HBF.out.size
  · subst hb
    have HC0 : Hid (u0 = 0) := Lib.hid (by have := HQ.out; simpa using this)
    have HF7 := Lib.hid (put2y KR4.out (.int .i64 u1) (.slice g3 us.length c3)).2.2.2.2
    have HBF := Lib.hid (below_set (below_set HB4.out (g := w.heap.size + 1 + 1) (by omega) 0 (.int .i64 u1)) (g := w.heap.size + 1 + 1) (by omega) 1 (.slice g3 us.length c3))
    have HOF := Lib.hid ((O4.out.setY KR4.out tu_ne 0 (.int .i64 u1)).setY (KR4.out.set 0 (.int .i64 u1)) tu_ne 1 (.slice g3 us.length c3))
    obtain ⟨f1, f2, f3, f4, _⟩ := put2y KR4.out (.int .i64 u1) (.slice g3 us.length c3)
    have n0 := KN4.out.cell 0 rfl
    have n1 := KN4.out.cell 1 rfl
    rw [← HW4.out] at f1 f2 f3 f4 n0 n1
    go_wp2
    rw [HW4.out]
    obtain ⟨W, hW⟩ : ∃ W, W = (W4.setCell ⟨w.heap.size + 1 + 1, 0, none⟩ (.int .i64 u1)).setCell ⟨w.heap.size + 1 + 1, 1, none⟩ (.slice g3 us.length c3) := ⟨_, rfl⟩
    rw [← hW] at HF7 HOF HBF ⊢
    have z0 := HF7.out.cell 0 rfl
    have z1 := HF7.out.cell 1 rfl
    clear f1 f2 f3 f4 hW n0 n1
    refine bodyPost_ret (v := .tuple #[.agg #[.int .i64 u1, .slice g3 us.length c3], .int .i64 u4, .bool u5, .int .i64 0]) (by simp [results, Tryd.f28, go_sem, z0, z1]) rfl ⟨_, by rw [HC0.out], HOF.out, HBF.out⟩
theorem specRunCycL (vz : Value) (zss : List (List Int)) (at' : Int) (x : Value) (xs : List Int) (bu : Int) (w : World) (hz : RdL w vz zss) (hx : Rd w x xs) :
    Calls Tryd.prog 28 #[.agg #[vz], .agg #[.int .i64 at', x], .int .i64 bu] w fun e w' => ∃ u, e = .returned (.tuple #[.agg #[.int .i64 (ryR zss at' xs bu).at', u], .int .i64 (ryR zss at' xs bu).n, .bool (ryR zss at' xs bu).h, .int .i64 (ryR zss at' xs bu).code]) ∧ Ow w' w.heap.size w'.heap.size u (ryR zss at' xs bu).cs ∧ Below w.heap.size w w' := specRunCyc vz x zss at' xs bu w hz hx
theorem implRunCycL (vz : Value) (zss : List (List Int)) (at' : Int) (x : Value) (xs : List Int) (bu : Int) (w : World) (hz : RdL w vz zss) (hx : Rd w x xs) (he : EtV w) :
    Calls Tryd.prog 29 #[.agg #[vz], .agg #[.int .i64 at', x], .int .i64 bu] w fun e w' => ∃ u, e = .returned (.tuple #[.agg #[.int .i64 (ryR zss at' xs bu).at', u], .int .i64 (ryR zss at' xs bu).n, .bool (ryR zss at' xs bu).h, .int .i64 (ryR zss at' xs bu).code]) ∧ Ow w' w.heap.size w'.heap.size u (ryR zss at' xs bu).cs ∧ Below w.heap.size w w' := implRunCyc vz x zss at' xs bu w hz hx he
end Go.Proofs.YtkjoakdepjpkhaaDoor.Ints
