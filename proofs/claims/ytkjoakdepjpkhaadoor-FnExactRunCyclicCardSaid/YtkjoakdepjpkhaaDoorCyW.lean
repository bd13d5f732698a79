/- StepCyclic: the model's function, and the program's contract as the law wants it. -/
import Derived.Test.YtkjoakdepjpkhaaDoorCyM
namespace Go.Proofs.YtkjoakdepjpkhaaDoor.Ints
open Go.RowKit
set_option linter.unusedVariables false
set_option linter.unusedSimpArgs false
set_option maxRecDepth 100000 in
set_option maxHeartbeats 4000000 in
theorem specStepCyc (vz x : Value) (zss : List (List Int)) (at' : Int) (xs : List Int) (w : World) (hz : RdL w vz zss) (hx : Rd w x xs) :
    Calls Tryd.prog 19 #[.agg #[vz], .agg #[.int .i64 at', x]] w fun e w' => ∃ u, e = .returned (.tuple #[.agg #[.int .i64 (cyA zss at' xs), u], .int .i64 (cyC zss at' xs)]) ∧ Ow w' w.heap.size w'.heap.size u (cyW zss at' xs) ∧ Below w.heap.size w w' := by
  have HZ := Lib.hid hz
  have HX := Lib.hid hx
  obtain ⟨_, az, cz, rfl, _, _⟩ := hz
  obtain ⟨_, _, ax, cx, rfl, _, _⟩ := hx
  obtain ⟨W0, hW0⟩ : ∃ W, W = ((w.alloc (Obj.cells #[.slice az zss.length cz] 44)).alloc (Obj.cells #[.int .i64 at', .slice ax xs.length cx] 41)).alloc (Obj.cells #[.int .i64 0, .slice none 0 0] 41) := ⟨_, rfl⟩
  have HB : Hid (Below w.heap.size w W0) := Lib.hid (by rw [hW0]; exact (((Below.refl w.heap.size w).alloc (Nat.le_refl _) _).alloc (by simp) _).alloc (by simp; omega) _)
  have K0 : Hid (Cels W0 w.heap.size 44 [.slice az zss.length cz]) := Lib.hid (by rw [hW0]; exact ((Cels.new _ _ _).alloc _).alloc _)
  have K1 : Hid (Cels W0 (w.heap.size + 1) 41 [.int .i64 at', .slice ax xs.length cx]) := Lib.hid (by
    rw [hW0]
    have := Cels.new (w.alloc (Obj.cells #[.slice az zss.length cz] 44)) 41 [.int .i64 at', .slice ax xs.length cx]
    rw [World.size_alloc] at this
    exact this.alloc _)
  have KR : Hid (Cels W0 (w.heap.size + 1 + 1) 41 [.int .i64 0, .slice none 0 0]) := Lib.hid (by
    rw [hW0]
    have := Cels.new ((w.alloc (Obj.cells #[.slice az zss.length cz] 44)).alloc (Obj.cells #[.int .i64 at', .slice ax xs.length cx] 41)) 41 [.int .i64 0, .slice none 0 0]
    rwa [World.size_alloc, World.size_alloc] at this)
  have HW0 := Lib.hid hW0.symm
  have HZ0 := Lib.hid (HZ.out.below HB.out (Nat.le_refl _))
  have HX0 := Lib.hid (HX.out.below HB.out (Nat.le_refl _))
  clear hW0
  rcases eqOr (turnB zss at' xs) with hv | hv
  · have e := Lib.hid (cy_bad hv)
    have HV := Lib.hid hv.symm
    clear hv
    go_enter Tryd.func19, Tryd.ntmps19
    go_wp2_with fail
    rw [HW0.out]
    refine (specAskY w.heap.size (w.heap.size + 1) _ zss at' _ xs _ HZ0.out HX0.out K0.out K1.out false HV.out 1 (fun h => by cases h) (fun _ => rfl)).mono ?_
    rintro e1 w1 ⟨rfl, hb1⟩
    have HB1 := Lib.hid (HB.out.trans (hb1.mono HB.out.size))
    have KR1 := Lib.hid (KR.out.below hb1 KR.out.lt)
    clear hb1
    have HF := Lib.hid (put2y KR1.out (.int .i64 0) (.slice none 0 0))
    obtain ⟨f1, f2, f3, f4, f7⟩ := HF.out
    have HF7 := Lib.hid f7
    clear f7
    go_wp2
    obtain ⟨W, hW⟩ : ∃ W, W = (w1.setCell ⟨w.heap.size + 1 + 1, 0, none⟩ (.int .i64 0)).setCell ⟨w.heap.size + 1 + 1, 1, none⟩ (.slice none 0 0) := ⟨_, rfl⟩
    have f7 := HF7.out
    have hB : Below w.heap.size w W := by
      rw [hW]
      exact below_set (below_set HB1.out (by omega) _ _) (by omega) _ _
    rw [← hW] at f7 ⊢
    have z0 := f7.cell 0 rfl
    have z1 := f7.cell 1 rfl
    clear f1 f2 f3 f4 hW
    refine bodyPost_ret (v := .tuple #[.agg #[.int .i64 0, .slice none 0 0], .int .i64 1]) (by simp [results, Tryd.f19, go_sem, z0, z1]) rfl ⟨_, by rw [e.out.1, e.out.2.1], by rw [e.out.2.2]; exact Ow.emptyUp hB.size, hB⟩
  obtain ⟨hc, ha, hw⟩ := turnB_ok hv
  obtain ⟨j, rfl⟩ : ∃ j : Nat, at' = (j : Int) := ⟨at'.toNat, by omega⟩
  have hj : j < zss.length := by omega
  obtain ⟨hzl, hwl⟩ := cycB_ok hc
  obtain ⟨hxl, _⟩ := overB_ok hw
  have HF0 := Lib.hid (And.intro hj (And.intro hzl.2 (And.intro hxl (hwl j hj).1)))
  have HV := Lib.hid hv.symm
  by_cases h0 : xs.length = 0
  · have e := Lib.hid (cy_halt hv h0)
    have q0 : ((xs.length : Int) == 0) = true := by simp [h0]
    clear hv hc ha hw hj hzl hwl hxl h0
    go_enter Tryd.func19, Tryd.ntmps19
    go_wp2_with fail
    rw [HW0.out]
    refine (specAskY w.heap.size (w.heap.size + 1) _ zss (j : Int) _ xs _ HZ0.out HX0.out K0.out K1.out true HV.out 0 (fun _ => rfl) (fun h => by cases h)).mono ?_
    rintro e1 w1 ⟨rfl, hb1⟩
    have HB1 := Lib.hid (HB.out.trans (hb1.mono HB.out.size))
    have KR1 := Lib.hid (KR.out.below hb1 KR.out.lt)
    have K11 := Lib.hid (K1.out.below hb1 K1.out.lt)
    have zx := K11.out.cell 1 rfl
    clear hb1
    have HF := Lib.hid (put2y KR1.out (.int .i64 0) (.slice none 0 0))
    obtain ⟨f1, f2, f3, f4, f7⟩ := HF.out
    have HF7 := Lib.hid f7
    clear f7
    go_wp2
    obtain ⟨W, hW⟩ : ∃ W, W = (w1.setCell ⟨w.heap.size + 1 + 1, 0, none⟩ (.int .i64 0)).setCell ⟨w.heap.size + 1 + 1, 1, none⟩ (.slice none 0 0) := ⟨_, rfl⟩
    have f7 := HF7.out
    have hB : Below w.heap.size w W := by
      rw [hW]
      exact below_set (below_set HB1.out (by omega) _ _) (by omega) _ _
    rw [← hW] at f7 ⊢
    have z0 := f7.cell 0 rfl
    have z1 := f7.cell 1 rfl
    clear f1 f2 f3 f4 hW
    refine bodyPost_ret (v := .tuple #[.agg #[.int .i64 0, .slice none 0 0], .int .i64 6]) (by simp [results, Tryd.f19, go_sem, z0, z1]) rfl ⟨_, by rw [e.out.1, e.out.2.1], by rw [e.out.2.2]; exact Ow.emptyUp hB.size, hB⟩
  have q0 : ((xs.length : Int) == 0) = false := by simp [h0]
  have HP : Hid (0 < xs.length) := Lib.hid (by omega)
  obtain ⟨bo, hbo⟩ : ∃ b, b = decide ((apC zss j xs).length ≤ 1000) := ⟨_, rfl⟩
  have HBO := Lib.hid hbo
  have HFU : Hid (¬ (apC zss j xs).length ≤ 1000 → cyC zss (j : Int) xs = 5 ∧ cyA zss (j : Int) xs = 0 ∧ cyW zss (j : Int) xs = []) := Lib.hid (fun q => cy_full hv h0 (by simpa using q))
  have HNE : Hid ((apC zss j xs).length ≤ 1000 → cyC zss (j : Int) xs = 0 ∧ cyA zss (j : Int) xs = ((nxJ zss j : Nat) : Int) ∧ cyW zss (j : Int) xs = apC zss j xs) := Lib.hid (fun q => cy_next hv h0 (by simpa using q))
  clear hv hc ha hw hj hzl hwl hxl h0 hbo
  go_enter Tryd.func19, Tryd.ntmps19
  go_wp2_with fail
  rw [HW0.out]
  refine (specAskY w.heap.size (w.heap.size + 1) _ zss (j : Int) _ xs _ HZ0.out HX0.out K0.out K1.out true HV.out 0 (fun _ => rfl) (fun h => by cases h)).mono ?_
  rintro e1 w1 ⟨rfl, hb1⟩
  have HB1 := Lib.hid (HB.out.trans (hb1.mono HB.out.size))
  have KR1 := Lib.hid (KR.out.below hb1 KR.out.lt)
  have K01 := Lib.hid (K0.out.below hb1 K0.out.lt)
  have K11 := Lib.hid (K1.out.below hb1 K1.out.lt)
  have zx := K11.out.cell 1 rfl
  clear hb1
  go_wp2_with fail
  refine (specNextY w.heap.size (w.heap.size + 1) _ zss j _ xs _ (HZ.out.below HB1.out (Nat.le_refl _)) (HX.out.below HB1.out (Nat.le_refl _)) K01.out K11.out HF0.out.1 HF0.out.2.1 HP.out HF0.out.2.2.1 HF0.out.2.2.2).mono ?_
  rintro e3 w3 ⟨r3, rfl, o3, hb3⟩
  rw [← HBO.out]
  obtain ⟨nx, hnx⟩ : ∃ n : Nat, n = nxJ zss j := ⟨_, rfl⟩
  obtain ⟨Z, hZ⟩ : ∃ Z, Z = apC zss j xs := ⟨_, rfl⟩
  rw [← hnx, ← hZ] at HNE
  rw [← hnx]
  rw [← hZ] at o3 HBO HFU
  obtain ⟨ga, gc, hr3⟩ := o3.shape
  subst hr3
  have HO3 := Lib.hid o3
  have HB3 := Lib.hid (HB1.out.trans (hb3.mono HB1.out.size))
  have KR3 := Lib.hid (KR1.out.below hb3 KR1.out.lt)
  have HL3 : Hid (w.heap.size + 1 + 1 < w1.heap.size ∧ w1.heap.size ≤ w3.heap.size) := Lib.hid ⟨KR1.out.lt, hb3.size⟩
  obtain ⟨W4, hW4⟩ : ∃ W, W = w3.alloc (Obj.cells #[.int .i64 (nx : Int), .slice ga Z.length gc] 41) := ⟨_, rfl⟩
  have hb4 : Below w3.heap.size w3 W4 := by rw [hW4]; exact (Below.refl _ _).alloc (Nat.le_refl _) _
  have K7 : Hid (Cels W4 w3.heap.size 41 [.int .i64 (nx : Int), .slice ga Z.length gc]) := Lib.hid (by rw [hW4]; exact Cels.new _ _ _)
  have HB4 := Lib.hid (HB3.out.trans (hb4.mono HB3.out.size))
  have KR4 := Lib.hid (KR3.out.below hb4 KR3.out.lt)
  have HO4 := Lib.hid (HO3.out.below hb4 (Nat.le_refl _))
  have HW4 := Lib.hid hW4.symm
  clear o3 hb3 hnx hZ zx hb4 hW4
  rcases eqOr bo with hb | hb
  · subst hb
    have e := Lib.hid (HFU.out (by have := HBO.out; intro h; rw [decide_eq_true h] at this; cases this))
    have HF := Lib.hid (put2y KR4.out (.int .i64 0) (.slice none 0 0))
    obtain ⟨f1, f2, f3, f4, f7⟩ := HF.out
    have HF7 := Lib.hid f7
    rw [← HW4.out] at f1 f2 f3 f4
    clear f7
    go_wp2
    rw [HW4.out]
    obtain ⟨W, hW⟩ : ∃ W, W = (W4.setCell ⟨w.heap.size + 1 + 1, 0, none⟩ (.int .i64 0)).setCell ⟨w.heap.size + 1 + 1, 1, none⟩ (.slice none 0 0) := ⟨_, rfl⟩
    have f7 := HF7.out
    have hB : Below w.heap.size w W := by
      rw [hW]
      exact below_set (below_set HB4.out (by omega) _ _) (by omega) _ _
    rw [← hW] at f7 ⊢
    have z0 := f7.cell 0 rfl
    have z1 := f7.cell 1 rfl
    clear f1 f2 f3 f4 hW
    refine bodyPost_ret (v := .tuple #[.agg #[.int .i64 0, .slice none 0 0], .int .i64 5]) (by simp [results, Tryd.f19, go_sem, z0, z1]) rfl ⟨_, by rw [e.out.1, e.out.2.1], by rw [e.out.2.2]; exact Ow.emptyUp hB.size, hB⟩
  subst hb
  have e := Lib.hid (HNE.out (of_decide_eq_true HBO.out.symm))
  have HF := Lib.hid (put2y KR4.out (.int .i64 (nx : Int)) (.slice ga Z.length gc))
  obtain ⟨f1, f2, f3, f4, f7⟩ := HF.out
  have HF7 := Lib.hid f7
  have g0 := K7.out.cell 0 rfl
  have g1 := K7.out.cell 1 rfl
  rw [← HW4.out] at f1 f2 f3 f4 g0 g1
  clear f7
  go_wp2
  rw [HW4.out]
  obtain ⟨W, hW⟩ : ∃ W, W = (W4.setCell ⟨w.heap.size + 1 + 1, 0, none⟩ (.int .i64 (nx : Int))).setCell ⟨w.heap.size + 1 + 1, 1, none⟩ (.slice ga Z.length gc) := ⟨_, rfl⟩
  have f7 := HF7.out
  have hB : Below w.heap.size w W := by
    rw [hW]
    exact below_set (below_set HB4.out (by omega) _ _) (by omega) _ _
  have hO : Ow W w.heap.size W.heap.size (.slice ga Z.length gc) Z := by
    have hl := HL3.out
    have h1 := (HO4.out.apartCell (g := w.heap.size + 1 + 1) (by omega) 0 (.int .i64 (nx : Int))).apartCell (g := w.heap.size + 1 + 1) (by omega) 1 (.slice ga Z.length gc)
    rw [← hW] at h1
    exact h1.up.mono (by omega) (Nat.le_refl _) (Nat.le_refl _)
  rw [← hW] at f7 ⊢
  have z0 := f7.cell 0 rfl
  have z1 := f7.cell 1 rfl
  clear f1 f2 f3 f4 hW g0 g1
  refine bodyPost_ret (v := .tuple #[.agg #[.int .i64 (nx : Int), .slice ga Z.length gc], .int .i64 0]) (by simp [results, Tryd.f19, go_sem, z0, z1]) rfl ⟨_, by rw [e.out.1, e.out.2.1], by rw [e.out.2.2]; exact hO, hB⟩
theorem specStepCycL (vz : Value) (zss : List (List Int)) (at' : Int) (x : Value) (xs : List Int) (w : World) (hz : RdL w vz zss) (hx : Rd w x xs) :
    Calls Tryd.prog 19 #[.agg #[vz], .agg #[.int .i64 at', x]] w fun e w' => ∃ u, e = .returned (.tuple #[.agg #[.int .i64 (cyA zss at' xs), u], .int .i64 (cyC zss at' xs)]) ∧ Ow w' w.heap.size w'.heap.size u (cyW zss at' xs) ∧ Below w.heap.size w w' := specStepCyc vz x zss at' xs w hz hx
theorem implStepCycL (vz : Value) (zss : List (List Int)) (at' : Int) (x : Value) (xs : List Int) (w : World) (hz : RdL w vz zss) (hx : Rd w x xs) (he : EtV w) :
    Calls Tryd.prog 22 #[.agg #[vz], .agg #[.int .i64 at', x]] w fun e w' => ∃ u, e = .returned (.tuple #[.agg #[.int .i64 (cyA zss at' xs), u], .int .i64 (cyC zss at' xs)]) ∧ Ow w' w.heap.size w'.heap.size u (cyW zss at' xs) ∧ Below w.heap.size w w' := implStepCyc vz x zss at' xs w hz hx he
end Go.Proofs.YtkjoakdepjpkhaaDoor.Ints
