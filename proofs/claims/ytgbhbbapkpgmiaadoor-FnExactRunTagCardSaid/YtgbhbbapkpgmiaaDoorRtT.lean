/- RunTag: the model's function, and the program's contract as the law wants it. (gen_rt.py) -/
import Derived.Test.YtgbhbbapkpgmiaaDoorRtS
import Derived.Test.YtgbhbbapkpgmiaaDoorRuT
namespace Go.Proofs.YtgbhbbapkpgmiaaDoor.Ints
open Go.RowKit
set_option linter.unusedVariables false
set_option linter.unusedSimpArgs false
theorem rtF_code (d : Int) (zss : List (List Int)) (hs : List Int) : ∀ (f : Nat) (xs : List Int) (n : Int), (rtF d zss hs f xs n).code = 0 ∨ rtF d zss hs f xs n = ⟨5, [], 0, false⟩
  | 0, xs, n => .inl rfl
  | f + 1, xs, n => by
    by_cases h : hlT d hs xs
    · rw [rtF_halt _ _ h]; exact .inl rfl
    · by_cases hf : (apT zss xs).length ≤ 1000
      · rw [rtF_next _ _ h hf]; exact rtF_code d zss hs f _ _
      · rw [rtF_full _ _ h hf]; exact .inr rfl
set_option maxHeartbeats 4000000 in
theorem specRunTag (d : Int) (vz vh x : Value) (zss : List (List Int)) (hs xs : List Int) (bu : Int) (w : World) (hz : RdL w vz zss) (hh : Rd w vh hs) (hx : Rd w x xs) :
    Calls Tryd.prog 47 #[.agg #[.int .i64 d, vz, vh], x, .int .i64 bu] w fun e w' => ∃ u, e = .returned (.tuple #[u, .int .i64 (rtR d zss hs xs bu).n, .bool (rtR d zss hs xs bu).h, .int .i64 (rtR d zss hs xs bu).code]) ∧ Ow w' w.heap.size w'.heap.size u (rtR d zss hs xs bu).cs ∧ Below w.heap.size w w' := by
  have HZ := Lib.hid hz
  have HH := Lib.hid hh
  have HX := Lib.hid hx
  obtain ⟨_, az, cz, rfl, _, _⟩ := hz
  obtain ⟨_, _, ah, ch, rfl, _, _⟩ := hh
  obtain ⟨_, _, ax, cx, rfl, _, _⟩ := hx
  obtain ⟨W0, hW0⟩ : ∃ W, W = w.alloc (Obj.cells #[.int .i64 d, .slice az zss.length cz, .slice ah hs.length ch] 58) := ⟨_, rfl⟩
  have HB : Hid (Below w.heap.size w W0) := Lib.hid (by rw [hW0]; exact (Below.refl w.heap.size w).alloc (Nat.le_refl _) _)
  have K0 : Hid (Cels W0 w.heap.size 58 [.int .i64 d, .slice az zss.length cz, .slice ah hs.length ch]) := Lib.hid (by rw [hW0]; exact Cels.new _ _ _)
  have HW0 := Lib.hid hW0.symm
  have HZ0 := Lib.hid (HZ.out.below HB.out (Nat.le_refl _))
  have HH0 := Lib.hid (HH.out.below HB.out (Nat.le_refl _))
  have HX0 := Lib.hid (HX.out.below HB.out (Nat.le_refl _))
  obtain ⟨ok, hok⟩ : ∃ b, b = (tagB d zss hs && overB zss.length xs) := ⟨_, rfl⟩
  have HOK := Lib.hid hok
  obtain ⟨R, hR⟩ : ∃ R, R = rtR d zss hs xs bu := ⟨_, rfl⟩
  rw [← hR]
  have HR := Lib.hid hR
  clear hW0 hok hR
  rcases eqOr ok with hb | hb
  · subst hb
    have e := Lib.hid (HR.out.trans (rt_bad (bu := bu) HOK.out.symm))
    go_enter Tryd.func47, Tryd.ntmps47
    go_wp2_with fail
    rw [HW0.out]
    refine (specAskT w.heap.size d _ zss _ hs _ xs _ HZ0.out HH0.out HX0.out K0.out false HOK.out 1 (fun h => by cases h) (fun _ => rfl)).mono ?_
    rintro e1 w1 ⟨rfl, hb1⟩
    have HB1 := Lib.hid (HB.out.trans (hb1.mono HB.out.size))
    clear hb1
    go_wp2
    (try simp only [Exit.inBlock, Exit.then]); refine bodyPost_ret (results_tmp4 rfl _ _ _) rfl ?_
    exact ⟨_, by rw [e.out] <;> rfl, by rw [e.out]; exact Ow.emptyUp HB1.out.size, HB1.out⟩
  subst hb
  obtain ⟨ht, hw⟩ := tg_both HOK.out.symm
  have HT := Lib.hid ht
  have HWW := Lib.hid hw
  clear ht hw
  by_cases hq : 1 ≤ bu ∧ bu ≤ 20000
  rotate_left
  · have HQ := Lib.hid hq
    have e := Lib.hid (HR.out.trans (rt_range HOK.out.symm hq))
    clear hq
    go_enter Tryd.func47, Tryd.ntmps47
    go_wp2_with fail
    rw [HW0.out]
    refine (specAskT w.heap.size d _ zss _ hs _ xs _ HZ0.out HH0.out HX0.out K0.out true HOK.out 0 (fun _ => rfl) (fun h => by cases h)).mono ?_
    rintro e1 w1 ⟨rfl, hb1⟩
    have HB1 := Lib.hid (HB.out.trans (hb1.mono HB.out.size))
    clear hb1
    go_wp2_with fail
    refine (specBudget bu false _ ⟨fun h => (by cases h), fun h => (by have := HQ.out; omega)⟩).mono ?_
    rintro e1 w3 ⟨rfl, rfl⟩
    go_wp2
    (try simp only [Exit.inBlock, Exit.then]); refine bodyPost_ret (results_tmp4 rfl _ _ _) rfl ?_
    exact ⟨_, by rw [e.out] <;> rfl, by rw [e.out]; exact Ow.emptyUp HB1.out.size, HB1.out⟩
  have HBU := Lib.hid hq
  have e := Lib.hid (HR.out.trans (rt_good HOK.out.symm hq))
  obtain ⟨B, rfl⟩ : ∃ B : Nat, bu = (B : Int) := ⟨bu.toNat, by omega⟩
  have HBB : Hid (B ≤ 20000) := Lib.hid (by omega)
  have HCD : Hid (R.code = 0 ∨ R = ⟨5, [], 0, false⟩) := Lib.hid (by rw [e.out]; exact rtF_code _ _ _ _ _ _)
  clear hq
  go_enter Tryd.func47, Tryd.ntmps47
  go_wp2_with fail
  rw [HW0.out]
  refine (specAskT w.heap.size d _ zss _ hs _ xs _ HZ0.out HH0.out HX0.out K0.out true HOK.out 0 (fun _ => rfl) (fun h => by cases h)).mono ?_
  rintro e1 w1 ⟨rfl, hb1⟩
  have HB1 := Lib.hid (HB.out.trans (hb1.mono HB.out.size))
  have K1 := Lib.hid (K0.out.below hb1 K0.out.lt)
  clear hb1
  go_wp2_with fail
  refine (specBudget (B : Int) true _ ⟨fun _ => HBU.out, fun _ => rfl⟩).mono ?_
  rintro e1 w3 ⟨rfl, rfl⟩
  go_wp2_with fail
  refine (specRunT w.heap.size B d _ _ _ zss hs xs _ (HZ.out.below HB1.out (Nat.le_refl _)) (HH.out.below HB1.out (Nat.le_refl _)) (HX.out.below HB1.out (Nat.le_refl _)) K1.out HT.out HWW.out HBB.out R (by have := e.out; simpa using this)).mono ?_
  rintro e3 w3 ⟨r3, rfl, o3, hb3⟩
  obtain ⟨q, hq⟩ : ∃ q, q = decide (R.code = 0) := ⟨_, rfl⟩
  rw [← hq]
  have HQ := Lib.hid hq
  have HB3 := Lib.hid (HB1.out.trans (hb3.mono HB1.out.size))
  have O3 := Lib.hid (o3.mono (B' := w.heap.size) HB1.out.size (Nat.le_refl _) (Nat.le_refl _))
  clear hq hb3 o3
  obtain ⟨u0, us, u4, u5⟩ := R
  dsimp only at O3 ⊢
  rcases eqOr q with hb | hb
  · subst hb
    have HE5 : Hid ((⟨u0, us, u4, u5⟩ : RtE) = ⟨5, [], 0, false⟩) := Lib.hid (by
      rcases HCD.out with h | h
      · have := HQ.out; simp at this; exact absurd h this
      · exact h)
    go_wp2
    (try simp only [Exit.inBlock, Exit.then]); refine bodyPost_ret (results_tmp4 rfl _ _ _) rfl ?_
    have h5 := HE5.out
    injection h5 with h0 h1 h2 h3
    exact ⟨_, by rw [h0, h2, h3] <;> rfl, by rw [h1]; exact Ow.emptyUp HB3.out.size, HB3.out⟩
  subst hb
  have HC0 : Hid (u0 = 0) := Lib.hid (by have := HQ.out; simpa using this)
  go_wp2
  (try simp only [Exit.inBlock, Exit.then]); refine bodyPost_ret (results_tmp4 rfl _ _ _) rfl ?_
  exact ⟨_, by rw [HC0.out] <;> rfl, O3.out, HB3.out⟩
theorem implRunTagL (d : Int) (vz vh x : Value) (zss : List (List Int)) (hs xs : List Int) (bu : Int) (w : World) (hz : RdL w vz zss) (hh : Rd w vh hs) (hx : Rd w x xs) (he : EtV w) :
    Calls Tryd.prog 48 #[.agg #[.int .i64 d, vz, vh], x, .int .i64 bu] w fun e w' => ∃ u, e = .returned (.tuple #[u, .int .i64 (rtR d zss hs xs bu).n, .bool (rtR d zss hs xs bu).h, .int .i64 (rtR d zss hs xs bu).code]) ∧ Ow w' w.heap.size w'.heap.size u (rtR d zss hs xs bu).cs ∧ Below w.heap.size w w' := implRunTag d vz vh x zss hs xs bu w hz hh hx he
end Go.Proofs.YtgbhbbapkpgmiaaDoor.Ints
