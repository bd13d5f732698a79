/- StepTag of the program: one step of a run (behindStep). -/
import Derived.Test.YtgbhbbapkpgmiaaDoorTgN
namespace Go.Proofs.YtgbhbbapkpgmiaaDoor.Ints
open Go.RowKit
set_option linter.unusedVariables false
set_option linter.unusedSimpArgs false
theorem nlT (g : Nat) (w : World) : (nilAhead 383 129 (.pointer (some ⟨g, 0, none⟩)) "loop.example/g01079/impl.valid").run Tryd.prog w = .ok (some false) w := by kernel_rfl
theorem nlTs (g : Nat) (w : World) : (nilAhead 383 129 (.pointer (some ⟨g, 0, none⟩)) "loop.example/g01079/impl.step").run Tryd.prog w = .ok (some false) w := by kernel_rfl
theorem nlTc (g : Nat) (w : World) : (nilAhead 383 129 (.pointer (some ⟨g, 0, none⟩)) "loop.example/g01079/impl.config").run Tryd.prog w = .ok (some false) w := by kernel_rfl
theorem nlTh (g : Nat) (w : World) : (nilAhead 383 129 (.pointer (some ⟨g, 0, none⟩)) "loop.example/g01079/impl.halts").run Tryd.prog w = .ok (some false) w := by kernel_rfl
theorem mtT (g : Nat) (w : World) : (Go.method 383 129 (.pointer (some ⟨g, 0, none⟩)) "loop.example/g01079/impl.valid").run Tryd.prog w = .ok (197, .pointer (some ⟨g, 0, none⟩)) w := by kernel_rfl
theorem mtTs (g : Nat) (w : World) : (Go.method 383 129 (.pointer (some ⟨g, 0, none⟩)) "loop.example/g01079/impl.step").run Tryd.prog w = .ok (196, .pointer (some ⟨g, 0, none⟩)) w := by kernel_rfl
theorem mtTc (g : Nat) (w : World) : (Go.method 383 129 (.pointer (some ⟨g, 0, none⟩)) "loop.example/g01079/impl.config").run Tryd.prog w = .ok (194, .pointer (some ⟨g, 0, none⟩)) w := by kernel_rfl
theorem mtTh (g : Nat) (w : World) : (Go.method 383 129 (.pointer (some ⟨g, 0, none⟩)) "loop.example/g01079/impl.halts").run Tryd.prog w = .ok (195, .pointer (some ⟨g, 0, none⟩)) w := by kernel_rfl
open Classical in
noncomputable def tgC (d : Int) (zss : List (List Int)) (hs xs : List Int) : Int :=
  if (tagB d zss hs && overB zss.length xs) = true then (if hlT d hs xs then 6 else if (apT zss xs).length ≤ 1000 then 0 else 5) else 1
noncomputable def tgX (d : Int) (zss : List (List Int)) (hs xs : List Int) : List Int := if tgC d zss hs xs = 0 then nxT d zss xs else []
theorem tg_bad {d : Int} {zss : List (List Int)} {hs xs : List Int} (h : (tagB d zss hs && overB zss.length xs) = false) : tgC d zss hs xs = 1 ∧ tgX d zss hs xs = [] := by
  have : tgC d zss hs xs = 1 := by simp [tgC, h]
  exact ⟨this, by simp [tgX, this]⟩
theorem tg_halt {d : Int} {zss : List (List Int)} {hs xs : List Int} (h : (tagB d zss hs && overB zss.length xs) = true) (k : hlT d hs xs) : tgC d zss hs xs = 6 ∧ tgX d zss hs xs = [] := by
  have : tgC d zss hs xs = 6 := by rw [tgC, if_pos h, if_pos k]
  exact ⟨this, by simp [tgX, this]⟩
theorem tg_full {d : Int} {zss : List (List Int)} {hs xs : List Int} (h : (tagB d zss hs && overB zss.length xs) = true) (k : ¬ hlT d hs xs) (q : ¬ (apT zss xs).length ≤ 1000) : tgC d zss hs xs = 5 ∧ tgX d zss hs xs = [] := by
  have : tgC d zss hs xs = 5 := by rw [tgC, if_pos h, if_neg k, if_neg q]
  exact ⟨this, by simp [tgX, this]⟩
theorem tg_next {d : Int} {zss : List (List Int)} {hs xs : List Int} (h : (tagB d zss hs && overB zss.length xs) = true) (k : ¬ hlT d hs xs) (q : (apT zss xs).length ≤ 1000) : tgC d zss hs xs = 0 ∧ tgX d zss hs xs = nxT d zss xs := by
  have : tgC d zss hs xs = 0 := by rw [tgC, if_pos h, if_neg k, if_pos q]
  exact ⟨this, by rw [tgX, if_pos this]⟩
theorem tg_both {d : Int} {zss : List (List Int)} {hs xs : List Int} (h : (tagB d zss hs && overB zss.length xs) = true) : tagB d zss hs = true ∧ overB zss.length xs = true := by simpa using h
set_option maxHeartbeats 2000000 in
theorem implBhT {w0 w : World} {g q : Nat} {d : Int} {vz vh : Value} {zss : List (List Int)} {hs xs : List Int} {n : Nat} (h : TgR w0 w g q d vz vh zss hs (nq xs) 0 n (tagB d zss hs && overB zss.length xs)) (hn : n = min xs.length 1000) (he : EtV w) (hb : Below w0.heap.size w0 w) :
    Calls Tryd.prog 85 #[.iface 129 (.pointer (some ⟨g, 0, none⟩))] w fun e w' => ∃ u, e = .returned (.tuple #[u, .int .i64 (tgC d zss hs xs)]) ∧ Ow w' w0.heap.size w'.heap.size u (tgX d zss hs xs) ∧ Below w0.heap.size w0 w' := by
  have H := Lib.hid h
  have HB := Lib.hid hb
  have HE := Lib.hid he
  have HN := Lib.hid hn
  have n1 := nlT g
  have m1 := mtT g
  have n2 := nlTs g
  have m2 := mtTs g
  obtain ⟨ok, hok⟩ : ∃ b, b = (tagB d zss hs && overB zss.length xs) := ⟨_, rfl⟩
  have HOK := Lib.hid hok
  rw [← hok] at H
  clear h he hb hn hok
  rcases eqOr ok with hb | hb
  · subst hb
    have e := Lib.hid (tg_bad HOK.out.symm)
    go_enter Tryd.func85, Tryd.ntmps85
    go_wp2_with fail
    refine (tgValid H.out.head).mono ?_
    rintro e1 w1 ⟨rfl, rfl⟩
    go_wp2
    go_ret2
    exact ⟨_, by rw [e.out.1] <;> rfl, by rw [e.out.2]; exact Ow.emptyUp HB.out.size, HB.out⟩
  subst hb
  obtain ⟨ht, hw⟩ := tg_both HOK.out.symm
  have hxl : xs.length ≤ 1000 := (overB_ok hw).1
  have hrg : rg (nq xs) 0 n = xs := by rw [HN.out, Nat.min_eq_left hxl]; exact nq_rg hxl
  have HT := Lib.hid ht
  have HW := Lib.hid hw
  have HRG := Lib.hid hrg
  clear ht hw hxl hrg
  by_cases hh : hlT d hs xs
  · have e := Lib.hid (tg_halt HOK.out.symm hh)
    have HST := Lib.hid (tgStepHalt H.out (tagB_ok HT.out).1.1 (by rw [HRG.out]; exact hh))
    clear hh
    go_enter Tryd.func85, Tryd.ntmps85
    go_wp2_with fail
    refine (tgValid H.out.head).mono ?_
    rintro e1 w1 ⟨rfl, rfl⟩
    go_wp2_with fail
    refine HST.out.mono ?_
    rintro e2 w2 ⟨rfl, hb2⟩
    have HB2 := Lib.hid (HB.out.trans (hb2.mono HB.out.size))
    have HE2 := Lib.hid (HE.out.below hb2 (Nat.le_refl _))
    clear hb2
    go_wp2_with fail
    refine (implCodeOf 6 _ HE2.out).mono ?_
    rintro e3 w3 ⟨rfl, hb3⟩
    have HB3 := Lib.hid (HB2.out.trans (hb3.mono HB2.out.size))
    clear hb3
    go_wp2
    go_ret2
    exact ⟨_, by rw [e.out.1] <;> rfl, by rw [e.out.2]; exact Ow.emptyUp HB3.out.size, HB3.out⟩
  by_cases hf : (apT zss xs).length ≤ 1000
  rotate_left
  · have e := Lib.hid (tg_full HOK.out.symm hh hf)
    have HST := Lib.hid (tgStepFull H.out HT.out (by rw [HRG.out]; exact HW.out) (by rw [HRG.out]; exact hh) (by rw [HRG.out]; omega))
    clear hh hf
    go_enter Tryd.func85, Tryd.ntmps85
    go_wp2_with fail
    refine (tgValid H.out.head).mono ?_
    rintro e1 w1 ⟨rfl, rfl⟩
    go_wp2_with fail
    refine HST.out.mono ?_
    rintro e2 w2 ⟨rfl, hb2⟩
    have HB2 := Lib.hid (HB.out.trans (hb2.mono HB.out.size))
    have HE2 := Lib.hid (HE.out.below hb2 (Nat.le_refl _))
    clear hb2
    go_wp2_with fail
    refine (implCodeOf 5 _ HE2.out).mono ?_
    rintro e3 w3 ⟨rfl, hb3⟩
    have HB3 := Lib.hid (HB2.out.trans (hb3.mono HB2.out.size))
    clear hb3
    go_wp2
    go_ret2
    exact ⟨_, by rw [e.out.1] <;> rfl, by rw [e.out.2]; exact Ow.emptyUp HB3.out.size, HB3.out⟩
  have e := Lib.hid (tg_next HOK.out.symm hh hf)
  have HST := Lib.hid (tgStepGo H.out HT.out (by rw [HRG.out]; exact HW.out) (by rw [HRG.out]; exact hh) (by rw [HRG.out]; exact hf))
  have n3 := nlTc g
  have m3 := mtTc g
  clear hh hf
  go_enter Tryd.func85, Tryd.ntmps85
  go_wp2_with fail
  refine (tgValid H.out.head).mono ?_
  rintro e1 w1 ⟨rfl, rfl⟩
  go_wp2_with fail
  refine HST.out.mono ?_
  rintro e2 w2 ⟨zs2, f2, l2, rfl, h2, hr2, ho2⟩
  have H2 := Lib.hid h2
  have HR2 := Lib.hid hr2
  have HB2 := Lib.hid (HB.out.trans (ho2.below (fun k hk => by have := H.out.bg; have := H.out.bq; rcases hk with rfl | rfl <;> omega) HB.out.size))
  clear h2 hr2 ho2
  go_wp2_with fail
  refine (tgConfig H2.out).mono ?_
  rintro e3 w3 ⟨u, rfl, ho, hb3⟩
  have HO := Lib.hid (ho.mono (B' := w0.heap.size) HB2.out.size (Nat.le_refl _) (Nat.le_refl _))
  have HB3 := Lib.hid (HB2.out.trans (hb3.mono HB2.out.size))
  clear ho hb3
  go_wp2
  go_ret2
  refine ⟨_, by rw [e.out.1] <;> rfl, ?_, HB3.out⟩
  rw [e.out.2, ← HRG.out, ← HR2.out]
  exact HO.out
theorem implStepTag (d : Int) (vz vh x : Value) (zss : List (List Int)) (hs xs : List Int) (w : World) (hz : RdL w vz zss) (hh : Rd w vh hs) (hx : Rd w x xs) (he : EtV w) :
    Calls Tryd.prog 36 #[.agg #[.int .i64 d, vz, vh], x] w fun e w' => ∃ u, e = .returned (.tuple #[u, .int .i64 (tgC d zss hs xs)]) ∧ Ow w' w.heap.size w'.heap.size u (tgX d zss hs xs) ∧ Below w.heap.size w w' := by
  have HZ := Lib.hid hz
  have HH := Lib.hid hh
  have HX := Lib.hid hx
  have HE := Lib.hid he
  obtain ⟨_, az, cz, rfl, _, _⟩ := hz
  obtain ⟨_, _, ah, ch, rfl, _, _⟩ := hh
  obtain ⟨_, _, ax, cx, rfl, _, _⟩ := hx
  obtain ⟨W0, hW0⟩ : ∃ W, W = w.alloc (Obj.cells #[.int .i64 d, .slice az zss.length cz, .slice ah hs.length ch] 58) := ⟨_, rfl⟩
  have HB : Hid (Below w.heap.size w W0) := Lib.hid (by rw [hW0]; exact (Below.refl w.heap.size w).alloc (Nat.le_refl _) _)
  have K0 : Hid (Cels W0 w.heap.size 58 [.int .i64 d, .slice az zss.length cz, .slice ah hs.length ch]) := Lib.hid (by rw [hW0]; exact Cels.new _ _ _)
  have HW0 := Lib.hid hW0.symm
  clear hW0 he
  go_enter Tryd.func36, Tryd.ntmps36
  go_wp2_with fail
  rw [HW0.out]
  refine (implNewTag d _ _ _ zss hs xs _ (HZ.out.below HB.out (Nat.le_refl _)) (HH.out.below HB.out (Nat.le_refl _)) (HX.out.below HB.out (Nat.le_refl _))).mono ?_
  rintro e w1 ⟨g, q, n, rfl, hr, hn, hb⟩
  have HR := Lib.hid hr
  have HN := Lib.hid hn
  have HB1 := Lib.hid hb
  clear hr hn hb
  go_wp2_with fail
  refine (implBhT HR.out HN.out (HE.out.below (HB.out.trans (HB1.out.mono HB.out.size)) (Nat.le_refl _)) HB1.out).mono ?_
  rintro e w2 ⟨u, rfl, ho, hb2⟩
  have HO := Lib.hid (ho.mono (B' := w.heap.size) HB.out.size (Nat.le_refl _) (Nat.le_refl _))
  have HB2 := Lib.hid (HB.out.trans (hb2.mono HB.out.size))
  clear ho hb2
  go_wp2
  go_ret2
  exact ⟨_, rfl, HO.out, HB2.out⟩
end Go.Proofs.YtgbhbbapkpgmiaaDoor.Ints
