/- StepTag of the model. -/
import Derived.Test.YtgbhbbapkpgmiaaDoorTgB
namespace Go.Proofs.YtgbhbbapkpgmiaaDoor.Ints
open Go.RowKit
set_option linter.unusedVariables false
set_option linter.unusedSimpArgs false
theorem specGoodT (gx n : Nat) (a : Option Addr) (c : Nat) (x : Value) (xs : List Int) (w : World) (hg : w.cell? ⟨gx, 1, none⟩ = some (.slice a n c)) (hn : n ≤ 1048576) (hxs : Rd w x xs) (b : Bool) (hb : b = overB n xs) :
    Calls Tryd.prog 117 #[.pointer (some ⟨gx, 0, none⟩), x] w fun e w' => e = .returned (.bool b) ∧ w = w' := by
  have H := Lib.hid hxs
  have HB := Lib.hid hb
  clear hxs hb
  go_enter Tryd.func117, Tryd.ntmps117
  go_wp2_with fail
  refine (specOver _ xs (n : Int) _ H.out (by omega)).mono ?_
  rintro e w1 ⟨rfl, rfl⟩
  go_wp2
  go_ret
  exact ⟨by rw [HB.out] <;> rfl, rfl⟩
set_option maxHeartbeats 1000000 in
theorem specAskT (gx : Nat) (d : Int) (v : Value) (zss : List (List Int)) (u : Value) (hs : List Int) (x : Value) (xs : List Int) (w : World) (hv : RdL w v zss) (hu : Rd w u hs) (hxs : Rd w x xs) (hx : Cels w gx 58 [.int .i64 d, v, u])
    (ok : Bool) (hok : ok = (tagB d zss hs && overB zss.length xs)) (cd : Int) (hc0 : ok = true → cd = 0) (hc1 : ok = false → cd = 1) :
    Calls Tryd.prog 81 #[.pointer (some ⟨gx, 0, none⟩), x] w fun e w' => e = .returned (.int .i64 cd) ∧ Below w.heap.size w w' := by
  have HV := Lib.hid hv
  have HU := Lib.hid hu
  have HXS := Lib.hid hxs
  have HX := Lib.hid hx
  have hl := hv.len
  obtain ⟨_, a, c, rfl, _, _⟩ := hv
  obtain ⟨_, _, a2, c2, rfl, _, _⟩ := hu
  obtain ⟨_, _, a3, c3, rfl, _, _⟩ := hxs
  obtain ⟨b1, hb1⟩ : ∃ b, b = tagB d zss hs := ⟨_, rfl⟩
  obtain ⟨b2, hb2⟩ : ∃ b, b = overB zss.length xs := ⟨_, rfl⟩
  have HB1 := Lib.hid hb1
  have HB2 := Lib.hid hb2
  have HOK : Hid (ok = (b1 && b2)) := Lib.hid (by rw [hok, hb1, hb2])
  have HC0 := Lib.hid hc0
  have HC1 := Lib.hid hc1
  clear hb1 hb2 hok hc0 hc1 hx
  rcases eqOr b1 with hb | hb
  · subst hb
    obtain rfl : cd = 1 := HC1.out (by rw [HOK.out]; rfl)
    go_enter Tryd.func81, Tryd.ntmps81
    go_wp2_with fail
    refine (specTagIs gx d _ zss _ hs _ HV.out HU.out HX.out).mono ?_
    rintro e w1 ⟨rfl, hb⟩
    rw [← HB1.out]
    have HB := Lib.hid hb
    clear hb
    go_wp2
    go_ret
    exact ⟨rfl, HB.out⟩
  subst hb
  rcases eqOr b2 with hb | hb
  · subst hb
    obtain rfl : cd = 1 := HC1.out (by rw [HOK.out]; rfl)
    go_enter Tryd.func81, Tryd.ntmps81
    go_wp2_with fail
    refine (specTagIs gx d _ zss _ hs _ HV.out HU.out HX.out).mono ?_
    rintro e w1 ⟨rfl, hb⟩
    rw [← HB1.out]
    have HB := Lib.hid hb
    have HG := Lib.hid ((HX.out.below hb HX.out.lt).cell 1 rfl)
    clear hb
    go_wp2_with (go_at_call 117; refine (specGoodT gx zss.length a c _ xs _ HG.out hl (HXS.out.below HB.out (Nat.le_refl _)) false HB2.out).mono ?_; rintro e w2 ⟨rfl, rfl⟩)
    go_ret
    exact ⟨rfl, HB.out⟩
  subst hb
  obtain rfl : cd = 0 := HC0.out (by rw [HOK.out]; rfl)
  go_enter Tryd.func81, Tryd.ntmps81
  go_wp2_with fail
  refine (specTagIs gx d _ zss _ hs _ HV.out HU.out HX.out).mono ?_
  rintro e w1 ⟨rfl, hb⟩
  rw [← HB1.out]
  have HB := Lib.hid hb
  have HG := Lib.hid ((HX.out.below hb HX.out.lt).cell 1 rfl)
  clear hb
  go_wp2_with (go_at_call 117; refine (specGoodT gx zss.length a c _ xs _ HG.out hl (HXS.out.below HB.out (Nat.le_refl _)) true HB2.out).mono ?_; rintro e w2 ⟨rfl, rfl⟩)
  go_ret
  exact ⟨rfl, HB.out⟩
set_option maxHeartbeats 4000000 in
theorem specStepTag (d : Int) (vz vh x : Value) (zss : List (List Int)) (hs xs : List Int) (w : World) (hz : RdL w vz zss) (hh : Rd w vh hs) (hx : Rd w x xs) :
    Calls Tryd.prog 33 #[.agg #[.int .i64 d, vz, vh], x] w fun e w' => ∃ u, e = .returned (.tuple #[u, .int .i64 (tgC d zss hs xs)]) ∧ Ow w' w.heap.size w'.heap.size u (tgX d zss hs xs) ∧ Below w.heap.size w w' := by
  have HZ := Lib.hid hz
  have HH := Lib.hid hh
  have HX := Lib.hid hx
  obtain ⟨_, az, cz, rfl, _, _⟩ := hz
  obtain ⟨_, _, ah, ch, rfl, _, _⟩ := hh
  obtain ⟨_, _, ax, cx, rfl, _, _⟩ := hx
  obtain ⟨W0, hW0⟩ : ∃ W, W = w.alloc (Obj.cells #[.int .i64 d, .slice az zss.length cz, .slice ah hs.length ch] 58) := ⟨_, rfl⟩
  have HB : Hid (Below w.heap.size w W0) := Lib.hid (by rw [hW0]; exact (Below.refl w.heap.size w).alloc (Nat.le_refl _) _)
  have K0 : Hid (Cels W0 w.heap.size 58 [.int .i64 d, .slice az zss.length cz, .slice ah hs.length ch]) := Lib.hid (by rw [hW0]; exact Cels.new _ _ _)
  have HW0 := Lib.hid hW0.symm
  have HZ0 := Lib.hid (HZ.out.below HB.out (Nat.le_refl _))
  have HH0 := Lib.hid (HH.out.below HB.out (Nat.le_refl _))
  have HX0 := Lib.hid (HX.out.below HB.out (Nat.le_refl _))
  obtain ⟨ok, hok⟩ : ∃ b, b = (tagB d zss hs && overB zss.length xs) := ⟨_, rfl⟩
  have HOK := Lib.hid hok
  clear hW0 hok
  rcases eqOr ok with hb | hb
  · subst hb
    have e := Lib.hid (tg_bad HOK.out.symm)
    go_enter Tryd.func33, Tryd.ntmps33
    go_wp2_with fail
    rw [HW0.out]
    refine (specAskT w.heap.size d _ zss _ hs _ xs _ HZ0.out HH0.out HX0.out K0.out false HOK.out 1 (fun h => by cases h) (fun _ => rfl)).mono ?_
    rintro e1 w1 ⟨rfl, hb1⟩
    have HB1 := Lib.hid (HB.out.trans (hb1.mono HB.out.size))
    clear hb1
    go_wp2
    go_ret2
    exact ⟨_, by rw [e.out.1] <;> rfl, by rw [e.out.2]; exact Ow.emptyUp HB1.out.size, HB1.out⟩
  subst hb
  obtain ⟨ht, hw⟩ := tg_both HOK.out.symm
  have HT := Lib.hid ht
  have HWW := Lib.hid hw
  clear ht hw
  by_cases hh : hlT d hs xs
  · have e := Lib.hid (tg_halt HOK.out.symm hh)
    have HL := Lib.hid hh
    clear hh
    go_enter Tryd.func33, Tryd.ntmps33
    go_wp2_with fail
    rw [HW0.out]
    refine (specAskT w.heap.size d _ zss _ hs _ xs _ HZ0.out HH0.out HX0.out K0.out true HOK.out 0 (fun _ => rfl) (fun h => by cases h)).mono ?_
    rintro e1 w1 ⟨rfl, hb1⟩
    have HB1 := Lib.hid (HB.out.trans (hb1.mono HB.out.size))
    have K1 := Lib.hid (K0.out.below hb1 K0.out.lt)
    clear hb1
    go_wp2_with fail
    refine (specHaltsT w.heap.size d _ _ _ hs xs _ (HH.out.below HB1.out (Nat.le_refl _)) (HX.out.below HB1.out (Nat.le_refl _)) K1.out (tagB_ok HT.out).1.1 true (by simp [HL.out])).mono ?_
    rintro e2 w2 ⟨rfl, hb2⟩
    have HB2 := Lib.hid (HB1.out.trans (hb2.mono HB1.out.size))
    clear hb2
    go_wp2
    go_ret2
    exact ⟨_, by rw [e.out.1] <;> rfl, by rw [e.out.2]; exact Ow.emptyUp HB2.out.size, HB2.out⟩
  have HL := Lib.hid hh
  obtain ⟨hd, _, hws⟩ := tagB_ok HT.out
  obtain ⟨hxl, hdg⟩ := overB_ok HWW.out
  have hld : ¬ ((xs.length : Int) < d) := fun q => hh (.inl q)
  have hp : 0 < xs.length := by omega
  have hm := dig_head hdg hp
  obtain ⟨m, hme⟩ : ∃ m : Nat, xs.getD 0 0 = (m : Int) := ⟨(xs.getD 0 0).toNat, by omega⟩
  have hml : m < zss.length := by omega
  obtain ⟨dn, rfl⟩ : ∃ dn : Nat, d = (dn : Int) := ⟨d.toNat, by omega⟩
  have HF := Lib.hid (And.intro hme (And.intro hml (And.intro hp (And.intro (show dn ≤ xs.length by omega) (And.intro hxl (hws m hml).1)))))
  obtain ⟨bo, hbo⟩ : ∃ b, b = decide ((apT zss xs).length ≤ 1000) := ⟨_, rfl⟩
  have HBO := Lib.hid hbo
  clear hh hd hws hxl hdg hld hp hm hme hml hbo
  go_enter Tryd.func33, Tryd.ntmps33
  go_wp2_with fail
  rw [HW0.out]
  refine (specAskT w.heap.size (dn : Int) _ zss _ hs _ xs _ HZ0.out HH0.out HX0.out K0.out true HOK.out 0 (fun _ => rfl) (fun h => by cases h)).mono ?_
  rintro e1 w1 ⟨rfl, hb1⟩
  have HB1 := Lib.hid (HB.out.trans (hb1.mono HB.out.size))
  have K1 := Lib.hid (K0.out.below hb1 K0.out.lt)
  clear hb1
  go_wp2_with fail
  refine (specHaltsT w.heap.size (dn : Int) _ _ _ hs xs _ (HH.out.below HB1.out (Nat.le_refl _)) (HX.out.below HB1.out (Nat.le_refl _)) K1.out (tagB_ok HT.out).1.1 false (by simp [HL.out])).mono ?_
  rintro e2 w2 ⟨rfl, hb2⟩
  have HB2 := Lib.hid (HB1.out.trans (hb2.mono HB1.out.size))
  have K2 := Lib.hid (K1.out.below hb2 K1.out.lt)
  clear hb2
  go_wp2_with fail
  refine (specStepT w.heap.size dn _ _ _ zss xs m _ (HZ.out.below HB2.out (Nat.le_refl _)) (HX.out.below HB2.out (Nat.le_refl _)) K2.out HF.out.1 HF.out.2.1 HF.out.2.2.1 HF.out.2.2.2.1 HF.out.2.2.2.2.1 HF.out.2.2.2.2.2).mono ?_
  rintro e3 w3 ⟨r3, rfl, o3, hb3⟩
  rw [← HBO.out]
  obtain ⟨ga, gc, hr3⟩ := o3.shape
  subst hr3
  have HO3 := Lib.hid (o3.mono (B' := w.heap.size) HB2.out.size (Nat.le_refl _) (Nat.le_refl _))
  have HB3 := Lib.hid (HB2.out.trans (hb3.mono HB2.out.size))
  clear o3 hb3
  rcases eqOr bo with hb | hb
  · subst hb
    have e := Lib.hid (tg_full HOK.out.symm HL.out (by have := HBO.out; intro h; rw [decide_eq_true h] at this; cases this))
    go_wp2
    go_ret2
    exact ⟨_, by rw [e.out.1] <;> rfl, by rw [e.out.2]; exact Ow.emptyUp HB3.out.size, HB3.out⟩
  subst hb
  have e := Lib.hid (tg_next HOK.out.symm HL.out (of_decide_eq_true HBO.out.symm))
  go_wp2
  go_ret2
  exact ⟨_, by rw [e.out.1] <;> rfl, by rw [e.out.2]; exact HO3.out, HB3.out⟩
theorem implStepTagL (d : Int) (vz vh x : Value) (zss : List (List Int)) (hs xs : List Int) (w : World) (hz : RdL w vz zss) (hh : Rd w vh hs) (hx : Rd w x xs) (he : EtV w) :
    Calls Tryd.prog 36 #[.agg #[.int .i64 d, vz, vh], x] w fun e w' => ∃ u, e = .returned (.tuple #[u, .int .i64 (tgC d zss hs xs)]) ∧ Ow w' w.heap.size w'.heap.size u (tgX d zss hs xs) ∧ Below w.heap.size w w' := implStepTag d vz vh x zss hs xs w hz hh hx he
end Go.Proofs.YtgbhbbapkpgmiaaDoor.Ints
