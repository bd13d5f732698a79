/- TagLengths: the model's, and the program's contract as the law wants it. -/
import Derived.Test.YtkjoakdepjpkhaaDoorTgM
import Derived.Test.YtkjoakdepjpkhaaDoorTlI
namespace Go.Proofs.YtkjoakdepjpkhaaDoor.Ints
open Go.RowKit
set_option linter.unusedVariables false
set_option linter.unusedSimpArgs false
theorem specBudgetT (n : Int) (b : Bool) (w : World) (h : b = true ↔ (1 ≤ n ∧ n ≤ 20000)) : Calls Tryd.prog 64 #[.int .i64 n] w fun e w' => e = .returned (.bool b) ∧ w = w' := by
  cases b with
  | true =>
    have H := Lib.hid (h.1 rfl)
    clear h
    go_enter Tryd.func64, Tryd.ntmps64
    go_wp2_with fail
    refine (specInY n 1 20000 _ H.out).mono ?_
    rintro e w1 ⟨rfl, rfl⟩
    go_wp2
    go_ret
    exact ⟨rfl, rfl⟩
  | false =>
    have H : Hid (¬ (1 ≤ n ∧ n ≤ 20000)) := Lib.hid (fun q => by have := h.2 q; cases this)
    clear h
    go_enter Tryd.func64, Tryd.ntmps64
    go_wp2_with fail
    refine (specInN n 1 20000 _ H.out).mono ?_
    rintro e w1 ⟨rfl, rfl⟩
    go_wp2
    go_ret
    exact ⟨rfl, rfl⟩
theorem specMinT (a b : Int) (w : World) (m : Int) (hm : m = mnT a b) : Calls Tryd.prog 68 #[.int .i64 a, .int .i64 b] w fun e w' => e = .returned (.int .i64 m) ∧ w = w' := by
  by_cases h : a < b
  · have H : Hid (m = a) := Lib.hid (by rw [hm]; unfold mnT; split <;> omega)
    clear hm
    go_enter Tryd.func68, Tryd.ntmps68
    go_wp2
    go_ret
    exact ⟨by rw [H.out] <;> rfl, rfl⟩
  · have H : Hid (m = b) := Lib.hid (by rw [hm]; unfold mnT; split <;> omega)
    clear hm
    go_enter Tryd.func68, Tryd.ntmps68
    go_wp2
    go_ret
    exact ⟨by rw [H.out] <;> rfl, rfl⟩
theorem specMaxT (a b : Int) (w : World) (m : Int) (hm : m = mxT a b) : Calls Tryd.prog 69 #[.int .i64 a, .int .i64 b] w fun e w' => e = .returned (.int .i64 m) ∧ w = w' := by
  by_cases h : b < a
  · have H : Hid (m = a) := Lib.hid (by rw [hm]; unfold mxT; split <;> omega)
    clear hm
    go_enter Tryd.func69, Tryd.ntmps69
    go_wp2
    go_ret
    exact ⟨by rw [H.out] <;> rfl, rfl⟩
  · have H : Hid (m = b) := Lib.hid (by rw [hm]; unfold mxT; split <;> omega)
    clear hm
    go_enter Tryd.func69, Tryd.ntmps69
    go_wp2
    go_ret
    exact ⟨by rw [H.out] <;> rfl, rfl⟩
set_option maxRecDepth 100000 in
set_option maxHeartbeats 8000000 in
theorem specTagLengths (d : Int) (vz vh x : Value) (zss : List (List Int)) (hs xs : List Int) (bu : Int) (w : World) (hz : RdL w vz zss) (hh : Rd w vh hs) (hx : Rd w x xs) :
    Calls Tryd.prog 11 #[.agg #[.int .i64 d, vz, vh], x, .int .i64 bu] w fun e w' => e = .returned (.tuple #[.int .i64 (tlR d zss hs xs bu).lo, .int .i64 (tlR d zss hs xs bu).hi, .int .i64 (tlR d zss hs xs bu).code]) ∧ Below w.heap.size w w' := by
  have HZ := Lib.hid hz
  have HH := Lib.hid hh
  have HX := Lib.hid hx
  obtain ⟨_, az, cz, rfl, _, _⟩ := hz
  obtain ⟨_, _, ah, ch, rfl, _, _⟩ := hh
  obtain ⟨_, _, ax, cx, rfl, _, _⟩ := hx
  obtain ⟨W0, hW0⟩ : ∃ W, W = w.alloc (Obj.cells #[.int .i64 d, .slice az zss.length cz, .slice ah hs.length ch] 29) := ⟨_, rfl⟩
  have HB : Hid (Below w.heap.size w W0) := Lib.hid (by rw [hW0]; exact (Below.refl w.heap.size w).alloc (Nat.le_refl _) _)
  have K0 : Hid (Cels W0 w.heap.size 29 [.int .i64 d, .slice az zss.length cz, .slice ah hs.length ch]) := Lib.hid (by rw [hW0]; exact Cels.new _ _ _)
  have HW0 := Lib.hid hW0.symm
  have HZ0 := Lib.hid (HZ.out.below HB.out (Nat.le_refl _))
  have HH0 := Lib.hid (HH.out.below HB.out (Nat.le_refl _))
  have HX0 := Lib.hid (HX.out.below HB.out (Nat.le_refl _))
  obtain ⟨ok, hok⟩ : ∃ b, b = (tagB d zss hs && overB zss.length xs) := ⟨_, rfl⟩
  have HOK := Lib.hid hok
  obtain ⟨R, hR⟩ : ∃ R, R = tlR d zss hs xs bu := ⟨_, rfl⟩
  rw [← hR]
  have HR := Lib.hid hR
  clear hW0 hok hR
  rcases eqOr ok with hb | hb
  · subst hb
    have e := Lib.hid (HR.out.trans (tl_bad (bu := bu) HOK.out.symm))
    go_enter Tryd.func11, Tryd.ntmps11
    go_wp2_with fail
    rw [HW0.out]
    refine (specAskT w.heap.size d _ zss _ hs _ xs _ HZ0.out HH0.out HX0.out K0.out false HOK.out 1 (fun h => by cases h) (fun _ => rfl)).mono ?_
    rintro e1 w1 ⟨rfl, hb1⟩
    have HB1 := Lib.hid (HB.out.trans (hb1.mono HB.out.size))
    clear hb1
    go_wp2
    go_ret3
    exact ⟨by rw [e.out] <;> rfl, HB1.out⟩
  subst hb
  obtain ⟨ht, hw⟩ := tg_both HOK.out.symm
  have HT := Lib.hid ht
  have HWW := Lib.hid hw
  clear ht hw
  by_cases hq : 1 ≤ bu ∧ bu ≤ 20000
  rotate_left
  · have HQ := Lib.hid hq
    have e := Lib.hid (HR.out.trans (tl_range HOK.out.symm hq))
    clear hq
    go_enter Tryd.func11, Tryd.ntmps11
    go_wp2_with fail
    rw [HW0.out]
    refine (specAskT w.heap.size d _ zss _ hs _ xs _ HZ0.out HH0.out HX0.out K0.out true HOK.out 0 (fun _ => rfl) (fun h => by cases h)).mono ?_
    rintro e1 w1 ⟨rfl, hb1⟩
    have HB1 := Lib.hid (HB.out.trans (hb1.mono HB.out.size))
    clear hb1
    go_wp2_with fail
    refine (specBudgetT bu false _ ⟨fun h => (by cases h), fun h => (by have := HQ.out; omega)⟩).mono ?_
    rintro e1 w3 ⟨rfl, rfl⟩
    go_wp2
    go_ret3
    exact ⟨by rw [e.out] <;> rfl, HB1.out⟩
  have HBU := Lib.hid hq
  have HRG := Lib.hid (HR.out.trans (tl_good HOK.out.symm hq))
  obtain ⟨B, rfl⟩ : ∃ B : Nat, bu = (B : Int) := ⟨bu.toNat, by omega⟩
  have hBB : B ≤ 20000 := by omega
  have HRB : Hid (tlF d zss hs B xs (xs.length : Int) (xs.length : Int) = R) := Lib.hid (by have := HRG.out; rw [this]; simp)
  obtain ⟨dn, rfl⟩ : ∃ dn : Nat, d = (dn : Int) := ⟨d.toNat, by have := (tagB_ok HT.out).1; omega⟩
  clear hq HRG
  go_enter Tryd.func11, Tryd.ntmps11
  go_wp2_with fail
  rw [HW0.out]
  refine (specAskT w.heap.size (dn : Int) _ zss _ hs _ xs _ HZ0.out HH0.out HX0.out K0.out true HOK.out 0 (fun _ => rfl) (fun h => by cases h)).mono ?_
  rintro e1 w1 ⟨rfl, hb1⟩
  have HB1 := Lib.hid (HB.out.trans (hb1.mono HB.out.size))
  have K1 := Lib.hid (K0.out.below hb1 K0.out.lt)
  clear hb1
  go_wp2_with fail
  refine (specBudgetT (B : Int) true _ ⟨fun _ => HBU.out, fun _ => rfl⟩).mono ?_
  rintro e1 w3 ⟨rfl, rfl⟩
  go_wp2_with fail
  refine (specOwn _ xs _ (HX.out.below HB1.out (Nat.le_refl _))).mono ?_
  rintro e w2 ⟨r1, rfl, ho, hb2⟩
  have HO1 := Lib.hid (ho.mono (B' := w.heap.size) HB1.out.size (Nat.le_refl _) (Nat.le_refl _))
  have HB2 := Lib.hid (HB1.out.trans (hb2.mono HB1.out.size))
  have K2 := Lib.hid (K1.out.below hb2 K1.out.lt)
  clear ho hb2
  go_wp2
  go_loopw [10, 11, 12, 13] (fun s a b t wr => ∃ (m : Nat) (ys : List Int) (lo hi : Int), t = .int .i64 (m : Int) ∧ a = .int .i64 lo ∧ b = .int .i64 hi ∧ m ≤ B ∧ overB zss.length ys = true ∧ tlF (dn : Int) zss hs (B - m) ys lo hi = R ∧ Ow wr w.heap.size wr.heap.size s ys ∧ Cels wr w.heap.size 29 [.int .i64 (dn : Int), .slice az zss.length cz, .slice ah hs.length ch] ∧ Below w.heap.size w wr) (fun _ _ _ t _ => B - (intOf t).toNat)
  case atStart => exact ⟨0, xs, _, _, rfl, rfl, rfl, Nat.zero_le _, HWW.out, HRB.out, HO1.out, K2.out, HB2.out⟩
  case round =>
    obtain ⟨m, ys, lo, hi, rfl, rfl, rfl, hm, hov, hr, ho, hk, hb⟩ := hrel
    obtain ⟨ga, gc, hr0⟩ := ho.shape
    subst hr0
    have HOY := Lib.hid hov
    have HRr := Lib.hid hr
    have HBr := Lib.hid hb
    have HO := Lib.hid ho
    have HC := Lib.hid hk
    have HD : Hid (1 ≤ (dn : Int)) := Lib.hid (tagB_ok HT.out).1.1
    clear hov hr ho hb hk HO1 HB1 HRB HR HB2
    by_cases hmB : m = B
    · have k2 : decide ((m : Int) < (B : Int)) = false := by simp [hmB]
      have k3 : decide (m < B) = false := by simp [hmB]
      have HRE : Hid (R = ⟨lo, hi, 0⟩) := Lib.hid (by have := HRr.out; rw [← hmB, Nat.sub_self] at this; exact this.symm)
      clear hmB
      go_wp2
      go_ret3
      exact ⟨by rw [HRE.out] <;> rfl, HBr.out⟩
    have hlt : m < B := by omega
    have k2 : decide ((m : Int) < (B : Int)) = true := decide_eq_true (by omega)
    have k3 : decide (m < B) = true := decide_eq_true (by omega)
    have HLT := Lib.hid hlt
    have HBK : Hid (B - m = (B - (m + 1)) + 1) := Lib.hid (by omega)
    clear hmB hlt
    by_cases hh : hlT (dn : Int) hs ys
    · have HRE : Hid (R = ⟨lo, hi, 0⟩) := Lib.hid (by have := HRr.out; rw [tlF_halt _ _ _ hh] at this; exact this.symm)
      have HHL := Lib.hid hh
      clear hh
      go_wp2_with fail
      refine (specHaltsT w.heap.size (dn : Int) _ _ _ hs ys _ (HH.out.below HBr.out (Nat.le_refl _)) HO.out.rd HC.out HD.out true ⟨fun _ => HHL.out, fun _ => rfl⟩).mono ?_
      rintro e w2 ⟨rfl, hb2⟩
      have HB2 := Lib.hid (HBr.out.trans (hb2.mono HBr.out.size))
      clear hb2
      go_wp2
      go_ret3
      exact ⟨by rw [HRE.out] <;> rfl, HB2.out⟩
    have HNH := Lib.hid hh
    have HP0 := Lib.hid (hl_pos HT.out hh)
    obtain ⟨hyl, hdg⟩ := overB_ok HOY.out
    have hmh := dig_head hdg HP0.out
    obtain ⟨j, hj⟩ : ∃ j : Nat, ys.getD 0 0 = (j : Int) := ⟨(ys.getD 0 0).toNat, by omega⟩
    have hjl : j < zss.length := by omega
    have HF := Lib.hid (And.intro hj (And.intro hjl (And.intro (show dn ≤ ys.length by have : ¬ ((ys.length : Int) < (dn : Int)) := fun q => hh (.inl q); omega) (And.intro hyl ((tagB_ok HT.out).2.2 j hjl).1))))
    obtain ⟨bo, hbo⟩ : ∃ b, b = decide ((apT zss ys).length ≤ 1000) := ⟨_, rfl⟩
    have HBO := Lib.hid hbo
    clear hh hyl hdg hmh hj hjl hbo
    go_wp2_with fail
    refine (specHaltsT w.heap.size (dn : Int) _ _ _ hs ys _ (HH.out.below HBr.out (Nat.le_refl _)) HO.out.rd HC.out HD.out false ⟨fun h => (by cases h), fun h => absurd h HNH.out⟩).mono ?_
    rintro e w2 ⟨rfl, hb2⟩
    have HB2 := Lib.hid (HBr.out.trans (hb2.mono HBr.out.size))
    have HO2 := Lib.hid ((HO.out.below hb2 (Nat.le_refl _)).mono (Nat.le_refl _) hb2.size (Nat.le_refl _))
    have HC2 := Lib.hid (HC.out.below hb2 HC.out.lt)
    clear hb2
    go_wp2_with fail
    refine (specStepT w.heap.size dn _ _ _ zss ys j _ (HZ.out.below HB2.out (Nat.le_refl _)) HO2.out.rd HC2.out HF.out.1 HF.out.2.1 HP0.out HF.out.2.2.1 HF.out.2.2.2.1 HF.out.2.2.2.2).mono ?_
    rintro e3 w3 ⟨r3, rfl, o3, hb3⟩
    rw [← HBO.out]
    have HO3 := Lib.hid (o3.mono (B' := w.heap.size) HB2.out.size (Nat.le_refl _) (Nat.le_refl _))
    have HB3 := Lib.hid (HB2.out.trans (hb3.mono HB2.out.size))
    have HC3 := Lib.hid (HC2.out.below hb3 HC2.out.lt)
    obtain ⟨gb, gd, hr3⟩ := o3.shape
    subst hr3
    clear o3 hb3
    rcases eqOr bo with hb | hb
    · subst hb
      have HV : Hid (¬ (apT zss ys).length ≤ 1000) := Lib.hid (by have := HBO.out; intro h; rw [decide_eq_true h] at this; cases this)
      have HRE : Hid (R = ⟨0, 0, 5⟩) := Lib.hid (by have := HRr.out; rw [HBK.out, tlF_full _ _ _ HNH.out HV.out] at this; exact this.symm)
      go_wp2
      go_ret3
      exact ⟨by rw [HRE.out] <;> rfl, HB3.out⟩
    subst hb
    have HV : Hid ((apT zss ys).length ≤ 1000) := Lib.hid (of_decide_eq_true HBO.out.symm)
    obtain ⟨Y, hY⟩ : ∃ Y, Y = nxT (dn : Int) zss ys := ⟨_, rfl⟩
    rw [← hY] at HO3
    rw [← hY]
    obtain ⟨m1, hm1⟩ : ∃ m1, m1 = mnT lo (Y.length : Int) := ⟨_, rfl⟩
    obtain ⟨m2, hm2⟩ : ∃ m2, m2 = mxT hi (Y.length : Int) := ⟨_, rfl⟩
    have HM1 := Lib.hid hm1
    have HM2 := Lib.hid hm2
    have HRN : Hid (tlF (dn : Int) zss hs (B - (m + 1)) Y m1 m2 = R) := Lib.hid (by
      have := HRr.out
      rw [HBK.out, tlF_next _ _ _ HNH.out HV.out, ← hY, ← hm1, ← hm2] at this
      exact this)
    have HON : Hid (overB zss.length Y = true) := Lib.hid (by rw [hY]; exact nx_ok HT.out HOY.out HP0.out HV.out)
    clear hY hm1 hm2
    go_wp2_with (first | (go_at_call 68; refine (specMinT lo _ _ m1 HM1.out).mono ?_; rintro e4 w4 ⟨rfl, rfl⟩) | (go_at_call 69; refine (specMaxT hi _ _ m2 HM2.out).mono ?_; rintro e4 w4 ⟨rfl, rfl⟩))
    go_roundw
    case rel => exact ⟨m + 1, _, _, _, by go_num, rfl, rfl, by have := HLT.out; omega, HON.out, HRN.out, HO3.out, HC3.out, HB3.out⟩
    case measure => have := HLT.out; simp [intOf]; omega
theorem implTagLengthsL (d : Int) (vz vh x : Value) (zss : List (List Int)) (hs xs : List Int) (bu : Int) (w : World) (hz : RdL w vz zss) (hh : Rd w vh hs) (hx : Rd w x xs) (he : EtV w) :
    Calls Tryd.prog 14 #[.agg #[.int .i64 d, vz, vh], x, .int .i64 bu] w fun e w' => e = .returned (.tuple #[.int .i64 (tlR d zss hs xs bu).lo, .int .i64 (tlR d zss hs xs bu).hi, .int .i64 (tlR d zss hs xs bu).code]) ∧ Below w.heap.size w w' := callsIn_wide.1 (implTagLengths_in d vz vh x zss hs xs bu w hz hh hx he)
end Go.Proofs.YtkjoakdepjpkhaaDoor.Ints
