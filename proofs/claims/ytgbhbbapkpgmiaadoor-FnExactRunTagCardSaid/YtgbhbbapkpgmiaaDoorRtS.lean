/- RunTag: the model's. (gen_rt.py) -/
import Derived.Test.YtgbhbbapkpgmiaaDoorTgM
import Derived.Test.YtgbhbbapkpgmiaaDoorRtI
namespace Go.Proofs.YtgbhbbapkpgmiaaDoor.Ints
open Go.RowKit
set_option linter.unusedVariables false
set_option linter.unusedSimpArgs false
set_option maxHeartbeats 4000000 in
set_option maxRecDepth 100000 in
theorem specRunT (gx B : Nat) (d : Int) (vz vh x : Value) (zss : List (List Int)) (hs xs : List Int) (w : World) (hz : RdL w vz zss) (hh : Rd w vh hs) (hx : Rd w x xs) (hc : Cels w gx 58 [.int .i64 d, vz, vh]) (ht : tagB d zss hs = true) (hw : overB zss.length xs = true) (hB : B ≤ 20000)
    (R : RtE) (hR : R = rtF d zss hs B xs 0) :
    Calls Tryd.prog 93 #[.pointer (some ⟨gx, 0, none⟩), x, .int .i64 (B : Int)] w fun e w' => ∃ u, e = .returned (.tuple #[u, .int .i64 R.n, .bool R.h, .bool (decide (R.code = 0))]) ∧ Ow w' w.heap.size w'.heap.size u R.cs ∧ Below w.heap.size w w' := by
  have HZ := Lib.hid hz
  have HH := Lib.hid hh
  have HX := Lib.hid hx
  have HC := Lib.hid hc
  have HT := Lib.hid ht
  have HOV := Lib.hid hw
  have HR := Lib.hid hR.symm
  obtain ⟨_, _, ax, cx, rfl, _, _⟩ := hx
  obtain ⟨dn, rfl⟩ : ∃ dn : Nat, d = (dn : Int) := ⟨d.toNat, by have := (tagB_ok ht).1; omega⟩
  clear hz hh hc ht hw hR
  go_enter Tryd.func93, Tryd.ntmps93
  go_wp2_with fail
  refine (specOwn _ xs _ HX.out).mono ?_
  rintro e w1 ⟨r1, rfl, ho, hb1⟩
  have HO1 := Lib.hid ho
  have HB1 := Lib.hid hb1
  clear ho hb1
  go_wp2
  go_loopw [10, 11] (fun s t wr => ∃ (m : Nat) (ys : List Int), t = .int .i64 (m : Int) ∧ m ≤ B ∧ overB zss.length ys = true ∧ rtF (dn : Int) zss hs (B - m) ys (m : Int) = R ∧ Ow wr w.heap.size wr.heap.size s ys ∧ Below w.heap.size w wr) (fun _ t _ => B - (intOf t).toNat)
  case atStart => exact ⟨0, xs, rfl, Nat.zero_le _, HOV.out, by rw [← HR.out] <;> rfl, HO1.out, HB1.out⟩
  case round =>
    obtain ⟨m, ys, rfl, hm, hov, hr, ho, hb⟩ := hrel
    obtain ⟨ga, gc, hr0⟩ := ho.shape
    subst hr0
    have HOY := Lib.hid hov
    have HRr := Lib.hid hr
    have HB := Lib.hid hb
    have HO := Lib.hid ho
    have HD : Hid (1 ≤ (dn : Int)) := Lib.hid (tagB_ok HT.out).1.1
    clear hov hr ho hb HO1 HB1 HOV HR
    by_cases hmB : m = B
    · have k2 : decide ((m : Int) < (B : Int)) = false := by simp [hmB]
      obtain ⟨bh, hbh⟩ : ∃ b : Bool, b = true ↔ hlT (dn : Int) hs ys := by
        by_cases h : hlT (dn : Int) hs ys
        · exact ⟨true, by simp [h]⟩
        · exact ⟨false, by simp [h]⟩
      have HBH := Lib.hid hbh
      have HRE : Hid (R = ⟨0, ys, (m : Int), bh⟩) := Lib.hid (by have := HRr.out; rw [← hmB, Nat.sub_self, rtF_zero _ HBH.out] at this; exact this.symm)
      subst hmB
      clear hbh
      go_wp2_with fail
      refine (specHaltsT gx (dn : Int) _ _ _ hs ys _ (HH.out.below HB.out (Nat.le_refl _)) HO.out.rd (HC.out.below HB.out HC.out.lt) HD.out bh HBH.out).mono ?_
      rintro e w2 ⟨rfl, hb2⟩
      have HB2 := Lib.hid (HB.out.trans (hb2.mono HB.out.size))
      have HO2 := Lib.hid ((HO.out.below hb2 (Nat.le_refl _)).mono (Nat.le_refl _) hb2.size (Nat.le_refl _))
      clear hb2
      go_wp2
      (try simp only [Exit.inBlock, Exit.then]); refine bodyPost_ret (results_tmp4 rfl _ _ _) rfl ?_
      exact ⟨_, by rw [HRE.out] <;> rfl, by rw [HRE.out]; exact HO2.out, HB2.out⟩
    have hlt : m < B := by omega
    have k2 : decide ((m : Int) < (B : Int)) = true := decide_eq_true (by omega)
    have HLT := Lib.hid hlt
    have HBK : Hid (B - m = (B - (m + 1)) + 1) := Lib.hid (by omega)
    clear hmB hlt
    by_cases hh : hlT (dn : Int) hs ys
    · have HRE : Hid (R = ⟨0, ys, (m : Int), true⟩) := Lib.hid (by have := HRr.out; rw [rtF_halt _ _ hh] at this; exact this.symm)
      have HHL := Lib.hid hh
      clear hh
      go_wp2_with fail
      refine (specHaltsT gx (dn : Int) _ _ _ hs ys _ (HH.out.below HB.out (Nat.le_refl _)) HO.out.rd (HC.out.below HB.out HC.out.lt) HD.out true ⟨fun _ => HHL.out, fun _ => rfl⟩).mono ?_
      rintro e w2 ⟨rfl, hb2⟩
      have HB2 := Lib.hid (HB.out.trans (hb2.mono HB.out.size))
      have HO2 := Lib.hid ((HO.out.below hb2 (Nat.le_refl _)).mono (Nat.le_refl _) hb2.size (Nat.le_refl _))
      clear hb2
      go_wp2
      (try simp only [Exit.inBlock, Exit.then]); refine bodyPost_ret (results_tmp4 rfl _ _ _) rfl ?_
      exact ⟨_, by rw [HRE.out] <;> rfl, by rw [HRE.out]; exact HO2.out, HB2.out⟩
    have HNH := Lib.hid hh
    have HP0 := Lib.hid (hl_pos HT.out hh)
    obtain ⟨hyl, hdg⟩ := overB_ok HOY.out
    have hmh := dig_head hdg HP0.out
    obtain ⟨j, hj⟩ : ∃ j : Nat, ys.getD 0 0 = (j : Int) := ⟨(ys.getD 0 0).toNat, by omega⟩
    have hjl : j < zss.length := by omega
    have HF := Lib.hid (And.intro hj (And.intro hjl (And.intro (show dn ≤ ys.length by have : ¬ ((ys.length : Int) < (dn : Int)) := fun q => hh (.inl q); omega) (And.intro hyl ((tagB_ok HT.out).2.2 j hjl).1))))
    obtain ⟨bo, hbo⟩ : ∃ b, b = decide ((apT zss ys).length ≤ 1000) := ⟨_, rfl⟩
    have HBO := Lib.hid hbo
    clear hh hyl hdg hmh hj hjl hbo
    go_wp2_with fail
    refine (specHaltsT gx (dn : Int) _ _ _ hs ys _ (HH.out.below HB.out (Nat.le_refl _)) HO.out.rd (HC.out.below HB.out HC.out.lt) HD.out false ⟨fun h => (by cases h), fun h => absurd h HNH.out⟩).mono ?_
    rintro e w2 ⟨rfl, hb2⟩
    have HB2 := Lib.hid (HB.out.trans (hb2.mono HB.out.size))
    have HO2 := Lib.hid ((HO.out.below hb2 (Nat.le_refl _)).mono (Nat.le_refl _) hb2.size (Nat.le_refl _))
    clear hb2
    go_wp2_with fail
    refine (specStepT gx dn _ _ _ zss ys j _ (HZ.out.below HB2.out (Nat.le_refl _)) HO2.out.rd (HC.out.below HB2.out HC.out.lt) HF.out.1 HF.out.2.1 HP0.out HF.out.2.2.1 HF.out.2.2.2.1 HF.out.2.2.2.2).mono ?_
    rintro e3 w3 ⟨r3, rfl, o3, hb3⟩
    rw [← HBO.out]
    have HO3 := Lib.hid (o3.mono (B' := w.heap.size) HB2.out.size (Nat.le_refl _) (Nat.le_refl _))
    have HB3 := Lib.hid (HB2.out.trans (hb3.mono HB2.out.size))
    clear o3 hb3
    rcases eqOr bo with hb | hb
    · subst hb
      have HV : Hid (¬ (apT zss ys).length ≤ 1000) := Lib.hid (by have := HBO.out; intro h; rw [decide_eq_true h] at this; cases this)
      have HRE : Hid (R = ⟨5, [], 0, false⟩) := Lib.hid (by have := HRr.out; rw [HBK.out, rtF_full _ _ HNH.out HV.out] at this; exact this.symm)
      go_wp2
      (try simp only [Exit.inBlock, Exit.then]); refine bodyPost_ret (results_tmp4 rfl _ _ _) rfl ?_
      exact ⟨_, by rw [HRE.out] <;> rfl, by rw [HRE.out]; exact Ow.emptyUp HB3.out.size, HB3.out⟩
    subst hb
    have HV : Hid ((apT zss ys).length ≤ 1000) := Lib.hid (of_decide_eq_true HBO.out.symm)
    have HRN : Hid (rtF (dn : Int) zss hs (B - (m + 1)) (nxT (dn : Int) zss ys) (((m + 1 : Nat)) : Int) = R) := Lib.hid (by
      have := HRr.out
      rw [HBK.out, rtF_next _ _ HNH.out HV.out] at this
      rw [← this]; rfl)
    have HON := Lib.hid (nx_ok HT.out HOY.out HP0.out HV.out)
    go_wp2
    go_roundw
    case rel => exact ⟨m + 1, _, by go_num, by have := HLT.out; omega, HON.out, HRN.out, HO3.out, HB3.out⟩
    case measure => have := HLT.out; simp [intOf]; omega
end Go.Proofs.YtgbhbbapkpgmiaaDoor.Ints
