/-   FnWordPieces: for all bytes, the program replaces the first occurrence first, the least period and the greatest border of a word are its length together, and a word is a power of its root. No condition. -/
import Derived.Test.YtgfidlppocheoaaRows
import Derived.WalkKit
import Derived.ProofKit
import Derived.OpenShut
import Derived.ShutString
import Derived.ChangeOld
import Derived.Below
import Derived.Lib.SmallJoins
import Derived.Deep.Strs
import Derived.OpenVars
import Derived.ChangeMaps5
import Derived.Handy
import Derived.Lib.Hide
import Derived.Test.YtgfidlppocheoaaWpc
namespace Go.Proofs.Ytgfidlppocheoaa.fnWordPieces
open Go.ChangeShapes Go.WideShapes Go.ChangeAt Go.RowKit
set_option linter.unusedVariables false
set_option linter.unusedSimpArgs false

theorem own : ownKnob Try.prog.godebug = none := by kernel_rfl
theorem laidOut : laidOutB Try.prog = true := by kernel_rfl
open Ints

set_option maxRecDepth 100000 in
set_option maxHeartbeats 16000000 in
theorem walk (a0_0 : Option Addr) (len0_0 cap0_0 : Nat) (z0_0 : List Int) (a1_0 : Option Addr) (len1_0 cap1_0 : Nat) (z1_0 : List Int) (w : World) (w0_0 : IsBts w a0_0 len0_0 cap0_0 z0_0) (w1_0 : IsBts w a1_0 len1_0 cap1_0 z1_0) :
    Calls Try.prog 3 #[.slice a0_0 len0_0 cap0_0, .slice a1_0 len1_0 cap1_0] w fun e w' => e = .returned (.bool true) ∧ Below w.heap.size w w' := by
  have hz0 := w0_0.le
  have hz1 := w1_0.le
  by_cases hb : 1048576 < len0_0 ∨ 1048576 < len1_0
  · go_enter Try.func3, Try.ntmps3
    go_wp2_with fail
    refine (r8LongV _ _ _ _ _ _ _ true (by simp [hb]) hz0 hz1).mono ?_
    rintro e w' ⟨rfl, rfl⟩
    go_wp2
    go_ret
    exact ⟨rfl, Below.refl _ _⟩
  have R0 := Lib.hid (rdb_of_row w0_0 (by omega))
  have R1 := Lib.hid (rdb_of_row w1_0 (by omega))
  clear w0_0 w1_0
  go_enter Try.func3, Try.ntmps3
  go_wp2_with fail
  refine (r8LongV _ _ _ _ _ _ _ false (by simp [hb]) hz0 hz1).mono ?_
  rintro e w' ⟨rfl, rfl⟩
  clear hb hz0 hz1
  go_wp2_with fail
  refine (r8Word _ len0_0 _ R0.out).mono ?_
  rintro e v1 ⟨u1, xs, L, rfl, hL, hlx, hix, o1, b1⟩
  obtain ⟨ga, gc, hu⟩ := o1.shape
  subst hu
  have HL := Lib.hid hL
  have HLX := Lib.hid hlx
  have HIX := Lib.hid hix
  have HX := Lib.hid o1.rd
  have HB := Lib.hid b1
  clear hL hix o1 b1
  go_wp2_with fail
  refine (r8Word _ len1_0 _ (R1.out.below HB.out (Nat.le_refl _)).up).mono ?_
  rintro e v2 ⟨u2, ys, M, rfl, hM, hly, hiy, o2, b2⟩
  obtain ⟨gb, gd, hu⟩ := o2.shape
  subst hu
  have HM := Lib.hid hM
  have HLY := Lib.hid hly
  have HIY := Lib.hid hiy
  have HY := Lib.hid o2.rd
  replace HX := Lib.hid (HX.out.below b2 (Nat.le_refl _))
  replace HB := Lib.hid (HB.out.trans (b2.mono HB.out.size))
  clear hM hiy o2 b2
  have HWX := Lib.hid (HIX.out.word HL.out.2 hlx)
  by_cases hc : 2 < ys.length
  · have hc2 : (2 : Int) < (ys.length : Int) := by omega
    have hgd : 2 ≤ gd := by
      obtain ⟨_, _, _, cd, hed, hcapd, _⟩ := HY.out
      simp only [Value.slice.injEq] at hed
      omega
    have hgd2 : (2 : Int) ≤ (gd : Int) := by omega
    have hgd3 : ¬ gd = 0 := by omega
    have HP := Lib.hid (HY.out.front 2 (by omega))
    obtain ⟨ps, hps⟩ : ∃ x, x = ys.take 2 := ⟨_, rfl⟩
    rw [← hps] at HP
    have hpl : ps.length = 2 := by rw [hps, List.length_take]; omega
    have HWP : Hid (wordB ps = true) := Lib.hid (InL.word (L := M) (fun x hx => HIY.out x (by rw [hps] at hx; exact List.mem_of_mem_take hx)) HM.out.2 (by omega))
    clear hps
    have HPLEN := Lib.hid hpl
    rcases find_spec xs ps with hf | ⟨k, hf, hk, hoc⟩
    · have Q := Lib.hid (pc_none HWX.out HWP.out hf)
      clear hf
      have HCO := Lib.hid (implOccurrencesOf _ xs _ ps _ HX.out HP.out)
      rw [Q.out.1, Q.out.2.1] at HCO
      go_wp2_with fail
      refine HCO.out.mono ?_
      rintro e v3 ⟨u3, rfl, o3, b3⟩
      clear HCO
      replace HX := Lib.hid (HX.out.below b3 (Nat.le_refl _))
      replace HP := Lib.hid (HP.out.below b3 (Nat.le_refl _))
      replace HB := Lib.hid (HB.out.trans (b3.mono HB.out.size))
      clear b3
      obtain ⟨ge, gf, hu3⟩ := o3.shape
      rw [List.length_nil] at hu3
      subst hu3
      clear o3
      have HCF := Lib.hid (implReplaceFirst _ xs _ ps _ xs _ HX.out HP.out HX.out)
      rw [Q.out.2.2] at HCF
      try dsimp only at HCF
      go_wp2_with fail
      refine HCF.out.mono ?_
      rintro e v4 ⟨u4, rfl, o4, b4⟩
      clear HCF
      replace HX := Lib.hid (HX.out.below b4 (Nat.le_refl _))
      replace HP := Lib.hid (HP.out.below b4 (Nat.le_refl _))
      replace HB := Lib.hid (HB.out.trans (b4.mono HB.out.size))
      clear b4
      obtain ⟨gg, gh, hu4⟩ := o4.shape
      rw [List.length_nil] at hu4
      subst hu4
      clear o4
      by_cases h0 : xs.length = 0
      · have wz : IntKind.i64.wrap 0 = 0 := by decide
        obtain rfl := List.eq_nil_of_length_eq_zero h0
        go_wp2
        go_ret
        exact ⟨rfl, HB.out⟩
      have hne : ¬ xs = [] := fun h => h0 (by rw [h]; rfl)
      have hxe : ((xs.length : Int) == 0) = false := by simp only [beq_eq_false_iff_ne]; omega
      have HPP := Lib.hid (pp_good HWX.out (by omega))
      obtain ⟨us, hb1, hb2⟩ := pc_bord HWX.out (by omega)
      have hpr := perV_range (zs := xs) (by omega)
      have HRT := Lib.hid (pc_root HWX.out (by omega))
      obtain ⟨PV, hPV⟩ : ∃ x, x = perV xs := ⟨_, rfl⟩
      rw [← hPV] at HPP hb1 hpr
      clear hPV
      obtain ⟨BL, hBL⟩ : ∃ x, x = boL xs := ⟨_, rfl⟩
      obtain ⟨BV, hBV⟩ : ∃ x : Int, x = (xs.length : Int) - PV := ⟨_, rfl⟩
      obtain ⟨n1, hn1⟩ : ∃ n, n = us.length := ⟨_, rfl⟩
      have HBL := Lib.hid hBL
      have HB2 := Lib.hid hb2
      have HBLL : Hid (BL.length = n1 + 1) := Lib.hid (by rw [hBL, hb1, hn1]; simp)
      have HBLV : Hid (BL.getD n1 0 = BV) := Lib.hid (by rw [hBL, hb1, hBV, hn1, List.getD_eq_getElem?_getD, List.getElem?_append_right (Nat.le_refl _)]; simp)
      have wb : IntKind.i64.wrap (BV + PV) = (xs.length : Int) := by rw [IntKind.wrap_i64]; omega
      obtain ⟨RL, hRL⟩ : ∃ x, x = rtL xs := ⟨_, rfl⟩
      obtain ⟨RI, hRI⟩ : ∃ x, x = rtI xs := ⟨_, rfl⟩
      have HRL := Lib.hid hRL
      have HRI := Lib.hid hRI
      rw [← hRL, ← hRI] at HRT
      clear hRL hRI hb1 hb2 hBL hBV hn1 hpr
      have HCP := Lib.hid (implPeriodOf _ xs _ HX.out)
      rw [HPP.out.1, HPP.out.2] at HCP
      go_wp2_with fail
      refine HCP.out.mono ?_
      rintro e w1 ⟨rfl, b1⟩
      clear HCP
      replace HX := Lib.hid (HX.out.below b1 (Nat.le_refl _))
      replace HB := Lib.hid (HB.out.trans (b1.mono HB.out.size))
      clear b1
      have HCB := Lib.hid (implBordersOf _ xs _ HX.out)
      rw [HB2.out, ← HBL.out] at HCB
      go_wp2_with fail
      refine HCB.out.mono ?_
      rintro e w2 ⟨ub, rfl, ob, b2⟩
      clear HCB
      replace HX := Lib.hid (HX.out.below b2 (Nat.le_refl _))
      replace HB := Lib.hid (HB.out.trans (b2.mono HB.out.size))
      clear b2
      have HBR := Lib.hid ob.rd
      obtain ⟨gx, gy, hub⟩ := ob.shape
      subst hub
      clear ob
      have HCR := Lib.hid (implRootOf _ xs _ HX.out)
      rw [HRT.out.2, ← HRL.out, ← HRI.out] at HCR
      go_wp2_with fail
      refine HCR.out.mono ?_
      rintro e w3 ⟨ur, rfl, orr, b3⟩
      clear HCR
      replace HX := Lib.hid (HX.out.below b3 (Nat.le_refl _))
      replace HBR := Lib.hid (HBR.out.below b3 (Nat.le_refl _))
      replace HB := Lib.hid (HB.out.trans (b3.mono HB.out.size))
      clear b3
      have HRR := Lib.hid orr.rd
      obtain ⟨gr, gs, hur⟩ := orr.shape
      subst hur
      clear orr
      obtain ⟨_, _, ab, cb, he, _, hrb⟩ := HBR.out
      obtain ⟨bb, ob2, hab, hbb, hcb⟩ := hrb (by intro h; have := HBLL.out; rw [h] at this; simp at this)
      simp only [Value.slice.injEq] at he
      obtain ⟨he1, _, he2⟩ := he
      rw [hab] at he1
      subst he1
      have cB := hcb n1 (by have := HBLL.out; omega)
      rw [HBLV.out] at cB
      have j0 : (0 : Int) ≤ (n1 : Int) := by omega
      have j1 : (n1 : Int) < (BL.length : Int) := by have := HBLL.out; omega
      have j5 : ¬ BL = [] := fun h => by have := HBLL.out; rw [h] at this; simp at this
      have j2 : ((BL.length : Int) == 0) = false := by simp only [beq_eq_false_iff_ne]; have := HBLL.out; omega
      have j3 : IntKind.i64.wrap (n1 : Int) = (n1 : Int) := by rw [IntKind.wrap_i64]; have := HBR.out.len; have := HBLL.out; omega
      have j4 : IntKind.i64.wrap ((BL.length : Int) - 1) = (n1 : Int) := by rw [IntKind.wrap_i64]; have := HBR.out.len; have := HBLL.out; omega
      clear hcb hrb hab he2
      have HCW := Lib.hid (implPowerWord _ RL RI _ HRR.out)
      rw [HRT.out.1] at HCW
      try dsimp only at HCW
      go_wp2_with fail
      refine HCW.out.mono ?_
      rintro e w4 ⟨uw, rfl, ow, b4⟩
      clear HCW
      replace HX := Lib.hid (HX.out.below b4 (Nat.le_refl _))
      replace HB := Lib.hid (HB.out.trans (b4.mono HB.out.size))
      clear b4
      have HWW := Lib.hid ow.rd
      obtain ⟨gt, gu, huw⟩ := ow.shape
      subst huw
      clear ow
      go_wp2_with fail
      refine (r8Same _ _ xs _ HWW.out HX.out).mono ?_
      rintro e w5 ⟨rfl, b5⟩
      replace HB := Lib.hid (HB.out.trans (b5.mono HB.out.size))
      clear b5
      go_wp2
      go_ret
      exact ⟨rfl, HB.out⟩
    · obtain ⟨⟨rr, q1⟩, q2, q3, q4, q5⟩ := pc_some HWX.out HWP.out hf hk hoc hlx
      obtain ⟨PC, hPC⟩ : ∃ x, x = occL xs ps := ⟨_, rfl⟩
      obtain ⟨PL, hPL⟩ : ∃ x, x = putL xs k ps.length xs := ⟨_, rfl⟩
      rw [← hPL] at q3 q4 q5
      have Q2 := Lib.hid q2
      have Q3 := Lib.hid q3
      have Q4 := Lib.hid q4
      have HPC := Lib.hid hPC
      have HPV : Hid (PC.getD 0 0 = (k : Int)) := Lib.hid (by rw [hPC, q1]; rfl)
      have hp0 : 0 < PC.length := by rw [hPC, q1]; simp
      have HP0 := Lib.hid hp0
      have hp1 : ((PC.length : Int) == 0) = false := by simp only [beq_eq_false_iff_ne]; omega
      have hp2 : (0 : Int) < (PC.length : Int) := by omega
      have hp3 : ¬ PC = [] := fun h => by rw [h] at hp0; simp at hp0
      have hq : (PL.length : Int) = 2 * (xs.length : Int) - 2 := by rw [q5]; omega
      have w2 : IntKind.i64.wrap (2 * (xs.length : Int)) = 2 * (xs.length : Int) := by rw [IntKind.wrap_i64]; omega
      have w3 : IntKind.i64.wrap (2 * (xs.length : Int) - 2) = (PL.length : Int) := by rw [IntKind.wrap_i64]; omega
      have HQL := Lib.hid (And.intro q5 hk)
      clear q1 q2 q3 q4 q5 hPC hPL hf hoc hq hp0
      have HCO := Lib.hid (implOccurrencesOf _ xs _ ps _ HX.out HP.out)
      rw [Q2.out, ← HPC.out] at HCO
      go_wp2_with fail
      refine HCO.out.mono ?_
      rintro e v3 ⟨u3, rfl, o3, b3⟩
      clear HCO
      replace HX := Lib.hid (HX.out.below b3 (Nat.le_refl _))
      replace HP := Lib.hid (HP.out.below b3 (Nat.le_refl _))
      replace HB := Lib.hid (HB.out.trans (b3.mono HB.out.size))
      clear b3
      have HPR := Lib.hid o3.rd
      obtain ⟨ge, gf, hu3⟩ := o3.shape
      subst hu3
      clear o3
      have HCF := Lib.hid (implReplaceFirst _ xs _ ps _ xs _ HX.out HP.out HX.out)
      rw [Q3.out] at HCF
      try dsimp only at HCF
      go_wp2_with fail
      refine HCF.out.mono ?_
      rintro e v4 ⟨u4, rfl, o4, b4⟩
      clear HCF
      replace HX := Lib.hid (HX.out.below b4 (Nat.le_refl _))
      replace HP := Lib.hid (HP.out.below b4 (Nat.le_refl _))
      replace HPR := Lib.hid (HPR.out.below b4 (Nat.le_refl _))
      replace HB := Lib.hid (HB.out.trans (b4.mono HB.out.size))
      clear b4
      have HFR := Lib.hid o4.rd
      obtain ⟨gg, gh, hu4⟩ := o4.shape
      subst hu4
      clear o4
      obtain ⟨_, _, ab, cb, he, _, hrb⟩ := HPR.out
      obtain ⟨bb, ob2, hab, hbb, hcb⟩ := hrb (by intro h; exact hp3 h)
      simp only [Value.slice.injEq] at he
      obtain ⟨he1, _, he2⟩ := he
      rw [hab] at he1
      subst he1
      have cP := hcb 0 HP0.out
      rw [HPV.out, Nat.add_zero] at cP
      clear hcb hrb hab he2
      have HCA := Lib.hid (implReplaceAt _ xs (k : Int) _ ps _ xs _ HX.out HP.out HX.out)
      rw [Q4.out] at HCA
      try dsimp only at HCA
      go_wp2_with fail
      refine HCA.out.mono ?_
      rintro e v5 ⟨u5, rfl, o5, b5⟩
      clear HCA
      replace HX := Lib.hid (HX.out.below b5 (Nat.le_refl _))
      replace HFR := Lib.hid (HFR.out.below b5 (Nat.le_refl _))
      replace HB := Lib.hid (HB.out.trans (b5.mono HB.out.size))
      clear b5
      have HSR := Lib.hid o5.rd
      obtain ⟨gi, gj, hu5⟩ := o5.shape
      subst hu5
      clear o5 cP
      go_wp2_with fail
      refine (r8Same _ _ PL _ HFR.out HSR.out).mono ?_
      rintro e v6 ⟨rfl, b6⟩
      replace HX := Lib.hid (HX.out.below b6 (Nat.le_refl _))
      replace HB := Lib.hid (HB.out.trans (b6.mono HB.out.size))
      clear b6
      by_cases h0 : xs.length = 0
      · have wz : IntKind.i64.wrap 0 = 0 := by decide
        exact absurd HQL.out.2 (by have := HPLEN.out; omega)
      have hne : ¬ xs = [] := fun h => h0 (by rw [h]; rfl)
      have hxe : ((xs.length : Int) == 0) = false := by simp only [beq_eq_false_iff_ne]; omega
      have HPP := Lib.hid (pp_good HWX.out (by omega))
      obtain ⟨us, hb1, hb2⟩ := pc_bord HWX.out (by omega)
      have hpr := perV_range (zs := xs) (by omega)
      have HRT := Lib.hid (pc_root HWX.out (by omega))
      obtain ⟨PV, hPV⟩ : ∃ x, x = perV xs := ⟨_, rfl⟩
      rw [← hPV] at HPP hb1 hpr
      clear hPV
      obtain ⟨BL, hBL⟩ : ∃ x, x = boL xs := ⟨_, rfl⟩
      obtain ⟨BV, hBV⟩ : ∃ x : Int, x = (xs.length : Int) - PV := ⟨_, rfl⟩
      obtain ⟨n1, hn1⟩ : ∃ n, n = us.length := ⟨_, rfl⟩
      have HBL := Lib.hid hBL
      have HB2 := Lib.hid hb2
      have HBLL : Hid (BL.length = n1 + 1) := Lib.hid (by rw [hBL, hb1, hn1]; simp)
      have HBLV : Hid (BL.getD n1 0 = BV) := Lib.hid (by rw [hBL, hb1, hBV, hn1, List.getD_eq_getElem?_getD, List.getElem?_append_right (Nat.le_refl _)]; simp)
      have wb : IntKind.i64.wrap (BV + PV) = (xs.length : Int) := by rw [IntKind.wrap_i64]; omega
      obtain ⟨RL, hRL⟩ : ∃ x, x = rtL xs := ⟨_, rfl⟩
      obtain ⟨RI, hRI⟩ : ∃ x, x = rtI xs := ⟨_, rfl⟩
      have HRL := Lib.hid hRL
      have HRI := Lib.hid hRI
      rw [← hRL, ← hRI] at HRT
      clear hRL hRI hb1 hb2 hBL hBV hn1 hpr
      have HCP := Lib.hid (implPeriodOf _ xs _ HX.out)
      rw [HPP.out.1, HPP.out.2] at HCP
      go_wp2_with fail
      refine HCP.out.mono ?_
      rintro e w1 ⟨rfl, b1⟩
      clear HCP
      replace HX := Lib.hid (HX.out.below b1 (Nat.le_refl _))
      replace HB := Lib.hid (HB.out.trans (b1.mono HB.out.size))
      clear b1
      have HCB := Lib.hid (implBordersOf _ xs _ HX.out)
      rw [HB2.out, ← HBL.out] at HCB
      go_wp2_with fail
      refine HCB.out.mono ?_
      rintro e w2 ⟨ub, rfl, ob, b2⟩
      clear HCB
      replace HX := Lib.hid (HX.out.below b2 (Nat.le_refl _))
      replace HB := Lib.hid (HB.out.trans (b2.mono HB.out.size))
      clear b2
      have HBR := Lib.hid ob.rd
      obtain ⟨gx, gy, hub⟩ := ob.shape
      subst hub
      clear ob
      have HCR := Lib.hid (implRootOf _ xs _ HX.out)
      rw [HRT.out.2, ← HRL.out, ← HRI.out] at HCR
      go_wp2_with fail
      refine HCR.out.mono ?_
      rintro e w3 ⟨ur, rfl, orr, b3⟩
      clear HCR
      replace HX := Lib.hid (HX.out.below b3 (Nat.le_refl _))
      replace HBR := Lib.hid (HBR.out.below b3 (Nat.le_refl _))
      replace HB := Lib.hid (HB.out.trans (b3.mono HB.out.size))
      clear b3
      have HRR := Lib.hid orr.rd
      obtain ⟨gr, gs, hur⟩ := orr.shape
      subst hur
      clear orr
      obtain ⟨_, _, ab, cb, he, _, hrb⟩ := HBR.out
      obtain ⟨bb, ob2, hab, hbb, hcb⟩ := hrb (by intro h; have := HBLL.out; rw [h] at this; simp at this)
      simp only [Value.slice.injEq] at he
      obtain ⟨he1, _, he2⟩ := he
      rw [hab] at he1
      subst he1
      have cB := hcb n1 (by have := HBLL.out; omega)
      rw [HBLV.out] at cB
      have j0 : (0 : Int) ≤ (n1 : Int) := by omega
      have j1 : (n1 : Int) < (BL.length : Int) := by have := HBLL.out; omega
      have j5 : ¬ BL = [] := fun h => by have := HBLL.out; rw [h] at this; simp at this
      have j2 : ((BL.length : Int) == 0) = false := by simp only [beq_eq_false_iff_ne]; have := HBLL.out; omega
      have j3 : IntKind.i64.wrap (n1 : Int) = (n1 : Int) := by rw [IntKind.wrap_i64]; have := HBR.out.len; have := HBLL.out; omega
      have j4 : IntKind.i64.wrap ((BL.length : Int) - 1) = (n1 : Int) := by rw [IntKind.wrap_i64]; have := HBR.out.len; have := HBLL.out; omega
      clear hcb hrb hab he2
      have HCW := Lib.hid (implPowerWord _ RL RI _ HRR.out)
      rw [HRT.out.1] at HCW
      try dsimp only at HCW
      go_wp2_with fail
      refine HCW.out.mono ?_
      rintro e w4 ⟨uw, rfl, ow, b4⟩
      clear HCW
      replace HX := Lib.hid (HX.out.below b4 (Nat.le_refl _))
      replace HB := Lib.hid (HB.out.trans (b4.mono HB.out.size))
      clear b4
      have HWW := Lib.hid ow.rd
      obtain ⟨gt, gu, huw⟩ := ow.shape
      subst huw
      clear ow
      go_wp2_with fail
      refine (r8Same _ _ xs _ HWW.out HX.out).mono ?_
      rintro e w5 ⟨rfl, b5⟩
      replace HB := Lib.hid (HB.out.trans (b5.mono HB.out.size))
      clear b5
      go_wp2
      go_ret
      exact ⟨rfl, HB.out⟩
  · have hc2 : ¬ (2 : Int) < (ys.length : Int) := by omega
    have HP := HY
    obtain ⟨ps, hps⟩ : ∃ x, x = ys := ⟨_, rfl⟩
    subst hps
    have HWP : Hid (wordB ps = true) := Lib.hid (HIY.out.word HM.out.2 hly)
    rcases find_spec xs ps with hf | ⟨k, hf, hk, hoc⟩
    · have Q := Lib.hid (pc_none HWX.out HWP.out hf)
      clear hf
      have HCO := Lib.hid (implOccurrencesOf _ xs _ ps _ HX.out HP.out)
      rw [Q.out.1, Q.out.2.1] at HCO
      go_wp2_with fail
      refine HCO.out.mono ?_
      rintro e v3 ⟨u3, rfl, o3, b3⟩
      clear HCO
      replace HX := Lib.hid (HX.out.below b3 (Nat.le_refl _))
      replace HP := Lib.hid (HP.out.below b3 (Nat.le_refl _))
      replace HB := Lib.hid (HB.out.trans (b3.mono HB.out.size))
      clear b3
      obtain ⟨ge, gf, hu3⟩ := o3.shape
      rw [List.length_nil] at hu3
      subst hu3
      clear o3
      have HCF := Lib.hid (implReplaceFirst _ xs _ ps _ xs _ HX.out HP.out HX.out)
      rw [Q.out.2.2] at HCF
      try dsimp only at HCF
      go_wp2_with fail
      refine HCF.out.mono ?_
      rintro e v4 ⟨u4, rfl, o4, b4⟩
      clear HCF
      replace HX := Lib.hid (HX.out.below b4 (Nat.le_refl _))
      replace HP := Lib.hid (HP.out.below b4 (Nat.le_refl _))
      replace HB := Lib.hid (HB.out.trans (b4.mono HB.out.size))
      clear b4
      obtain ⟨gg, gh, hu4⟩ := o4.shape
      rw [List.length_nil] at hu4
      subst hu4
      clear o4
      by_cases h0 : xs.length = 0
      · have wz : IntKind.i64.wrap 0 = 0 := by decide
        obtain rfl := List.eq_nil_of_length_eq_zero h0
        go_wp2
        go_ret
        exact ⟨rfl, HB.out⟩
      have hne : ¬ xs = [] := fun h => h0 (by rw [h]; rfl)
      have hxe : ((xs.length : Int) == 0) = false := by simp only [beq_eq_false_iff_ne]; omega
      have HPP := Lib.hid (pp_good HWX.out (by omega))
      obtain ⟨us, hb1, hb2⟩ := pc_bord HWX.out (by omega)
      have hpr := perV_range (zs := xs) (by omega)
      have HRT := Lib.hid (pc_root HWX.out (by omega))
      obtain ⟨PV, hPV⟩ : ∃ x, x = perV xs := ⟨_, rfl⟩
      rw [← hPV] at HPP hb1 hpr
      clear hPV
      obtain ⟨BL, hBL⟩ : ∃ x, x = boL xs := ⟨_, rfl⟩
      obtain ⟨BV, hBV⟩ : ∃ x : Int, x = (xs.length : Int) - PV := ⟨_, rfl⟩
      obtain ⟨n1, hn1⟩ : ∃ n, n = us.length := ⟨_, rfl⟩
      have HBL := Lib.hid hBL
      have HB2 := Lib.hid hb2
      have HBLL : Hid (BL.length = n1 + 1) := Lib.hid (by rw [hBL, hb1, hn1]; simp)
      have HBLV : Hid (BL.getD n1 0 = BV) := Lib.hid (by rw [hBL, hb1, hBV, hn1, List.getD_eq_getElem?_getD, List.getElem?_append_right (Nat.le_refl _)]; simp)
      have wb : IntKind.i64.wrap (BV + PV) = (xs.length : Int) := by rw [IntKind.wrap_i64]; omega
      obtain ⟨RL, hRL⟩ : ∃ x, x = rtL xs := ⟨_, rfl⟩
      obtain ⟨RI, hRI⟩ : ∃ x, x = rtI xs := ⟨_, rfl⟩
      have HRL := Lib.hid hRL
      have HRI := Lib.hid hRI
      rw [← hRL, ← hRI] at HRT
      clear hRL hRI hb1 hb2 hBL hBV hn1 hpr
      have HCP := Lib.hid (implPeriodOf _ xs _ HX.out)
      rw [HPP.out.1, HPP.out.2] at HCP
      go_wp2_with fail
      refine HCP.out.mono ?_
      rintro e w1 ⟨rfl, b1⟩
      clear HCP
      replace HX := Lib.hid (HX.out.below b1 (Nat.le_refl _))
      replace HB := Lib.hid (HB.out.trans (b1.mono HB.out.size))
      clear b1
      have HCB := Lib.hid (implBordersOf _ xs _ HX.out)
      rw [HB2.out, ← HBL.out] at HCB
      go_wp2_with fail
      refine HCB.out.mono ?_
      rintro e w2 ⟨ub, rfl, ob, b2⟩
      clear HCB
      replace HX := Lib.hid (HX.out.below b2 (Nat.le_refl _))
      replace HB := Lib.hid (HB.out.trans (b2.mono HB.out.size))
      clear b2
      have HBR := Lib.hid ob.rd
      obtain ⟨gx, gy, hub⟩ := ob.shape
      subst hub
      clear ob
      have HCR := Lib.hid (implRootOf _ xs _ HX.out)
      rw [HRT.out.2, ← HRL.out, ← HRI.out] at HCR
      go_wp2_with fail
      refine HCR.out.mono ?_
      rintro e w3 ⟨ur, rfl, orr, b3⟩
      clear HCR
      replace HX := Lib.hid (HX.out.below b3 (Nat.le_refl _))
      replace HBR := Lib.hid (HBR.out.below b3 (Nat.le_refl _))
      replace HB := Lib.hid (HB.out.trans (b3.mono HB.out.size))
      clear b3
      have HRR := Lib.hid orr.rd
      obtain ⟨gr, gs, hur⟩ := orr.shape
      subst hur
      clear orr
      obtain ⟨_, _, ab, cb, he, _, hrb⟩ := HBR.out
      obtain ⟨bb, ob2, hab, hbb, hcb⟩ := hrb (by intro h; have := HBLL.out; rw [h] at this; simp at this)
      simp only [Value.slice.injEq] at he
      obtain ⟨he1, _, he2⟩ := he
      rw [hab] at he1
      subst he1
      have cB := hcb n1 (by have := HBLL.out; omega)
      rw [HBLV.out] at cB
      have j0 : (0 : Int) ≤ (n1 : Int) := by omega
      have j1 : (n1 : Int) < (BL.length : Int) := by have := HBLL.out; omega
      have j5 : ¬ BL = [] := fun h => by have := HBLL.out; rw [h] at this; simp at this
      have j2 : ((BL.length : Int) == 0) = false := by simp only [beq_eq_false_iff_ne]; have := HBLL.out; omega
      have j3 : IntKind.i64.wrap (n1 : Int) = (n1 : Int) := by rw [IntKind.wrap_i64]; have := HBR.out.len; have := HBLL.out; omega
      have j4 : IntKind.i64.wrap ((BL.length : Int) - 1) = (n1 : Int) := by rw [IntKind.wrap_i64]; have := HBR.out.len; have := HBLL.out; omega
      clear hcb hrb hab he2
      have HCW := Lib.hid (implPowerWord _ RL RI _ HRR.out)
      rw [HRT.out.1] at HCW
      try dsimp only at HCW
      go_wp2_with fail
      refine HCW.out.mono ?_
      rintro e w4 ⟨uw, rfl, ow, b4⟩
      clear HCW
      replace HX := Lib.hid (HX.out.below b4 (Nat.le_refl _))
      replace HB := Lib.hid (HB.out.trans (b4.mono HB.out.size))
      clear b4
      have HWW := Lib.hid ow.rd
      obtain ⟨gt, gu, huw⟩ := ow.shape
      subst huw
      clear ow
      go_wp2_with fail
      refine (r8Same _ _ xs _ HWW.out HX.out).mono ?_
      rintro e w5 ⟨rfl, b5⟩
      replace HB := Lib.hid (HB.out.trans (b5.mono HB.out.size))
      clear b5
      go_wp2
      go_ret
      exact ⟨rfl, HB.out⟩
    · obtain ⟨⟨rr, q1⟩, q2, q3, q4, q5⟩ := pc_some HWX.out HWP.out hf hk hoc hlx
      obtain ⟨PC, hPC⟩ : ∃ x, x = occL xs ps := ⟨_, rfl⟩
      obtain ⟨PL, hPL⟩ : ∃ x, x = putL xs k ps.length xs := ⟨_, rfl⟩
      rw [← hPL] at q3 q4 q5
      have Q2 := Lib.hid q2
      have Q3 := Lib.hid q3
      have Q4 := Lib.hid q4
      have HPC := Lib.hid hPC
      have HPV : Hid (PC.getD 0 0 = (k : Int)) := Lib.hid (by rw [hPC, q1]; rfl)
      have hp0 : 0 < PC.length := by rw [hPC, q1]; simp
      have HP0 := Lib.hid hp0
      have hp1 : ((PC.length : Int) == 0) = false := by simp only [beq_eq_false_iff_ne]; omega
      have hp2 : (0 : Int) < (PC.length : Int) := by omega
      have hp3 : ¬ PC = [] := fun h => by rw [h] at hp0; simp at hp0
      have hq : (PL.length : Int) = 2 * (xs.length : Int) - (ps.length : Int) := by rw [q5]; omega
      have w2 : IntKind.i64.wrap (2 * (xs.length : Int)) = 2 * (xs.length : Int) := by rw [IntKind.wrap_i64]; omega
      have w3 : IntKind.i64.wrap (2 * (xs.length : Int) - (ps.length : Int)) = (PL.length : Int) := by rw [IntKind.wrap_i64]; omega
      have HQL := Lib.hid (And.intro q5 hk)
      clear q1 q2 q3 q4 q5 hPC hPL hf hoc hq hp0
      have HCO := Lib.hid (implOccurrencesOf _ xs _ ps _ HX.out HP.out)
      rw [Q2.out, ← HPC.out] at HCO
      go_wp2_with fail
      refine HCO.out.mono ?_
      rintro e v3 ⟨u3, rfl, o3, b3⟩
      clear HCO
      replace HX := Lib.hid (HX.out.below b3 (Nat.le_refl _))
      replace HP := Lib.hid (HP.out.below b3 (Nat.le_refl _))
      replace HB := Lib.hid (HB.out.trans (b3.mono HB.out.size))
      clear b3
      have HPR := Lib.hid o3.rd
      obtain ⟨ge, gf, hu3⟩ := o3.shape
      subst hu3
      clear o3
      have HCF := Lib.hid (implReplaceFirst _ xs _ ps _ xs _ HX.out HP.out HX.out)
      rw [Q3.out] at HCF
      try dsimp only at HCF
      go_wp2_with fail
      refine HCF.out.mono ?_
      rintro e v4 ⟨u4, rfl, o4, b4⟩
      clear HCF
      replace HX := Lib.hid (HX.out.below b4 (Nat.le_refl _))
      replace HP := Lib.hid (HP.out.below b4 (Nat.le_refl _))
      replace HPR := Lib.hid (HPR.out.below b4 (Nat.le_refl _))
      replace HB := Lib.hid (HB.out.trans (b4.mono HB.out.size))
      clear b4
      have HFR := Lib.hid o4.rd
      obtain ⟨gg, gh, hu4⟩ := o4.shape
      subst hu4
      clear o4
      obtain ⟨_, _, ab, cb, he, _, hrb⟩ := HPR.out
      obtain ⟨bb, ob2, hab, hbb, hcb⟩ := hrb (by intro h; exact hp3 h)
      simp only [Value.slice.injEq] at he
      obtain ⟨he1, _, he2⟩ := he
      rw [hab] at he1
      subst he1
      have cP := hcb 0 HP0.out
      rw [HPV.out, Nat.add_zero] at cP
      clear hcb hrb hab he2
      have HCA := Lib.hid (implReplaceAt _ xs (k : Int) _ ps _ xs _ HX.out HP.out HX.out)
      rw [Q4.out] at HCA
      try dsimp only at HCA
      go_wp2_with fail
      refine HCA.out.mono ?_
      rintro e v5 ⟨u5, rfl, o5, b5⟩
      clear HCA
      replace HX := Lib.hid (HX.out.below b5 (Nat.le_refl _))
      replace HFR := Lib.hid (HFR.out.below b5 (Nat.le_refl _))
      replace HB := Lib.hid (HB.out.trans (b5.mono HB.out.size))
      clear b5
      have HSR := Lib.hid o5.rd
      obtain ⟨gi, gj, hu5⟩ := o5.shape
      subst hu5
      clear o5 cP
      go_wp2_with fail
      refine (r8Same _ _ PL _ HFR.out HSR.out).mono ?_
      rintro e v6 ⟨rfl, b6⟩
      replace HX := Lib.hid (HX.out.below b6 (Nat.le_refl _))
      replace HB := Lib.hid (HB.out.trans (b6.mono HB.out.size))
      clear b6
      by_cases h0 : xs.length = 0
      · have wz : IntKind.i64.wrap 0 = 0 := by decide
        obtain rfl : ps = [] := List.eq_nil_of_length_eq_zero (by have := HQL.out.2; omega)
        obtain rfl : PL = [] := List.eq_nil_of_length_eq_zero (by have := HQL.out.1; simp only [List.length_nil] at this; omega)
        obtain rfl := List.eq_nil_of_length_eq_zero h0
        go_wp2
        go_ret
        exact ⟨rfl, HB.out⟩
      have hne : ¬ xs = [] := fun h => h0 (by rw [h]; rfl)
      have hxe : ((xs.length : Int) == 0) = false := by simp only [beq_eq_false_iff_ne]; omega
      have HPP := Lib.hid (pp_good HWX.out (by omega))
      obtain ⟨us, hb1, hb2⟩ := pc_bord HWX.out (by omega)
      have hpr := perV_range (zs := xs) (by omega)
      have HRT := Lib.hid (pc_root HWX.out (by omega))
      obtain ⟨PV, hPV⟩ : ∃ x, x = perV xs := ⟨_, rfl⟩
      rw [← hPV] at HPP hb1 hpr
      clear hPV
      obtain ⟨BL, hBL⟩ : ∃ x, x = boL xs := ⟨_, rfl⟩
      obtain ⟨BV, hBV⟩ : ∃ x : Int, x = (xs.length : Int) - PV := ⟨_, rfl⟩
      obtain ⟨n1, hn1⟩ : ∃ n, n = us.length := ⟨_, rfl⟩
      have HBL := Lib.hid hBL
      have HB2 := Lib.hid hb2
      have HBLL : Hid (BL.length = n1 + 1) := Lib.hid (by rw [hBL, hb1, hn1]; simp)
      have HBLV : Hid (BL.getD n1 0 = BV) := Lib.hid (by rw [hBL, hb1, hBV, hn1, List.getD_eq_getElem?_getD, List.getElem?_append_right (Nat.le_refl _)]; simp)
      have wb : IntKind.i64.wrap (BV + PV) = (xs.length : Int) := by rw [IntKind.wrap_i64]; omega
      obtain ⟨RL, hRL⟩ : ∃ x, x = rtL xs := ⟨_, rfl⟩
      obtain ⟨RI, hRI⟩ : ∃ x, x = rtI xs := ⟨_, rfl⟩
      have HRL := Lib.hid hRL
      have HRI := Lib.hid hRI
      rw [← hRL, ← hRI] at HRT
      clear hRL hRI hb1 hb2 hBL hBV hn1 hpr
      have HCP := Lib.hid (implPeriodOf _ xs _ HX.out)
      rw [HPP.out.1, HPP.out.2] at HCP
      go_wp2_with fail
      refine HCP.out.mono ?_
      rintro e w1 ⟨rfl, b1⟩
      clear HCP
      replace HX := Lib.hid (HX.out.below b1 (Nat.le_refl _))
      replace HB := Lib.hid (HB.out.trans (b1.mono HB.out.size))
      clear b1
      have HCB := Lib.hid (implBordersOf _ xs _ HX.out)
      rw [HB2.out, ← HBL.out] at HCB
      go_wp2_with fail
      refine HCB.out.mono ?_
      rintro e w2 ⟨ub, rfl, ob, b2⟩
      clear HCB
      replace HX := Lib.hid (HX.out.below b2 (Nat.le_refl _))
      replace HB := Lib.hid (HB.out.trans (b2.mono HB.out.size))
      clear b2
      have HBR := Lib.hid ob.rd
      obtain ⟨gx, gy, hub⟩ := ob.shape
      subst hub
      clear ob
      have HCR := Lib.hid (implRootOf _ xs _ HX.out)
      rw [HRT.out.2, ← HRL.out, ← HRI.out] at HCR
      go_wp2_with fail
      refine HCR.out.mono ?_
      rintro e w3 ⟨ur, rfl, orr, b3⟩
      clear HCR
      replace HX := Lib.hid (HX.out.below b3 (Nat.le_refl _))
      replace HBR := Lib.hid (HBR.out.below b3 (Nat.le_refl _))
      replace HB := Lib.hid (HB.out.trans (b3.mono HB.out.size))
      clear b3
      have HRR := Lib.hid orr.rd
      obtain ⟨gr, gs, hur⟩ := orr.shape
      subst hur
      clear orr
      obtain ⟨_, _, ab, cb, he, _, hrb⟩ := HBR.out
      obtain ⟨bb, ob2, hab, hbb, hcb⟩ := hrb (by intro h; have := HBLL.out; rw [h] at this; simp at this)
      simp only [Value.slice.injEq] at he
      obtain ⟨he1, _, he2⟩ := he
      rw [hab] at he1
      subst he1
      have cB := hcb n1 (by have := HBLL.out; omega)
      rw [HBLV.out] at cB
      have j0 : (0 : Int) ≤ (n1 : Int) := by omega
      have j1 : (n1 : Int) < (BL.length : Int) := by have := HBLL.out; omega
      have j5 : ¬ BL = [] := fun h => by have := HBLL.out; rw [h] at this; simp at this
      have j2 : ((BL.length : Int) == 0) = false := by simp only [beq_eq_false_iff_ne]; have := HBLL.out; omega
      have j3 : IntKind.i64.wrap (n1 : Int) = (n1 : Int) := by rw [IntKind.wrap_i64]; have := HBR.out.len; have := HBLL.out; omega
      have j4 : IntKind.i64.wrap ((BL.length : Int) - 1) = (n1 : Int) := by rw [IntKind.wrap_i64]; have := HBR.out.len; have := HBLL.out; omega
      clear hcb hrb hab he2
      have HCW := Lib.hid (implPowerWord _ RL RI _ HRR.out)
      rw [HRT.out.1] at HCW
      try dsimp only at HCW
      go_wp2_with fail
      refine HCW.out.mono ?_
      rintro e w4 ⟨uw, rfl, ow, b4⟩
      clear HCW
      replace HX := Lib.hid (HX.out.below b4 (Nat.le_refl _))
      replace HB := Lib.hid (HB.out.trans (b4.mono HB.out.size))
      clear b4
      have HWW := Lib.hid ow.rd
      obtain ⟨gt, gu, huw⟩ := ow.shape
      subst huw
      clear ow
      go_wp2_with fail
      refine (r8Same _ _ xs _ HWW.out HX.out).mono ?_
      rintro e w5 ⟨rfl, b5⟩
      replace HB := Lib.hid (HB.out.trans (b5.mono HB.out.size))
      clear b5
      go_wp2
      go_ret
      exact ⟨rfl, HB.out⟩

set_option maxRecDepth 100000 in
theorem lifted (os : Os) (started : os.Started) (H : Type) (enc : TypeId × Value → H) :
    ReturnsInHanded {} Try.checked os 3 .any (Rows.fnWordPiecesSpec.pre6 enc Try.prog Try.f3 Rows.fnWordPiecesRow.domain false) (Rows.fnWordPiecesSpec.post enc Try.prog Try.f3 false true false false) := by
  refine returnsInHanded_of_change (C := Try.checked) own started (by kernel_rfl) Try.func3
    (ChangeSpec.witness6 (enc := enc) (C := Try.checked) false ⟨#[], #[.slice none 0 0, .slice none 0 0], []⟩ 8 (by kernel_rfl) (by kernel_rfl) (by kernel_rfl) (by kernel_rfl)) ?_
  intro W base args ds gs before hval0 hW hcnd _
  have hval : ∀ (j : Nat) t v, Try.f3.params[j]? = some t → args[j]? = some v → Value.okWide Try.prog W .any base t v := hval0
  have hW' := hW
  obtain ⟨p, q, hA0, hV, rfl, hfz, hnd⟩ := hW
  have hA : DataW.TrodAll enc Try.prog W 0 (fun _ => true) true Try.f3.params.toList args.toList ds p := hA0
  rw [Try.params3] at hA hval
  obtain ⟨v0, vs0, d0, ds0, p0, q0, hargs, rfl, rfl, h0, r0⟩ := trodAll_cons hA
  obtain ⟨v1, vs1, d1, ds1, p1, q1, rfl, rfl, rfl, h1, r1⟩ := trodAll_cons r0
  obtain ⟨rfl, rfl, rfl⟩ := trodAll_nil r1
  obtain rfl : args = #[v0, v1] := by cases args; simp_all
  obtain ⟨rfl, rfl⟩ := trodVars_none hV
  have k0 := h0
  have lt0 : ∀ x ∈ p0, x.block < W.heap.size := by obtain ⟨m, hm⟩ := k0; exact DataW.trod_lt m _ _ _ hm
  obtain ⟨a0_0, len0_0, cap0_0, rfl⟩ := okWide_slice Try.underlying22 (hval 0 22 v0 rfl rfl)
  obtain ⟨z0_0, w0_0⟩ : ∃ zs, IsBts W a0_0 len0_0 cap0_0 zs := by
    obtain ⟨fuel, hf⟩ := h0
    obtain ⟨a', len', cap', z', e', w'⟩ := open_bts hf
    simp [Value.cells] at e'
    obtain ⟨rfl, rfl, rfl⟩ := e'
    exact ⟨z', w'⟩
  have k1 := h1
  have lt1 : ∀ x ∈ p1, x.block < W.heap.size := by obtain ⟨m, hm⟩ := k1; exact DataW.trod_lt m _ _ _ hm
  obtain ⟨a1_0, len1_0, cap1_0, rfl⟩ := okWide_slice Try.underlying22 (hval 1 22 v1 rfl rfl)
  obtain ⟨z1_0, w1_0⟩ : ∃ zs, IsBts W a1_0 len1_0 cap1_0 zs := by
    obtain ⟨fuel, hf⟩ := h1
    obtain ⟨a', len', cap', z', e', w'⟩ := open_bts hf
    simp [Value.cells] at e'
    obtain ⟨rfl, rfl, rfl⟩ := e'
    exact ⟨z', w'⟩
  clear hA0 hval0
  refine (walk a0_0 len0_0 cap0_0 z0_0 a1_0 len1_0 cap1_0 z1_0 W w0_0 w1_0).mono fun e W' ⟨he, bel⟩ => ?_
  subst he
  exact ⟨_, rfl, _, _, _, [], _, [], hW', trodAll_mk1 (shut_bool Try.underlying4 _), (trodAll_cons_mk (Below.trod laidOut (by kernel_rfl) (of_decide_eq_true (by kernel_rfl)) k0 bel lt0) (trodAll_cons_mk (Below.trod laidOut (by kernel_rfl) (of_decide_eq_true (by kernel_rfl)) k1 bel lt1) trodAll_mk0)), rfl, bel.frame _, fun h => by cases h⟩

theorem over : Rows.fnWordPiecesRow.holds Try.pinned (OpenSpec.ofChange Rows.fnWordPiecesSpec) :=
  OpenClaim.holds_of_wide 3 Try.f3 rfl rfl rfl rfl rfl rfl rfl ⟨rfl, rfl, rfl, rfl, rfl⟩ rfl rfl rfl rfl rfl (by kernel_rfl) Try.func3 (by kernel_rfl)
    (of_decide_eq_true (by kernel_rfl)) (by unfold Func.isWrapper; first | (rw [if_pos (by decide +kernel)]; kernel_rfl) | (rw [if_neg (by decide +kernel)]; exact ⟨rfl, rfl⟩))
    (fun os started H enc _ => lifted os started H enc)

/-- The statement. -/
theorem proved : Rows.FnWordPiecesSaid := over
#print axioms proved
end Go.Proofs.Ytgfidlppocheoaa.fnWordPieces
