/- ApplyRewrite, of the model and of the program. -/
import Derived.Test.YthombjcjhnekpaaRwV
import Derived.Test.YthombjcjhnekpaaRepN
import Derived.Test.YthombjcjhnekpaaIn
import Derived.Deep.RegionHeld3
namespace Go.Proofs.Ythombjcjhnekpaa.Ints
open Go.RowKit
set_option linter.unusedVariables false
set_option linter.unusedSimpArgs false
noncomputable def awR (ts : List Tp) (zs : List Int) (rule at0 : Int) : List Int × Int :=
  if rwsB ts = false then ([], 1) else if wordB zs = false then ([], 1) else if ¬ (0 ≤ rule ∧ rule < (ts.length : Int)) then ([], 2) else raR zs at0 (ts.getD rule.toNat tp0).l (ts.getD rule.toNat tp0).r
theorem rdl_one {w : World} {u : Value} {xs : List Int} (hu : Rd w u xs) :
    RdL (w.alloc (.cells #[u] 22)) (.slice (some ⟨w.heap.size, 0, none⟩) 1 1) [xs] := by
  have hb : Below w.heap.size w (w.alloc (.cells #[u] 22)) := (Below.refl _ _).alloc (Nat.le_refl _) _
  refine ⟨by simp, _, _, rfl, by simp, fun _ => ⟨w.heap.size, 0, rfl, by simp, fun i hi => ?_⟩⟩
  match i, hi with
  | 0, _ => exact ⟨u, by simp [World.cell?_alloc_at], hu.below hb (Nat.le_refl _)⟩
theorem raR_in {zs : List Int} {k : Nat} {ps bs : List Int} (hz : Word zs) (hp : Word ps) (hb : Word bs) (hk : k ≤ zs.length) :
    raR zs k ps bs = if occB zs k ps = false then ([], 3) else (rpL zs k ps.length bs, rpC zs k ps.length bs) := by
  rw [raR, if_neg (by simp [allB, wordB_true hz, wordB_true hp, wordB_true hb]), if_neg (by omega), Int.toNat_natCast]
theorem raR_out {zs : List Int} {a : Int} {ps bs : List Int} (hz : Word zs) (hp : Word ps) (hb : Word bs) (hk : ¬ (0 ≤ a ∧ a ≤ (zs.length : Int))) : raR zs a ps bs = ([], 2) := by
  rw [raR, if_neg (by simp [allB, wordB_true hz, wordB_true hp, wordB_true hb]), if_pos hk]
set_option maxRecDepth 100000 in
set_option maxHeartbeats 4000000 in
theorem specApply (v : Value) (ts : List Tp) (u : Value) (zs : List Int) (j k : Nat) (w : World) (hv : RdT w v ts) (hu : Rd w u zs) (hz : Word zs) (hl : Word (ts.getD j tp0).l) (hr : Word (ts.getD j tp0).r) (hj : j < ts.length) (hk : k ≤ zs.length) :
    Calls Try.prog 63 #[v, u, .int .i64 j, .int .i64 k] w fun e w' => ∃ r, e = .returned (.tuple #[r, .int .i64 (raR zs k (ts.getD j tp0).l (ts.getD j tp0).r).2]) ∧ Ow w' w.heap.size w'.heap.size r (raR zs k (ts.getD j tp0).l (ts.getD j tp0).r).1 ∧ Below w.heap.size w w' := by
  have HU := Lib.hid hu
  have HIN := Lib.hid (raR_in hz hl hr hk)
  obtain ⟨_, a, c, rfl, hcap, hrr⟩ := hv
  obtain ⟨b, o, rfl, hb, hcell⟩ := hrr (by intro h0; rw [h0] at hj; simp at hj)
  obtain ⟨xv, yv, c0, c1, hx, hy⟩ := hcell j hj
  obtain ⟨_, _, a', c', rfl, _, _⟩ := hu
  obtain ⟨t, ht⟩ : ∃ t, t = ts.getD j tp0 := ⟨_, rfl⟩
  rw [← ht] at hx hy hl hr HIN ⊢
  obtain ⟨ps, bs⟩ := t
  dsimp only at hx hy hl hr HIN ⊢
  have HX := Lib.hid hx
  have HY := Lib.hid hy
  obtain ⟨_, _, ax, cx, rfl, _, _⟩ := hx
  obtain ⟨_, _, ay, cy, rfl, _, _⟩ := hy
  have hzl := hz.1
  have hpl := hl.1
  have hbl := hr.1
  have HC : Hid (∀ W, Below w.heap.size w W → W.cell? ⟨b, o + j * 2, none⟩ = some (.slice ax ps.length cx) ∧ W.cell? ⟨b, o + j * 2 + 1, none⟩ = some (.slice ay bs.length cy)) := Lib.hid (fun W hW => ⟨(hW.cell (p := ⟨b, o + j * 2, none⟩) hb).trans c0, (hW.cell (p := ⟨b, o + j * 2 + 1, none⟩) hb).trans c1⟩)
  have i0 : (0 : Int) ≤ (j : Int) := by omega
  have i1 : (j : Int) < (ts.length : Int) := by omega
  clear hcell hrr hz hl hr ht
  rcases eqOr (occB zs k ps) with ho | ho
  · have HO := Lib.hid ho
    have e0 : Hid (raR zs k ps bs = ([], 3)) := Lib.hid (by rw [HIN.out, if_pos ho])
    clear ho
    go_enter Try.func63, Try.ntmps63
    go_wp2_with fail
    refine (specAt _ _ zs ps k _ HU.out HX.out hk).mono ?_
    rintro e w2 ⟨rfl, hb2⟩
    rw [HO.out]
    have HB := Lib.hid hb2
    clear hb2
    go_wp2
    go_ret2
    exact ⟨_, by rw [e0.out] <;> rfl, by rw [e0.out]; exact Ow.emptyUp HB.out.size, HB.out⟩
  have HO := Lib.hid ho
  have hkl := occ_len ho hk
  have e1 : Hid (raR zs k ps bs = (rpL zs k ps.length bs, rpC zs k ps.length bs)) := Lib.hid (by rw [HIN.out, if_neg (by rw [ho]; simp)])
  clear ho
  have hpl2 := putL_length zs k ps.length bs hkl
  obtain ⟨m1, hm1⟩ : ∃ m : Int, m = (zs.length : Int) - (ps.length : Int) := ⟨_, rfl⟩
  obtain ⟨m2, hm2⟩ : ∃ m : Int, m = m1 + (bs.length : Int) := ⟨_, rfl⟩
  have ew1 : IntKind.i64.wrap ((zs.length : Int) - (ps.length : Int)) = m1 := by rw [IntKind.wrap_i64]; omega
  have ew2 : IntKind.i64.wrap (m1 + (bs.length : Int)) = m2 := by rw [IntKind.wrap_i64]; omega
  by_cases hfull : (putL zs k ps.length bs).length ≤ 400
  rotate_left
  · have e2 : Hid (rpL zs k ps.length bs = [] ∧ rpC zs k ps.length bs = 5) := Lib.hid (by simp [rpL, rpC, hfull])
    have i2 : (400 : Int) < m2 := by omega
    clear hfull hpl2 hm1 hm2
    go_enter Try.func63, Try.ntmps63
    go_wp2_with fail
    refine (specAt _ _ zs ps k _ HU.out HX.out hk).mono ?_
    rintro e w2 ⟨rfl, hb2⟩
    rw [HO.out]
    have HB := Lib.hid hb2
    obtain ⟨d0, d1⟩ := HC.out _ HB.out
    clear hb2 c0 c1
    go_wp2_with fail
    go_region
    go_wp2
    go_ret2
    exact ⟨_, by rw [e1.out, e2.out.2] <;> rfl, by rw [e1.out, e2.out.1]; exact Ow.emptyUp HB.out.drew.size, HB.out.drew⟩
  have e2 : Hid (rpL zs k ps.length bs = putL zs k ps.length bs ∧ rpC zs k ps.length bs = 0) := Lib.hid (by simp [rpL, rpC, hfull])
  have i2 : ¬ (400 : Int) < m2 := by omega
  clear hfull hpl2 hm1 hm2
  go_enter Try.func63, Try.ntmps63
  go_wp2_with fail
  refine (specAt _ _ zs ps k _ HU.out HX.out hk).mono ?_
  rintro e w2 ⟨rfl, hb2⟩
  rw [HO.out]
  have HB := Lib.hid hb2
  obtain ⟨d0, d1⟩ := HC.out _ HB.out
  clear hb2 c0 c1
  go_wp2_with fail
  go_region
  obtain ⟨w4, hw4⟩ : ∃ x, x = w2.drew := ⟨_, rfl⟩
  have HB4 : Hid (Below w.heap.size w w4) := Lib.hid (by rw [hw4]; exact HB.out.drew)
  rw [← hw4]
  clear hw4 d0 d1
  go_wp2_with fail
  have HQ : Hid (∀ W, Below w4.heap.size w4 W → W.cell? ⟨b, o + j * 2, none⟩ = some (.slice ax ps.length cx) ∧ W.cell? ⟨b, o + j * 2 + 1, none⟩ = some (.slice ay bs.length cy)) := Lib.hid (fun W hW => HC.out _ (HB4.out.trans (hW.mono HB4.out.size)))
  have HD : Hid (Below w4.heap.size w4 w4.drew) := Lib.hid (Below.refl _ _).drew
  go_region_held3 (fun W => W.cell? ⟨b, o + j * 2, none⟩ = some (.slice ax ps.length cx) ∧ W.cell? ⟨b, o + j * 2 + 1, none⟩ = some (.slice ay bs.length cy))
    (exact HQ.out _ HD.out)
    (first | (go_at_call 86; with_reducible refine (specPut _ _ zs bs k ps.length _ ((HU.out.below HB4.out (Nat.le_refl _)).below HD.out (Nat.le_refl _)) ((HY.out.below HB4.out (Nat.le_refl _)).below HD.out (Nat.le_refl _)) hkl hzl hbl).mono ?_; rintro e3 w3 ⟨r, rfl, ho, hb3⟩; have HO2 := Lib.hid (ho.mono (Nat.le_trans HB4.out.size HD.out.size) (Nat.le_refl _) (Nat.le_refl _)); replace HD := Lib.hid (HD.out.trans (hb3.mono HD.out.size)); clear ho hb3))
  all_goals
    go_wp2
    go_ret2
    exact ⟨_, by rw [e1.out, e2.out.2] <;> rfl, by rw [e1.out, e2.out.1]; exact HO2.out, HB4.out.trans (HD.out.mono HB4.out.size)⟩
noncomputable def rcV (ts : List Tp) (zss : List (List Int)) : Int := if (rwsB ts && allW zss) = true then 0 else 1
theorem implRewCode (v : Value) (ts : List Tp) (u : Value) (zss : List (List Int)) (w : World) (hv : RdT w v ts) (hu : RdL w u zss) :
    Calls Try.prog 64 #[v, u] w fun e w' => e = .returned (.int .i64 (rcV ts zss)) ∧ Below w.heap.size w w' := by
  have HV := Lib.hid hv
  have HU := Lib.hid hu
  clear hv hu
  rcases eqOr (rwsB ts) with hn | hn
  · have HN := Lib.hid hn
    have e0 : Hid (rcV ts zss = 1) := Lib.hid (by simp [rcV, hn])
    clear hn
    go_enter Try.func64, Try.ntmps64
    go_wp2_with fail
    refine (implValidRws _ ts _ HV.out).mono ?_
    rintro e w1 ⟨rfl, hb1⟩
    rw [HN.out]
    have HB1 := Lib.hid hb1
    clear hb1
    go_wp2
    go_ret
    exact ⟨by rw [e0.out] <;> rfl, HB1.out⟩
  have HN := Lib.hid hn
  rcases eqOr (allW zss) with hm | hm
  · have HM := Lib.hid hm
    have e0 : Hid (rcV ts zss = 1) := Lib.hid (by simp [rcV, hm])
    clear hn hm
    go_enter Try.func64, Try.ntmps64
    go_wp2_with fail
    refine (implValidRws _ ts _ HV.out).mono ?_
    rintro e w1 ⟨rfl, hb1⟩
    rw [HN.out]
    have HB1 := Lib.hid hb1
    clear hb1
    go_wp2_with fail
    refine (areWords_any _ zss _ (HU.out.below HB1.out (Nat.le_refl _))).mono ?_
    rintro e w2 ⟨rfl, hb2⟩
    rw [HM.out]
    have HB2 := Lib.hid (HB1.out.trans (hb2.mono HB1.out.size))
    clear hb2
    go_wp2
    go_ret
    exact ⟨by rw [e0.out] <;> rfl, HB2.out⟩
  have HM := Lib.hid hm
  have e0 : Hid (rcV ts zss = 0) := Lib.hid (by simp [rcV, hn, hm])
  clear hn hm
  go_enter Try.func64, Try.ntmps64
  go_wp2_with fail
  refine (implValidRws _ ts _ HV.out).mono ?_
  rintro e w1 ⟨rfl, hb1⟩
  rw [HN.out]
  have HB1 := Lib.hid hb1
  clear hb1
  go_wp2_with fail
  refine (areWords_any _ zss _ (HU.out.below HB1.out (Nat.le_refl _))).mono ?_
  rintro e w2 ⟨rfl, hb2⟩
  rw [HM.out]
  have HB2 := Lib.hid (HB1.out.trans (hb2.mono HB1.out.size))
  clear hb2
  go_wp2
  go_ret
  exact ⟨by rw [e0.out] <;> rfl, HB2.out⟩
set_option maxRecDepth 100000 in
set_option maxHeartbeats 4000000 in
theorem specApplyRewrite (v : Value) (ts : List Tp) (u : Value) (zs : List Int) (rule at0 : Int) (w : World) (hv : RdT w v ts) (hu : Rd w u zs) :
    Calls Try.prog 27 #[v, u, .int .i64 rule, .int .i64 at0] w fun e w' => ∃ r, e = .returned (.tuple #[r, .int .i64 (awR ts zs rule at0).2]) ∧ Ow w' w.heap.size w'.heap.size r (awR ts zs rule at0).1 ∧ Below w.heap.size w w' := by
  have HV := Lib.hid hv
  have HU := Lib.hid hu
  have hlt := hv.len
  obtain ⟨_, a, c, rfl, hcap, _⟩ := hv
  obtain ⟨_, _, a', c', rfl, _, _⟩ := hu
  rcases eqOr (rwsB ts) with hn | hn
  · have HN := Lib.hid hn
    have e0 : Hid (awR ts zs rule at0 = ([], 1)) := Lib.hid (by rw [awR, if_pos hn])
    clear hn
    go_enter Try.func27, Try.ntmps27
    go_wp2_with fail
    refine (specRws _ ts _ HV.out).mono ?_
    rintro e w' ⟨rfl, rfl⟩
    rw [HN.out]
    go_wp2
    go_ret2
    exact ⟨_, by rw [e0.out] <;> rfl, by rw [e0.out]; exact Ow.empty w, Below.refl _ _⟩
  have HN := Lib.hid hn
  have hn1 : ¬ rwsB ts = false := by rw [hn]; simp
  rcases eqOr (wordB zs) with hm | hm
  · have HM := Lib.hid hm
    have e0 : Hid (awR ts zs rule at0 = ([], 1)) := Lib.hid (by rw [awR, if_neg hn1, if_pos hm])
    clear hn hn1 hm
    go_enter Try.func27, Try.ntmps27
    go_wp2_with fail
    refine (specRws _ ts _ HV.out).mono ?_
    rintro e w' ⟨rfl, rfl⟩
    rw [HN.out]
    go_wp2_with fail
    refine (specWord _ zs _ HU.out).mono ?_
    rintro e w' ⟨rfl, rfl⟩
    rw [HM.out]
    go_wp2
    go_ret2
    exact ⟨_, by rw [e0.out] <;> rfl, by rw [e0.out]; exact Ow.empty w, Below.refl _ _⟩
  have HM := Lib.hid hm
  have hm1 : ¬ wordB zs = false := by rw [hm]; simp
  obtain ⟨m, hme⟩ : ∃ m : Int, m = (ts.length : Int) - 1 := ⟨_, rfl⟩
  have ew : IntKind.i64.wrap ((ts.length : Int) - 1) = m := by rw [IntKind.wrap_i64]; omega
  by_cases hr : 0 ≤ rule ∧ rule < (ts.length : Int)
  rotate_left
  · have e0 : Hid (awR ts zs rule at0 = ([], 2)) := Lib.hid (by rw [awR, if_neg hn1, if_neg hm1, if_pos hr])
    have HI : Hid (false = true ↔ (0 ≤ rule ∧ rule ≤ m)) := Lib.hid ⟨by simp, fun h => absurd ⟨h.1, by omega⟩ hr⟩
    clear hn hn1 hm hm1 hr hme
    go_enter Try.func27, Try.ntmps27
    go_wp2_with fail
    refine (specRws _ ts _ HV.out).mono ?_
    rintro e w' ⟨rfl, rfl⟩
    rw [HN.out]
    go_wp2_with fail
    refine (specWord _ zs _ HU.out).mono ?_
    rintro e w' ⟨rfl, rfl⟩
    rw [HM.out]
    go_wp2_with fail
    refine (specInB rule 0 m false _ ⟨fun h => HI.out.1 h, HI.out.2⟩).mono ?_
    rintro e w' ⟨rfl, rfl⟩
    go_wp2
    go_ret2
    exact ⟨_, by rw [e0.out] <;> rfl, by rw [e0.out]; exact Ow.empty _, Below.refl _ _⟩
  obtain ⟨j, rfl⟩ : ∃ j : Nat, rule = j := ⟨rule.toNat, by omega⟩
  have hj : j < ts.length := by omega
  have HI : Hid (0 ≤ (j : Int) ∧ (j : Int) ≤ m) := Lib.hid (by omega)
  have hw := rwB_both (rwA_at (rwsB_all hn) hj)
  have hE : awR ts zs j at0 = raR zs at0 (ts.getD j tp0).l (ts.getD j tp0).r := by rw [awR, if_neg hn1, if_neg hm1, if_neg (fun h => h hr), Int.toNat_natCast]
  have HE := Lib.hid hE
  have HWW := Lib.hid hw
  by_cases ha : 0 ≤ at0 ∧ at0 ≤ (zs.length : Int)
  rotate_left
  · have e0 : Hid (awR ts zs j at0 = ([], 2)) := Lib.hid (by rw [hE, raR_out (wordB_iff hm) hw.1 hw.2.1 ha])
    have HI2 : Hid (false = true ↔ (0 ≤ at0 ∧ at0 ≤ (zs.length : Int))) := Lib.hid ⟨by simp, fun h => absurd h ha⟩
    clear hn hn1 hm hm1 hr hme ha hw hE
    go_enter Try.func27, Try.ntmps27
    go_wp2_with fail
    refine (specRws _ ts _ HV.out).mono ?_
    rintro e w' ⟨rfl, rfl⟩
    rw [HN.out]
    go_wp2_with fail
    refine (specWord _ zs _ HU.out).mono ?_
    rintro e w' ⟨rfl, rfl⟩
    rw [HM.out]
    go_wp2_with fail
    refine (specInB (j : Int) 0 m true _ ⟨fun _ => HI.out, fun _ => rfl⟩).mono ?_
    rintro e w' ⟨rfl, rfl⟩
    go_wp2_with fail
    refine (specInB at0 0 (zs.length : Int) false _ ⟨fun h => HI2.out.1 h, HI2.out.2⟩).mono ?_
    rintro e w' ⟨rfl, rfl⟩
    go_wp2
    go_ret2
    exact ⟨_, by rw [e0.out] <;> rfl, by rw [e0.out]; exact Ow.empty _, Below.refl _ _⟩
  obtain ⟨k, rfl⟩ : ∃ k : Nat, at0 = k := ⟨at0.toNat, by omega⟩
  have hk : k ≤ zs.length := by omega
  have HI2 : Hid (0 ≤ (k : Int) ∧ (k : Int) ≤ (zs.length : Int)) := Lib.hid (by omega)
  have HZ := Lib.hid (wordB_iff hm)
  have hap := specApply _ ts _ zs j k w HV.out HU.out HZ.out hw.1 hw.2.1 hj hk
  obtain ⟨pl, hpl⟩ : ∃ x, x = (ts.getD j tp0).l := ⟨_, rfl⟩
  obtain ⟨pr, hpr⟩ : ∃ x, x = (ts.getD j tp0).r := ⟨_, rfl⟩
  rw [← hpl, ← hpr] at hap HE
  have HAP := Lib.hid hap
  clear hn hn1 hm hm1 hr hme ha hw hE hap hpl hpr HWW
  go_enter Try.func27, Try.ntmps27
  go_wp2_with fail
  refine (specRws _ ts _ HV.out).mono ?_
  rintro e w' ⟨rfl, rfl⟩
  rw [HN.out]
  go_wp2_with fail
  refine (specWord _ zs _ HU.out).mono ?_
  rintro e w' ⟨rfl, rfl⟩
  rw [HM.out]
  go_wp2_with fail
  refine (specInB (j : Int) 0 m true _ ⟨fun _ => HI.out, fun _ => rfl⟩).mono ?_
  rintro e w' ⟨rfl, rfl⟩
  go_wp2_with fail
  refine (specInB (k : Int) 0 (zs.length : Int) true _ ⟨fun _ => HI2.out, fun _ => rfl⟩).mono ?_
  rintro e w' ⟨rfl, rfl⟩
  go_wp2_with fail
  refine HAP.out.mono ?_
  rintro e w2 ⟨r, rfl, ho, hb2⟩
  have HO := Lib.hid ho
  have HB := Lib.hid hb2
  clear ho hb2
  go_wp2
  go_ret2
  exact ⟨_, by rw [HE.out] <;> rfl, by rw [HE.out]; exact HO.out, HB.out⟩
theorem implBelow9 (x n : Int) (b : Bool) (w : World) (h : b = decide (0 ≤ x ∧ x < n)) :
    Calls Try.prog 65 #[.int .i64 x, .int .i64 n] w fun e w' => e = .returned (.bool b) ∧ w = w' := by
  by_cases h0 : 0 ≤ x
  · by_cases h1 : x < n
    · have HE : Hid (b = true) := Lib.hid (by rw [h, decide_eq_true ⟨h0, h1⟩])
      clear h
      go_enter Try.func65, Try.ntmps65
      go_wp2
      go_ret
      exact ⟨by rw [HE.out] <;> rfl, rfl⟩
    · have HE : Hid (b = false) := Lib.hid (by rw [h, decide_eq_false (fun q => h1 q.2)])
      have d1 : decide (x < n) = false := decide_eq_false h1
      clear h
      go_enter Try.func65, Try.ntmps65
      go_wp2
      go_ret
      exact ⟨by rw [HE.out] <;> rfl, rfl⟩
  · have HE : Hid (b = false) := Lib.hid (by rw [h, decide_eq_false (fun q => h0 q.1)])
    have d1 : decide (0 ≤ x) = false := decide_eq_false h0
    clear h
    go_enter Try.func65, Try.ntmps65
    go_wp2
    go_ret
    exact ⟨by rw [HE.out] <;> rfl, rfl⟩
set_option maxRecDepth 100000 in
set_option maxHeartbeats 4000000 in
theorem implApplyRewrite (v : Value) (ts : List Tp) (u : Value) (zs : List Int) (rule at0 : Int) (w : World) (hv : RdT w v ts) (hu : Rd w u zs) :
    Calls Try.prog 28 #[v, u, .int .i64 rule, .int .i64 at0] w fun e w' => ∃ r, e = .returned (.tuple #[r, .int .i64 (awR ts zs rule at0).2]) ∧ Ow w' w.heap.size w'.heap.size r (awR ts zs rule at0).1 ∧ Below w.heap.size w w' := by
  have HV := Lib.hid hv
  have HU := Lib.hid hu
  have hlt := hv.len
  have hrr := hv.val
  obtain ⟨_, a, c, rfl, hcap, _⟩ := hv
  obtain ⟨_, _, a', c', rfl, _, _⟩ := hu
  have HL := Lib.hid (rdl_one HU.out)
  have HA : Hid (Below w.heap.size w (w.alloc (.cells #[.slice a' zs.length c'] 22))) := Lib.hid ((Below.refl _ _).alloc (Nat.le_refl _) _)
  have hcode : rcV ts [zs] = 0 ∨ (rcV ts [zs] = 1 ∧ (rwsB ts = false ∨ wordB zs = false)) := by
    rcases eqOr (rwsB ts) with h | h <;> rcases eqOr (wordB zs) with h' | h' <;> simp [rcV, allW, h, h']
  have hcode2 : rcV ts [zs] = 0 → rwsB ts = true ∧ wordB zs = true := by
    intro h0
    rcases eqOr (rwsB ts) with h | h <;> rcases eqOr (wordB zs) with h' | h' <;> simp_all [rcV, allW]
  rcases hcode with hc0 | ⟨hc1, hbad⟩
  rotate_left
  · have HC := Lib.hid hc1
    have e0 : Hid (awR ts zs rule at0 = ([], 1)) := Lib.hid (by
      rcases hbad with h | h <;> simp [awR, h])
    clear hc1 hbad hcode2 hrr
    go_enter Try.func28, Try.ntmps28
    go_wp2_with fail
    refine (implRewCode _ ts _ [zs] _ (HV.out.below HA.out (Nat.le_refl _)) HL.out).mono ?_
    rintro e w1 ⟨rfl, hb1⟩
    rw [HC.out]
    have HB := Lib.hid (HA.out.trans (hb1.mono HA.out.size))
    clear hb1
    go_wp2
    go_ret2
    exact ⟨_, by rw [e0.out] <;> rfl, by rw [e0.out]; exact Ow.emptyUp HB.out.size, HB.out⟩
  obtain ⟨hn, hm⟩ := hcode2 hc0
  have HC := Lib.hid hc0
  have hn1 : ¬ rwsB ts = false := by rw [hn]; simp
  have hm1 : ¬ wordB zs = false := by rw [hm]; simp
  clear hcode2 hc0
  by_cases hr : 0 ≤ rule ∧ rule < (ts.length : Int)
  rotate_left
  · have e0 : Hid (awR ts zs rule at0 = ([], 2)) := Lib.hid (by rw [awR, if_neg hn1, if_neg hm1, if_pos hr])
    have HI : Hid (false = decide (0 ≤ rule ∧ rule < (ts.length : Int))) := Lib.hid (decide_eq_false hr).symm
    clear hn hn1 hm hm1 hr hrr
    go_enter Try.func28, Try.ntmps28
    go_wp2_with fail
    refine (implRewCode _ ts _ [zs] _ (HV.out.below HA.out (Nat.le_refl _)) HL.out).mono ?_
    rintro e w1 ⟨rfl, hb1⟩
    rw [HC.out]
    have HB := Lib.hid (HA.out.trans (hb1.mono HA.out.size))
    clear hb1
    go_wp2_with fail
    refine (implBelow9 rule (ts.length : Int) false _ HI.out).mono ?_
    rintro e w' ⟨rfl, rfl⟩
    go_wp2
    go_ret2
    exact ⟨_, by rw [e0.out] <;> rfl, by rw [e0.out]; exact Ow.emptyUp HB.out.size, HB.out⟩
  obtain ⟨j, rfl⟩ : ∃ j : Nat, rule = j := ⟨rule.toNat, by omega⟩
  have hj : j < ts.length := by omega
  have HI : Hid (true = decide (0 ≤ (j : Int) ∧ (j : Int) < (ts.length : Int))) := Lib.hid (decide_eq_true hr).symm
  have hE : awR ts zs j at0 = raR zs at0 (ts.getD j tp0).l (ts.getD j tp0).r := by rw [awR, if_neg hn1, if_neg hm1, if_neg (fun h => h hr), Int.toNat_natCast]
  obtain ⟨a2, c2, he2, _, hr2⟩ := hrr
  simp only [Value.slice.injEq] at he2
  obtain ⟨rfl, _, rfl⟩ := he2
  obtain ⟨b, o, rfl, hb, hcell⟩ := hr2 (by intro h0; rw [h0] at hj; simp at hj)
  obtain ⟨xv, yv, c0, c1, hx, hy⟩ := hcell j hj
  obtain ⟨t, ht⟩ : ∃ t, t = ts.getD j tp0 := ⟨_, rfl⟩
  rw [← ht] at hx hy hE
  obtain ⟨ps, bs⟩ := t
  dsimp only at hx hy hE
  have HE := Lib.hid hE
  have HX := Lib.hid hx
  have HY := Lib.hid hy
  obtain ⟨_, _, ax, cx, rfl, _, _⟩ := hx
  obtain ⟨_, _, ay, cy, rfl, _, _⟩ := hy
  have HCL : Hid (∀ W, Below w.heap.size w W → W.cell? ⟨b, o + j * 2, none⟩ = some (.slice ax ps.length cx) ∧ W.cell? ⟨b, o + j * 2 + 1, none⟩ = some (.slice ay bs.length cy)) := Lib.hid (fun W hW => ⟨(hW.cell (p := ⟨b, o + j * 2, none⟩) hb).trans c0, (hW.cell (p := ⟨b, o + j * 2 + 1, none⟩) hb).trans c1⟩)
  have i0 : (0 : Int) ≤ (j : Int) := by omega
  have i1 : (j : Int) < (ts.length : Int) := by omega
  clear hn hn1 hm hm1 hr hE hcell hr2 c0 c1 ht
  go_enter Try.func28, Try.ntmps28
  go_wp2_with fail
  refine (implRewCode _ ts _ [zs] _ (HV.out.below HA.out (Nat.le_refl _)) HL.out).mono ?_
  rintro e w1 ⟨rfl, hb1⟩
  rw [HC.out]
  have HB := Lib.hid (HA.out.trans (hb1.mono HA.out.size))
  clear hb1
  go_wp2_with fail
  refine (implBelow9 (j : Int) (ts.length : Int) true _ HI.out).mono ?_
  rintro e w' ⟨rfl, rfl⟩
  go_wp2_with fail
  have HQ : Hid (∀ W, Below w1.heap.size w1 W → W.cell? ⟨b, o + j * 2, none⟩ = some (.slice ax ps.length cx) ∧ W.cell? ⟨b, o + j * 2 + 1, none⟩ = some (.slice ay bs.length cy)) := Lib.hid (fun W hW => HCL.out _ (HB.out.trans (hW.mono HB.out.size)))
  have HD : Hid (Below w1.heap.size w1 w1.drew) := Lib.hid (Below.refl _ _).drew
  go_region_held3 (fun W => W.cell? ⟨b, o + j * 2, none⟩ = some (.slice ax ps.length cx) ∧ W.cell? ⟨b, o + j * 2 + 1, none⟩ = some (.slice ay bs.length cy))
    (exact HQ.out _ HD.out)
    (first | (go_at_call 66; with_reducible refine (implReplaceAt _ zs at0 _ ps _ bs _ ((HU.out.below HB.out (Nat.le_refl _)).below HD.out (Nat.le_refl _)) ((HX.out.below HB.out (Nat.le_refl _)).below HD.out (Nat.le_refl _)) ((HY.out.below HB.out (Nat.le_refl _)).below HD.out (Nat.le_refl _))).mono ?_; rintro e3 w3 ⟨r, rfl, ho, hb3⟩; have HO2 := Lib.hid (ho.mono (Nat.le_trans HB.out.size HD.out.size) (Nat.le_refl _) (Nat.le_refl _)); replace HD := Lib.hid (HD.out.trans (hb3.mono HD.out.size)); clear ho hb3))
  all_goals
    go_wp2
    go_ret2
    exact ⟨_, by rw [HE.out] <;> rfl, by rw [HE.out]; exact HO2.out, HB.out.trans (HD.out.mono HB.out.size)⟩
end Go.Proofs.Ythombjcjhnekpaa.Ints
