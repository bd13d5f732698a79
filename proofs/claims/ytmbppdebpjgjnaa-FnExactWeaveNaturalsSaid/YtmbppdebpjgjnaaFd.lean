/- The model's number of digits, and the contract of the model's FromDigits. -/
import Derived.Test.YtmbppdebpjgjnaaVcalc
import Derived.Deep.RegionHeld3
namespace Go.Proofs.Ytmbppdebpjgjnaa.Ints
open Go.RowKit
set_option linter.unusedVariables false

/-- The value of the last k digits; none if it was too long on the way. -/
noncomputable def fdS (zs : List Int) (b : Int) : Nat → Option Int
  | 0 => some 0
  | k + 1 => match fdS zs b k with
    | none => none
    | some V => if (canOf (V * b + zs.getD (zs.length - 1 - k) 0)).length ≤ 40 then some (V * b + zs.getD (zs.length - 1 - k) 0) else none
theorem fdS_step {zs : List Int} {b V : Int} {k : Nat} (h : fdS zs b k = some V) (hl : (canOf (V * b + zs.getD (zs.length - 1 - k) 0)).length ≤ 40) : fdS zs b (k + 1) = some (V * b + zs.getD (zs.length - 1 - k) 0) := by
  rw [fdS, h]; simp only [if_pos hl]
theorem fdS_stop {zs : List Int} {b V : Int} {k : Nat} (h : fdS zs b k = some V) (hl : ¬ (canOf (V * b + zs.getD (zs.length - 1 - k) 0)).length ≤ 40) : fdS zs b (k + 1) = none := by
  rw [fdS, h]; simp only [if_neg hl]
theorem fdS_none {zs : List Int} {b : Int} {k : Nat} (h : fdS zs b k = none) : ∀ d, fdS zs b (k + d) = none := by
  intro d
  induction d with
  | zero => exact h
  | succ d ih => rw [← Nat.add_assoc, fdS, ih]
noncomputable def fdR (zs : List Int) (b : Int) : Option Int := fdS zs b zs.length
noncomputable def fdL (zs : List Int) (b : Int) : List Int := match fdR zs b with | some V => canOf V | none => []
noncomputable def fdB (zs : List Int) (b : Int) : Bool := (fdR zs b).isSome
theorem nn_len' {a : Int} {k : Nat} (h0 : 0 ≤ a) (h : (canOf a).length ≤ k) : Nn k a := by
  obtain ⟨h1, h2⟩ := canOf_spec h0
  have := nn_of h1 h
  rwa [h2] at this
theorem limbs_val' {n : Int} (h : 0 ≤ n) : limbs n = canOf n := by
  obtain ⟨h1, h2⟩ := limbs_can h
  exact (canOf_eq h1 h2).symm
theorem nn_base {b : Int} (h0 : 0 ≤ b) (h1 : b ≤ 1000000) : Nn 2 b := ⟨h0, by simp [Pw]; omega⟩
set_option maxRecDepth 100000 in
set_option maxHeartbeats 4000000 in
theorem specJoin (v : Value) (zs : List Int) (b : Int) (w : World) (hv : Rd w v zs) (b0 : 2 ≤ b) (b1 : b ≤ 1000000) (hd : Dig b zs) :
    Calls Try.prog 52 #[v, .int .i64 b] w fun e w' => ∃ r, e = .returned (.tuple #[r, .bool (fdB zs b)]) ∧ Ow w' w.heap.size w'.heap.size r (fdL zs b) ∧ Below w.heap.size w w' := by
  have HV := Lib.hid hv
  have HDG := Lib.hid hd
  have hzl := hv.len
  obtain ⟨_, _, a, c, rfl, _, _⟩ := hv
  clear hd
  have HB1 := Lib.hid ((Below.refl w.heap.size w).alloc (Nat.le_refl _) (Obj.cells #[] 2))
  have HM : Hid (Ow (w.alloc (.cells #[] 2)) w.heap.size (w.alloc (.cells #[] 2)).heap.size (.slice (some ⟨w.heap.size, 0, none⟩) 0 0) (canOf 0)) := Lib.hid (by rw [zero_can]; exact Ow.made w)
  go_enter Try.func52, Try.ntmps52
  go_wp2
  go_loopw [6, 7] (fun o s wr => ∃ (k m : Nat) (V : Int) (ov : Value), o = ov ∧ k + m = zs.length ∧ s = .int .i64 ((m : Int) - 1) ∧ fdS zs b k = some V ∧ Nn 40 V ∧ Ow wr w.heap.size wr.heap.size ov (canOf V) ∧ Below w.heap.size w wr) (fun _ s _ => (intOf s + 1).toNat)
  case atStart => exact ⟨0, zs.length, 0, _, rfl, by omega, rfl, rfl, ⟨by omega, Pw_pos _⟩, HM.out, HB1.out⟩
  case round =>
    obtain ⟨k, m, V, ov, hov, hkm, hs, hf, hn, hown, hbel⟩ := hrel
    obtain rfl := hov.symm
    have HFS := Lib.hid hf
    have HN := Lib.hid hn
    have HOWN := Lib.hid hown
    have HW := Lib.hid hbel
    cases m with
    | zero =>
      obtain rfl := hs
      obtain rfl : k = zs.length := by omega
      have HR : Hid (fdL zs b = canOf V ∧ fdB zs b = true) := Lib.hid (by simp [fdL, fdB, fdR, hf])
      obtain ⟨ga, gc, hg⟩ := hown.shape
      obtain ⟨Z, hZ⟩ : ∃ Z, Z = canOf V := ⟨_, rfl⟩
      rw [← hZ] at hg HOWN HR
      clear hown hbel hf hn hZ
      subst hg
      go_wp2
      go_ret2
      exact ⟨_, by rw [HR.out.2] <;> rfl, by rw [HR.out.1]; exact HOWN.out, HW.out⟩
    | succ m =>
      rw [show (((m + 1 : Nat) : Int) - 1) = (m : Int) by omega] at hs
      obtain rfl := hs
      have hmk : zs.length - 1 - k = m := by omega
      obtain ⟨_, _, a2, c2, he, _, hr⟩ := HV.out
      obtain ⟨bb, o, ha, hb, hcell⟩ := hr (by intro h0; rw [h0] at hkm; simp at hkm)
      simp only [Value.slice.injEq] at he
      obtain ⟨rfl, _, rfl⟩ := he
      subst ha
      obtain ⟨x, hx⟩ : ∃ x, x = zs.getD m 0 := ⟨_, rfl⟩
      have HCELL : Hid (w.cell? ⟨bb, o + m, none⟩ = some (.int .i64 x)) := Lib.hid (by rw [hx]; exact hcell m (by omega))
      have HBB := Lib.hid hb
      obtain ⟨x0, x1⟩ := HDG.out m (by omega)
      rw [← hx] at x0 x1
      have hc : wr.cell? ⟨bb, o + m, none⟩ = some (.int .i64 x) := (hbel.cell hb).trans HCELL.out
      have i0' : (0 : Int) ≤ (m : Int) := by omega
      have i1 : (m : Int) < (zs.length : Int) := by omega
      have HX : Hid (x = zs.getD (zs.length - 1 - k) 0) := Lib.hid (by rw [hmk]; exact hx)
      have NB : Hid (Nn 2 b) := Lib.hid (nn_base (by omega) b1)
      have NVB : Hid (Nn 42 (V * b)) := Lib.hid (Nn.mul (k := 40) (l := 2) HN.out NB.out)
      have NX : Hid (Nn 42 x) := Lib.hid (Nn.up (k := 1) (nn_small x0 (by omega)) (by omega))
      have FB : Hid (0 ≤ b ∧ b ≤ 1000000000000000000) := Lib.hid ⟨by omega, by omega⟩
      have FX : Hid (0 ≤ x ∧ x ≤ 1000000000000000000) := Lib.hid ⟨by omega, by omega⟩
      have LB := Lib.hid (limbs_val' (n := b) (by omega))
      have LX := Lib.hid (limbs_val' (n := x) (by omega))
      have HTT : Hid (Below w.heap.size w wr.drew) := Lib.hid HW.out.drew
      have XO : Hid (Ow wr.drew w.heap.size wr.drew.heap.size ov (canOf V)) := Lib.hid ⟨HOWN.out.len, HOWN.out.fit, HOWN.out.row.drew, HOWN.out.top, HOWN.out.size, HOWN.out.base⟩
      obtain ⟨Z, hZ⟩ : ∃ Z, Z = canOf (V * b + x) := ⟨_, rfl⟩
      have HZ := Lib.hid hZ
      have hv0 : 0 ≤ V * b + x := by have := Int.mul_nonneg hn.nn (show 0 ≤ b by omega); omega
      clear hcell hr hx hown hbel hb hf hn
      by_cases hfull : Z.length ≤ 40
      · have HNX : Hid (fdS zs b (k + 1) = some (V * b + x)) := Lib.hid (by
          rw [HX.out]; exact fdS_step HFS.out (by rw [← HX.out, ← hZ]; exact hfull))
        have HNN : Hid (Nn 40 (V * b + x)) := Lib.hid (nn_len' hv0 (by rw [← hZ]; exact hfull))
        have j1 : ¬ (40 : Int) < (Z.length : Int) := by omega
        clear hZ hfull hv0
        go_wp2_with fail
        go_region_held3 (fun w' => w'.cell? ⟨bb, o + m, none⟩ = some (.int .i64 x))
          (first | assumption | exact hc | exact (HTT.out.cell HBB.out).trans HCELL.out)
          (first
            | (go_at_call 77; with_reducible refine (specLimbs b _ FB.out.1 FB.out.2).mono ?_; rintro e3 w3 ⟨ua, rfl, ho3, hb3⟩; rw [LB.out] at ho3; replace XO := Lib.hid ((XO.out.below hb3 (Nat.le_refl _)).up); (try replace XA := Lib.hid ((XA.out.below hb3 (Nat.le_refl _)).up)); (try replace XB := Lib.hid ((XB.out.below hb3 (Nat.le_refl _)).up)); (try replace XD := Lib.hid ((XD.out.below hb3 (Nat.le_refl _)).up)); replace HTT := Lib.hid (HTT.out.trans (hb3.mono HTT.out.size)); have XA := Lib.hid ho3; clear ho3 hb3)
            | (go_at_call 77; with_reducible refine (specLimbs x _ FX.out.1 FX.out.2).mono ?_; rintro e3 w3 ⟨ud, rfl, ho3, hb3⟩; rw [LX.out] at ho3; replace XO := Lib.hid ((XO.out.below hb3 (Nat.le_refl _)).up); (try replace XA := Lib.hid ((XA.out.below hb3 (Nat.le_refl _)).up)); (try replace XB := Lib.hid ((XB.out.below hb3 (Nat.le_refl _)).up)); (try replace XD := Lib.hid ((XD.out.below hb3 (Nat.le_refl _)).up)); replace HTT := Lib.hid (HTT.out.trans (hb3.mono HTT.out.size)); have XD := Lib.hid ho3; clear ho3 hb3)
            | (go_at_call 39; refine (sMul _ _ V b 40 2 _ XO.out.rd XA.out.rd HN.out NB.out (by omega) (by omega)).mono ?_; rintro e3 w3 ⟨ub, rfl, ho3, hb3⟩; replace XO := Lib.hid ((XO.out.below hb3 (Nat.le_refl _)).up); (try replace XA := Lib.hid ((XA.out.below hb3 (Nat.le_refl _)).up)); (try replace XB := Lib.hid ((XB.out.below hb3 (Nat.le_refl _)).up)); (try replace XD := Lib.hid ((XD.out.below hb3 (Nat.le_refl _)).up)); replace HTT := Lib.hid (HTT.out.trans (hb3.mono HTT.out.size)); have XB := Lib.hid ho3; clear ho3 hb3)
            | (go_at_call 47; refine (sAdd _ _ (V * b) x 42 _ XB.out.rd XD.out.rd NVB.out NX.out (by omega)).mono ?_; rintro e3 w3 ⟨ue, rfl, ho3, hb3⟩; rw [← HZ.out] at ho3; have HT0 := Lib.hid HTT.out.size; replace HTT := Lib.hid (HTT.out.trans (hb3.mono HTT.out.size)); have XE := Lib.hid (ho3.mono (B' := w.heap.size) HT0.out (Nat.le_refl _) (Nat.le_refl _)); obtain ⟨ge, ce, hge⟩ := ho3.shape; subst hge; clear ho3 hb3))
        all_goals
          go_wp2
          go_roundw
          case rel => exact ⟨k + 1, m, V * b + x, _, rfl, by omega, rfl, HNX.out, HNN.out, by rw [← HZ.out]; exact XE.out, HTT.out⟩
          case measure => simp [intOf]
      · have HNX : Hid (fdS zs b (k + 1) = none) := Lib.hid (fdS_stop HFS.out (by rw [← HX.out, ← hZ]; exact hfull))
        have HR : Hid (fdL zs b = [] ∧ fdB zs b = false) := Lib.hid (by
          have := fdS_none HNX.out m
          rw [show k + 1 + m = zs.length by omega] at this
          simp [fdL, fdB, fdR, this])
        have j1 : (40 : Int) < (Z.length : Int) := by omega
        clear hZ hfull hv0
        go_wp2_with fail
        go_region_held3 (fun w' => w'.cell? ⟨bb, o + m, none⟩ = some (.int .i64 x))
          (first | assumption | exact hc | exact (HTT.out.cell HBB.out).trans HCELL.out)
          (first
            | (go_at_call 77; with_reducible refine (specLimbs b _ FB.out.1 FB.out.2).mono ?_; rintro e3 w3 ⟨ua, rfl, ho3, hb3⟩; rw [LB.out] at ho3; replace XO := Lib.hid ((XO.out.below hb3 (Nat.le_refl _)).up); (try replace XA := Lib.hid ((XA.out.below hb3 (Nat.le_refl _)).up)); (try replace XB := Lib.hid ((XB.out.below hb3 (Nat.le_refl _)).up)); (try replace XD := Lib.hid ((XD.out.below hb3 (Nat.le_refl _)).up)); replace HTT := Lib.hid (HTT.out.trans (hb3.mono HTT.out.size)); have XA := Lib.hid ho3; clear ho3 hb3)
            | (go_at_call 77; with_reducible refine (specLimbs x _ FX.out.1 FX.out.2).mono ?_; rintro e3 w3 ⟨ud, rfl, ho3, hb3⟩; rw [LX.out] at ho3; replace XO := Lib.hid ((XO.out.below hb3 (Nat.le_refl _)).up); (try replace XA := Lib.hid ((XA.out.below hb3 (Nat.le_refl _)).up)); (try replace XB := Lib.hid ((XB.out.below hb3 (Nat.le_refl _)).up)); (try replace XD := Lib.hid ((XD.out.below hb3 (Nat.le_refl _)).up)); replace HTT := Lib.hid (HTT.out.trans (hb3.mono HTT.out.size)); have XD := Lib.hid ho3; clear ho3 hb3)
            | (go_at_call 39; refine (sMul _ _ V b 40 2 _ XO.out.rd XA.out.rd HN.out NB.out (by omega) (by omega)).mono ?_; rintro e3 w3 ⟨ub, rfl, ho3, hb3⟩; replace XO := Lib.hid ((XO.out.below hb3 (Nat.le_refl _)).up); (try replace XA := Lib.hid ((XA.out.below hb3 (Nat.le_refl _)).up)); (try replace XB := Lib.hid ((XB.out.below hb3 (Nat.le_refl _)).up)); (try replace XD := Lib.hid ((XD.out.below hb3 (Nat.le_refl _)).up)); replace HTT := Lib.hid (HTT.out.trans (hb3.mono HTT.out.size)); have XB := Lib.hid ho3; clear ho3 hb3)
            | (go_at_call 47; refine (sAdd _ _ (V * b) x 42 _ XB.out.rd XD.out.rd NVB.out NX.out (by omega)).mono ?_; rintro e3 w3 ⟨ue, rfl, ho3, hb3⟩; rw [← HZ.out] at ho3; have HT0 := Lib.hid HTT.out.size; replace HTT := Lib.hid (HTT.out.trans (hb3.mono HTT.out.size)); have XE := Lib.hid (ho3.mono (B' := w.heap.size) HT0.out (Nat.le_refl _) (Nat.le_refl _)); obtain ⟨ge, ce, hge⟩ := ho3.shape; subst hge; clear ho3 hb3))
        all_goals
          go_wp2
          go_ret2
          exact ⟨_, by rw [HR.out.2] <;> rfl, by rw [HR.out.1]; exact Ow.emptyUp HTT.out.size, HTT.out⟩
end Go.Proofs.Ytmbppdebpjgjnaa.Ints
