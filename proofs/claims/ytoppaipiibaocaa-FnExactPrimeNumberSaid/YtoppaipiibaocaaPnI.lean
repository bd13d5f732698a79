/- Products of powers of primes, of the program. -/
import Derived.Test.YtoppaipiibaocaaPnV
import Derived.Test.YtoppaipiibaocaaRevN
namespace Go.Proofs.Ytoppaipiibaocaa.Ints
open Go.RowKit
open Math (prA prA_in implPrimeAt)
set_option linter.unusedVariables false
set_option linter.unusedSimpArgs false
set_option maxRecDepth 100000 in
set_option maxHeartbeats 8000000 in
theorem implPn (v : Value) (zs : List Int) (w : World) (h : Rd w v zs) :
    Calls Try.prog 15 #[v] w fun e w' => ∃ r, e = .returned (.tuple #[r, .int .i64 (pnC zs)]) ∧ Ow w' w.heap.size w'.heap.size r (pnL zs) ∧ Below w.heap.size w w' := by
  have HV := Lib.hid h
  obtain ⟨hl, hf, a, c, rfl, hcap, hr⟩ := h
  by_cases hlen : zs.length ≤ 24
  rotate_left
  · have HF := Lib.hid (pn_bad (pnOk_long hlen))
    have f1 : (24 : Int) < (zs.length : Int) := by omega
    have f2 : decide ((24 : Int) < (zs.length : Int)) = true := decide_eq_true f1
    clear hr hlen
    go_enter Try.func15, Try.ntmps15
    go_wp2
    go_ret2
    exact ⟨_, by rw [HF.out.2] <;> rfl, by rw [HF.out.1]; exact Ow.empty w, Below.refl _ _⟩
  have f1 : ¬ (24 : Int) < (zs.length : Int) := by omega
  have f2 : decide ((24 : Int) < (zs.length : Int)) = false := decide_eq_false f1
  rcases eqOr (digB 801 zs) with hd | hd
  · have HD := Lib.hid hd
    have HF := Lib.hid (pn_bad (pnOk_dig hd))
    clear hd hr
    go_enter Try.func15, Try.ntmps15
    go_wp2_with (go_at_call 52; refine (areBelow_any _ zs 801 _ HV.out).mono ?_; rintro e w1 ⟨rfl, hb1⟩; rw [HD.out]; have HB := Lib.hid hb1; clear hb1)
    go_ret2
    exact ⟨_, by rw [HF.out.2] <;> rfl, by rw [HF.out.1]; exact Ow.emptyUp HB.out.size, HB.out⟩
  have HD := Lib.hid hd
  have HDg : Hid (Dig 801 zs) := Lib.hid (by simpa [digB] using hd)
  have HOK := Lib.hid (pnOk_yes hlen HDg.out)
  have HL := Lib.hid hlen
  have HR := Lib.hid hr
  clear hd hr hlen
  go_enter Try.func15, Try.ntmps15
  go_wp2_with (go_at_call 52; refine (areBelow_any _ zs 801 _ HV.out).mono ?_; rintro e w1 ⟨rfl, hb1⟩; rw [HD.out]; have HB := Lib.hid hb1; clear hb1)
  go_wp2_with fail
  refine (implLimbs 1 _ (by omega) (by omega)).mono ?_
  rintro e w2 ⟨u2, rfl, ho2, hb2⟩
  rw [limbs_one] at ho2
  have HO2 := Lib.hid (ho2.mono HB.out.size (Nat.le_refl _) (Nat.le_refl _))
  have HB2 := Lib.hid (HB.out.trans (hb2.mono HB.out.size))
  clear ho2 hb2
  have HC1 : Hid (canOf 1 = [1]) := Lib.hid (canOf_eq (powP_can (ps := []) can_nil 0) (by simp [val]))
  go_wp2
  go_loopw [4, 20] (fun o x wr => ∃ (k : Nat) (acc : Int) (ov : Value), o = ov ∧ x = .int .i64 k ∧ PnS zs k acc ∧ Ow wr w.heap.size wr.heap.size ov (canOf acc) ∧ Below w.heap.size w wr) (fun _ x _ => zs.length - (intOf x).toNat)
  case atStart => exact ⟨0, 1, _, rfl, rfl, PnS.start zs, by rw [HC1.out]; exact HO2.out, HB2.out⟩
  case round =>
    obtain ⟨k, acc, ov, hov, rfl, hS, ho, hb⟩ := hrel
    obtain rfl := hov.symm
    have HS := Lib.hid hS
    have HO := Lib.hid ho
    have HB3 := Lib.hid hb
    have hk := hS.le
    have hL := HL.out
    clear hS ho hb
    by_cases hlt : k < zs.length
    · obtain ⟨bb, o, rfl, hbb, hcell⟩ := HR.out (by intro h0; rw [h0] at hlt; simp at hlt)
      obtain ⟨x, hx⟩ : ∃ x, x = zs.getD k 0 := ⟨_, rfl⟩
      have hc : wr.cell? ⟨bb, o + k, none⟩ = some (.int .i64 x) := by rw [hx]; exact (HB3.out.cell hbb).trans (hcell k hlt)
      obtain ⟨x0, x1⟩ := HDg.out k hlt
      rw [← hx] at x0 x1
      obtain ⟨p, hp⟩ : ∃ p, p = (prA k : Int) := ⟨_, rfl⟩
      have hp2 := prA_two (k := k) (by omega)
      rw [← hp] at hp2
      obtain ⟨p0, p1⟩ := hp2
      have HP := Lib.hid hp
      have HX := Lib.hid hx
      have i0' : (0 : Int) ≤ (k : Int) := by omega
      have i1 : (k : Int) < (zs.length : Int) := by omega
      have HLt := Lib.hid hlt
      clear hcell hx hp
      go_wp2_with fail
      refine (implPrimeAt k _ (by omega)).mono ?_
      rintro e w4 ⟨rfl, hb4⟩
      rw [← HP.out]
      have HB4 := Lib.hid (HB3.out.trans (hb4.mono HB3.out.size))
      have HO4 := Lib.hid ((HO.out.below hb4 (Nat.le_refl _)).up)
      clear hb4
      go_wp2
      go_loopw [4, 32] (fun o x' wr2 => ∃ (j : Nat) (ov2 : Value), o = ov2 ∧ x' = .int .i64 j ∧ j ≤ x.toNat + 1 ∧ acc * p ^ j < Pw 40 ∧ Ow wr2 w.heap.size wr2.heap.size ov2 (canOf (acc * p ^ j)) ∧ Below w.heap.size w wr2) (fun _ x' _ => x.toNat + 2 - (intOf x').toNat)
      case atStart => exact ⟨0, _, rfl, rfl, Nat.zero_le _, by simpa using HS.out.fit, by simpa using HO4.out, HB4.out⟩
      case round =>
        obtain ⟨j, ov2, hov2, rfl, hj, hfit, ho5, hb5⟩ := hrel
        obtain rfl := hov2.symm
        have HO5 := Lib.hid ho5
        have HB5 := Lib.hid hb5
        have HFit := Lib.hid hfit
        have HMid : Hid (∀ j, 1 ≤ acc * p ^ j) := Lib.hid (fun j => by rw [HP.out]; exact HS.out.mid HL.out HLt.out j)
        clear ho5 hb5 hfit
        by_cases hjx : j < x.toNat + 1
        · have g1 : (j : Int) < x + 1 := by omega
          have HCn := Lib.hid (canOf_spec (show 0 ≤ acc * p ^ j by have := HMid.out j; omega))
          have HLn : Hid ((canOf (acc * p ^ j)).length ≤ 1000) := Lib.hid (by have := (len_full (show 0 ≤ acc * p ^ j by have := HMid.out j; omega)).2 HFit.out; omega)
          go_wp2_with fail
          refine (implMbs _ (canOf (acc * p ^ j)) p 0 _ HO5.out.rd HCn.out.1 HLn.out (by omega) (by omega) (by omega) (by omega)).mono ?_
          rintro e w6 ⟨r, rfl, ho6, hb6⟩
          have HV2 : Hid (val (canOf (acc * p ^ j)) * p + 0 = acc * p ^ (j + 1)) := Lib.hid (by rw [HCn.out.2, Int.pow_succ, Int.mul_assoc]; omega)
          rw [HV2.out] at ho6
          obtain ⟨a6, c6, rfl⟩ := ho6.slice
          have HO6 := Lib.hid (ho6.mono HB5.out.size (Nat.le_refl _) (Nat.le_refl _))
          have HB6 := Lib.hid (HB5.out.trans (hb6.mono HB5.out.size))
          obtain ⟨L, hL2⟩ : ∃ L, L = (canOf (acc * p ^ (j + 1))).length := ⟨_, rfl⟩
          have HLL := Lib.hid hL2
          rw [← hL2] at HO6 ⊢
          clear ho6 hb6 hL2
          by_cases h40 : L ≤ 40
          · have q1 : ¬ (40 : Int) < (L : Int) := by omega
            have HF6 : Hid (acc * p ^ (j + 1) < Pw 40) := Lib.hid ((len_full (by have := HMid.out (j + 1); omega)).1 (by rw [← HLL.out]; exact h40))
            clear h40
            go_wp2
            go_roundw
            case rel => exact ⟨j + 1, _, rfl, by go_num, by omega, HF6.out, HO6.out, HB6.out⟩
            case measure => simp [intOf]; omega
          · have q1 : (40 : Int) < (L : Int) := by omega
            have HF6 := Lib.hid (pn_full HOK.out (HS.out.full (j := j + 1) HL.out HLt.out (by rw [← HX.out]; omega) (by
              rw [← HP.out]
              rcases Int.lt_or_le (acc * p ^ (j + 1)) (Pw 40) with hz | hz
              · exact absurd ((len_full (by have := HMid.out (j + 1); omega)).2 hz) (by rw [← HLL.out]; exact h40)
              · exact hz)))
            clear h40
            go_wp2
            go_ret2
            exact ⟨_, by rw [HF6.out.2] <;> rfl, by rw [HF6.out.1]; exact Ow.emptyUp HB6.out.size, HB6.out⟩
        · have hje : j = x.toNat + 1 := by omega
          have g1 : ¬ (j : Int) < x + 1 := by omega
          have HN : Hid (PnS zs (k + 1) (acc * p ^ j)) := Lib.hid (by
            have := HS.out.step HL.out HLt.out (by rw [← HX.out, ← HP.out, ← hje]; exact HFit.out)
            rw [← HX.out, ← HP.out, ← hje] at this
            exact this)
          clear hje
          go_wp2
          go_roundw
          case rel => exact ⟨k + 1, acc * p ^ j, _, rfl, by go_num, HN.out, HO5.out, HB5.out⟩
          case measure => simp [intOf]; omega
    · obtain rfl : k = zs.length := by omega
      have hnl : ¬ (zs.length : Int) < (zs.length : Int) := by omega
      have HF := Lib.hid (pn_good HOK.out HS.out.done.2)
      have HT := Lib.hid HS.out.done.1
      go_wp2
      go_ret2
      exact ⟨_, by rw [HF.out.2] <;> rfl, by rw [HF.out.1, HT.out]; exact HO.out, HB3.out⟩
end Go.Proofs.Ytoppaipiibaocaa.Ints
