/- Products of powers of primes, of the model. -/
import Derived.Test.YtoppaipiibaocaaPnV
import Derived.Test.YtoppaipiibaocaaRevN
import Derived.Test.YtoppaipiibaocaaIn
import Derived.Deep.RegionHeld3
namespace Go.Proofs.Ytoppaipiibaocaa.Ints
open Go.RowKit
open Math (prA prA_in specPrimeAt)
set_option linter.unusedVariables false
set_option linter.unusedSimpArgs false
set_option maxRecDepth 100000 in
set_option maxHeartbeats 8000000 in
theorem specPn (v : Value) (zs : List Int) (w : World) (h : Rd w v zs) :
    Calls Try.prog 13 #[v] w fun e w' => ∃ r, e = .returned (.tuple #[r, .int .i64 (pnC zs)]) ∧ Ow w' w.heap.size w'.heap.size r (pnL zs) ∧ Below w.heap.size w w' := by
  have HV := Lib.hid h
  obtain ⟨hl, hf, a, c, rfl, hcap, hr⟩ := h
  by_cases hlen : zs.length ≤ 24
  rotate_left
  · have HF := Lib.hid (pn_bad (pnOk_long hlen))
    have f1 : (24 : Int) < (zs.length : Int) := by omega
    have f2 : decide ((24 : Int) < (zs.length : Int)) = true := decide_eq_true f1
    clear hr hlen
    go_enter Try.func13, Try.ntmps13
    go_wp2
    go_ret2
    exact ⟨_, by rw [HF.out.2] <;> rfl, by rw [HF.out.1]; exact Ow.empty w, Below.refl _ _⟩
  have f1 : ¬ (24 : Int) < (zs.length : Int) := by omega
  have f2 : decide ((24 : Int) < (zs.length : Int)) = false := decide_eq_false f1
  have HL := Lib.hid hlen
  have HR := Lib.hid hr
  clear hr hlen
  go_enter Try.func13, Try.ntmps13
  go_wp2
  go_loop [4] (fun s => ∃ k : Nat, k ≤ zs.length ∧ s = .int .i64 k ∧ ∀ i, i < k → 0 ≤ zs.getD i 0 ∧ zs.getD i 0 < 801) (fun s => zs.length - (intOf s).toNat)
  case atStart => exact ⟨0, Nat.zero_le _, rfl, fun i hi => by omega⟩
  case round =>
    obtain ⟨k, hk, rfl, hall⟩ := hrel
    have HA := Lib.hid hall
    clear hall
    by_cases hlt : k < zs.length
    · obtain ⟨bb, o, rfl, hb, hcell⟩ := HR.out (by intro h0; rw [h0] at hlt; simp at hlt)
      have hc := hcell k hlt
      obtain ⟨x, hx⟩ : ∃ x, x = zs.getD k 0 := ⟨_, rfl⟩
      rw [← hx] at hc
      have HX := Lib.hid hx
      have i0' : (0 : Int) ≤ (k : Int) := by omega
      have i1 : (k : Int) < (zs.length : Int) := by omega
      clear hcell hx
      by_cases hg : 0 ≤ x ∧ x ≤ 800
      · have HN : Hid (∀ i, i < k + 1 → 0 ≤ zs.getD i 0 ∧ zs.getD i 0 < 801) := Lib.hid (fun i hi => by
          by_cases he : i = k
          · subst he; rw [← HX.out]; omega
          · exact HA.out i (by omega))
        have HG := Lib.hid hg
        clear hg
        go_wp2_with fail
        refine (specInB x 0 800 true _ ⟨fun _ => HG.out, fun _ => rfl⟩).mono ?_
        rintro e w' ⟨rfl, rfl⟩
        go_wp2
        go_round
        case rel => exact ⟨k + 1, by omega, by go_num, HN.out⟩
        case measure => simp [intOf]; omega
      · have HF := Lib.hid (pn_bad (pnOk_dig (zs := zs) (digB_false fun H => hg (by have := H k hlt; rw [← HX.out] at this; omega))))
        have HG := Lib.hid hg
        clear hg
        go_wp2_with fail
        refine (specInB x 0 800 false _ ⟨fun h => (by cases h), fun h => absurd h HG.out⟩).mono ?_
        rintro e w' ⟨rfl, rfl⟩
        go_wp2
        go_ret2
        exact ⟨_, by rw [HF.out.2] <;> rfl, by rw [HF.out.1]; exact Ow.empty _, Below.refl _ _⟩
    · obtain rfl : k = zs.length := by omega
      have HDg : Hid (Dig 801 zs) := Lib.hid (fun i hi => HA.out i hi)
      have HOK := Lib.hid (pnOk_yes HL.out HDg.out)
      have hnl : ¬ (zs.length : Int) < (zs.length : Int) := by omega
      have H1 := Lib.hid (Ow.one w 1 (by omega) (by omega))
      have HC1 : Hid (canOf 1 = [1]) := Lib.hid (canOf_eq (powP_can (ps := []) can_nil 0) (by simp [val]))
      clear hlt
      go_wp2
      go_loopw [5, 6] (fun o x wr => ∃ (k : Nat) (acc : Int) (ov : Value), o = ov ∧ x = .int .i64 k ∧ PnS zs k acc ∧ Ow wr w.heap.size wr.heap.size ov (canOf acc) ∧ Below w.heap.size w wr) (fun _ x _ => zs.length - (intOf x).toNat)
      case atStart => exact ⟨0, 1, _, rfl, rfl, PnS.start zs, by rw [HC1.out]; exact H1.out.up, (Below.refl _ _).alloc (Nat.le_refl _) _⟩
      case round =>
        obtain ⟨k, acc, ov, hov, rfl, hS, ho, hb⟩ := hrel
        obtain rfl := hov.symm
        have HS := Lib.hid hS
        have HO := Lib.hid ho
        have HB3 := Lib.hid hb
        have hk := hS.le
        have hL := HL.out
        clear hS ho hb
        by_cases hlt : k < zs.length
        · obtain ⟨bb, o, rfl, hbb, hcell⟩ := HR.out (by intro h0; rw [h0] at hlt; simp at hlt)
          obtain ⟨x, hx⟩ : ∃ x, x = zs.getD k 0 := ⟨_, rfl⟩
          have hc : wr.cell? ⟨bb, o + k, none⟩ = some (.int .i64 x) := by rw [hx]; exact (HB3.out.cell hbb).trans (hcell k hlt)
          have HCELL := Lib.hid hc
          have HBB : Hid (bb < w.heap.size) := Lib.hid hbb
          obtain ⟨x0, x1⟩ := HDg.out k hlt
          rw [← hx] at x0 x1
          obtain ⟨e, he⟩ : ∃ e : Nat, e = x.toNat + 1 := ⟨_, rfl⟩
          have hxe : x + 1 = (e : Int) := by omega
          have he9 : e ≤ 801 := by omega
          have HWE : Hid (IntKind.i64.wrap (e : Int) = (e : Int)) := Lib.hid (by rw [IntKind.wrap_i64]; omega)
          obtain ⟨p, hp⟩ : ∃ p, p = (prA k : Int) := ⟨_, rfl⟩
          have hp2 := prA_two (k := k) (by omega)
          rw [← hp] at hp2
          obtain ⟨p0, p1⟩ := hp2
          have HP := Lib.hid hp
          have HPe : Hid (e = (zs.getD k 0).toNat + 1) := Lib.hid (by rw [he, hx])
          have i0' : (0 : Int) ≤ (k : Int) := by omega
          have i1 : (k : Int) < (zs.length : Int) := by omega
          have HLt := Lib.hid hlt
          have HLc := Lib.hid (limbs_can (n := p) (by omega))
          have HLl : Hid ((limbs p).length ≤ 40) := Lib.hid (can_len HLc.out.1 (by rw [HLc.out.2]; exact Int.lt_of_le_of_lt (show p ≤ 89 by omega) (by decide)))
          obtain ⟨b, hbp⟩ : ∃ b, b = powB (limbs p) e := ⟨_, rfl⟩
          have HBp := Lib.hid hbp
          have HTT : Hid (Below wr.heap.size wr wr.drew) := Lib.hid (Below.refl _ _).drew
          have HS9 : Hid (∀ W, Below wr.heap.size wr W → W.cell? ⟨bb, o + k, none⟩ = some (.int .i64 x)) := Lib.hid (fun W hW => (hW.cell (p := ⟨bb, o + k, none⟩) (Nat.lt_of_lt_of_le hbb HB3.out.size)).trans hc)
          clear hcell hx hp hbp he hc
          go_wp2_with fail
          go_region_held3 (fun w' => w'.cell? ⟨bb, o + k, none⟩ = some (.int .i64 x))
            (exact HS9.out _ HTT.out)
            (first
              | (go_at_call 48; with_reducible refine (specPrimeAt k _ (by omega)).mono ?_; rintro e3 w3 ⟨rfl, rfl⟩; rw [← HP.out])
              | (go_at_call 50; with_reducible refine (specLimbs p _ (by omega) (by omega)).mono ?_; rintro e3 w3 ⟨ua, rfl, ho3, hb3⟩; replace HTT := Lib.hid (HTT.out.trans (hb3.mono HTT.out.size)); have XA := Lib.hid ho3; clear ho3 hb3)
              | (go_at_call 49; (try rw [hxe]); (try rw [HWE.out]); with_reducible refine (specPowLoop _ (limbs p) e _ XA.out.rd HLc.out.1 HLl.out (by omega)).mono ?_; rintro e3 w3 ⟨ub, rfl, ho3, hb3⟩; rw [← HBp.out]; replace HTT := Lib.hid (HTT.out.trans (hb3.mono HTT.out.size)); have XB := Lib.hid ho3; clear ho3 hb3))
          all_goals
            cases b with
            | false =>
              have HF : Hid (pnL zs = [] ∧ pnC zs = 5) := Lib.hid (by
                obtain ⟨j, hj, hfl⟩ := powB_no HBp.out.symm
                rw [powP_canOf HLc.out.1, HLc.out.2] at hfl
                refine pn_full HOK.out (HS.out.full2 (j := j) HL.out HLt.out (by rw [← HPe.out]; exact hj) ?_)
                rw [← HP.out]
                rcases Int.lt_or_le (p ^ j) (Pw 40) with hz | hz
                · exact absurd ((len_full (by have := pow_one_le (p := p) (by omega) j; omega)).2 hz) hfl
                · exact hz)
              go_wp2
              go_ret2
              exact ⟨_, by rw [HF.out.2] <;> rfl, by rw [HF.out.1]; exact Ow.emptyUp (Nat.le_trans HB3.out.size HTT.out.size), HB3.out.trans (HTT.out.mono HB3.out.size)⟩
            | true =>
              have HZ : Hid (powZ (limbs p) e = canOf (p ^ e)) := Lib.hid (by
                rw [powZ, if_pos HBp.out.symm, powP_canOf HLc.out.1, HLc.out.2])
              have XB2 := XB.out
              rw [HZ.out] at XB2
              have HCp := Lib.hid (canOf_spec (show 0 ≤ p ^ e by have := pow_one_le (p := p) (by omega) e; omega))
              have HCa := Lib.hid (canOf_spec (show 0 ≤ acc by have := HS.out.pos; omega))
              have HLa : Hid ((canOf acc).length ≤ 1000) := Lib.hid (by have := (len_full (show 0 ≤ acc by have := HS.out.pos; omega)).2 HS.out.fit; omega)
              have HLp : Hid ((canOf (p ^ e)).length ≤ 1000) := Lib.hid (by
                have h1 : powB (limbs p) e = true := HBp.out.symm
                have h2 : PowOk (limbs p) e := by simpa [powB] using h1
                have := h2 e (Nat.le_refl _)
                rw [powP_canOf HLc.out.1, HLc.out.2] at this
                omega)
              have XB3 := Lib.hid XB2
              clear XB2 XB
              go_wp2_with fail
              refine (specMul _ _ (canOf acc) (canOf (p ^ e)) _ (HO.out.below HTT.out (Nat.le_refl _)).rd XB3.out.rd HCa.out.1 HCp.out.1 HLa.out HLp.out).mono ?_
              rintro e5 w5 ⟨r, rfl, ho5, hb5⟩
              rw [HCa.out.2, HCp.out.2] at ho5
              obtain ⟨a5, c5, rfl⟩ := ho5.slice
              have HB5 := Lib.hid (HB3.out.trans ((HTT.out.trans (hb5.mono HTT.out.size)).mono HB3.out.size))
              have HO5 := Lib.hid (ho5.mono (Nat.le_trans HB3.out.size HTT.out.size) (Nat.le_refl _) (Nat.le_refl _))
              obtain ⟨L, hL2⟩ : ∃ L, L = (canOf (acc * p ^ e)).length := ⟨_, rfl⟩
              have HLL := Lib.hid hL2
              have HMid : Hid (1 ≤ acc * p ^ e) := Lib.hid (by rw [HP.out]; exact HS.out.mid HL.out HLt.out e)
              rw [← hL2]
              rw [← hL2] at HO5
              clear ho5 hb5 hL2
              by_cases h40 : L ≤ 40
              · have q1 : ¬ (40 : Int) < (L : Int) := by omega
                have HF6 : Hid (acc * p ^ e < Pw 40) := Lib.hid ((len_full (by have := HMid.out; omega)).1 (by rw [← HLL.out]; exact h40))
                have HN : Hid (PnS zs (k + 1) (acc * p ^ e)) := Lib.hid (by
                  have := HS.out.step HL.out HLt.out (by rw [← HPe.out, ← HP.out]; exact HF6.out)
                  rw [← HPe.out, ← HP.out] at this
                  exact this)
                clear h40
                go_wp2
                go_roundw
                case rel => exact ⟨k + 1, acc * p ^ e, _, rfl, by go_num, HN.out, HO5.out, HB5.out⟩
                case measure => simp [intOf]; omega
              · have q1 : (40 : Int) < (L : Int) := by omega
                have HF6 := Lib.hid (pn_full HOK.out (HS.out.full (j := e) HL.out HLt.out (by rw [← HPe.out]; exact Nat.le_refl _) (by
                  rw [← HP.out]
                  rcases Int.lt_or_le (acc * p ^ e) (Pw 40) with hz | hz
                  · exact absurd ((len_full (by have := HMid.out; omega)).2 hz) (by rw [← HLL.out]; exact h40)
                  · exact hz)))
                clear h40
                go_wp2
                go_ret2
                exact ⟨_, by rw [HF6.out.2] <;> rfl, by rw [HF6.out.1]; exact Ow.emptyUp HB5.out.size, HB5.out⟩
        · obtain rfl : k = zs.length := by omega
          have hnl : ¬ (zs.length : Int) < (zs.length : Int) := by omega
          have HF := Lib.hid (pn_good HOK.out HS.out.done.2)
          have HT := Lib.hid HS.out.done.1
          go_wp2
          go_ret2
          exact ⟨_, by rw [HF.out.2] <;> rfl, by rw [HF.out.1, HT.out]; exact HO.out, HB3.out⟩
end Go.Proofs.Ytoppaipiibaocaa.Ints
