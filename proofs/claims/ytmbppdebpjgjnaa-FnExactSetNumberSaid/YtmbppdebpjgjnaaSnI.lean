/- Contracts of SetNumber, of the model and of the program. -/
import Derived.Test.YtmbppdebpjgjnaaSnN
namespace Go.Proofs.Ytmbppdebpjgjnaa.Ints
open Go.RowKit
set_option linter.unusedVariables false

set_option maxRecDepth 100000 in
set_option maxHeartbeats 4000000 in
theorem implIsInc (v : Value) (zs : List Int) (w : World) (h : Rd w v zs) (ib : Bool) (hib : ib = true ↔ Inc zs zs.length) :
    Calls Try.prog 81 #[v] w fun e w' => e = .returned (.bool ib) ∧ Below w.heap.size w w' := by
  have HI := Lib.hid hib
  clear hib
  have H := Lib.hid h
  obtain ⟨hl, hf, a, c, rfl, hcap, hr⟩ := h
  have HR := Lib.hid hr
  clear hr
  go_enter Try.func81, Try.ntmps81
  go_wp2
  go_loopw [7] (fun s wr => ∃ k : Nat, k ≤ zs.length ∧ s = .int .i64 k ∧ Inc zs k ∧ Below w.heap.size w wr) (fun s _ => zs.length - (intOf s).toNat)
  case atStart => exact ⟨0, Nat.zero_le _, rfl, (fun i hi => by omega), Below.refl _ _⟩
  case round =>
    obtain ⟨k, hk, rfl, hall, hbel⟩ := hrel
    have HA := Lib.hid hall
    have HB := Lib.hid hbel
    clear hall
    by_cases hlt : k < zs.length
    · obtain ⟨b, o, rfl, hb, hcell⟩ := HR.out (by intro h0; rw [h0] at hlt; simp at hlt)
      obtain ⟨x, hx⟩ : ∃ x, x = zs.getD k 0 := ⟨_, rfl⟩
      have hc : wr.cell? ⟨b, o + k, none⟩ = some (.int .i64 x) := by rw [hx]; exact (hbel.cell hb).trans (hcell k hlt)
      have i0 : (0 : Int) ≤ (k : Int) := by omega
      have i1 : (k : Int) < (zs.length : Int) := by omega
      have HX := Lib.hid hx
      by_cases hk0 : k = 0
      · have hN : Inc zs (k + 1) := fun i hi => by omega
        have HN := Lib.hid hN
        have dz : decide ((0 : Int) < (k : Int)) = false := decide_eq_false (by omega)
        have dz2 : decide (0 < k) = false := decide_eq_false (by omega)
        clear hN hcell hbel hx hk0
        go_wp2
        go_roundw
        case rel => exact ⟨k + 1, by omega, by go_num, HN.out, HB.out⟩
        case measure => simp [intOf]; omega
      · obtain ⟨y, hy⟩ : ∃ y, y = zs.getD (k - 1) 0 := ⟨_, rfl⟩
        have hc2 : wr.cell? ⟨b, o + (k - 1), none⟩ = some (.int .i64 y) := by rw [hy]; exact (hbel.cell hb).trans (hcell (k - 1) (by omega))
        have HY := Lib.hid hy
        have j0 : (0 : Int) ≤ (k : Int) - 1 := by omega
        have j1 : (k : Int) - 1 < (zs.length : Int) := by omega
        have j2 : ((k : Int) - 1).toNat = k - 1 := by omega
        have dz : (0 : Int) < (k : Int) := by omega
        have dz2 : 0 < k := by omega
        by_cases hxy : y < x
        · have hN : Inc zs (k + 1) := HA.out.up (fun _ => by rw [← HX.out, ← HY.out]; exact hxy)
          have HN := Lib.hid hN
          have dx : decide (x ≤ y) = false := decide_eq_false (by omega)
          clear hN hcell hbel hx hy hk0 hxy
          go_wp2
          go_roundw
          case rel => exact ⟨k + 1, by omega, by go_num, HN.out, HB.out⟩
          case measure => simp [intOf]; omega
        · have hF : ib = false := by
            cases hib : ib with
            | false => rfl
            | true =>
              exfalso
              have := (HI.out.1 hib) (k - 1) (by omega)
              rw [show k - 1 + 1 = k by omega, ← HX.out, ← HY.out] at this
              omega
          have HF := Lib.hid hF
          have dx : decide (x ≤ y) = true := decide_eq_true (by omega)
          clear hF hcell hbel hx hy hk0
          go_wp2
          go_ret
          exact ⟨by rw [HF.out] <;> rfl, HB.out⟩
    · obtain rfl : k = zs.length := by omega
      have HT := Lib.hid (HI.out.2 HA.out)
      have HBB := Lib.hid hbel
      have i1 : ¬ (zs.length : Int) < (zs.length : Int) := by omega
      clear hbel
      go_wp2
      go_ret
      exact ⟨by rw [HT.out] <;> rfl, HBB.out⟩

set_option maxRecDepth 100000 in
set_option maxHeartbeats 4000000 in
theorem implIsSet (v : Value) (zs : List Int) (w : World) (h : Rd w v zs) :
    Calls Try.prog 56 #[v] w fun e w' => e = .returned (.bool (riseB zs)) ∧ Below w.heap.size w w' := by
  have H := Lib.hid h
  obtain ⟨hl, hf, a, c, rfl, hcap, hr⟩ := h
  clear hr
  obtain ⟨ib, hib⟩ : ∃ ib : Bool, (ib = true ↔ Inc zs zs.length) := by
    classical
    exact ⟨decide (Inc zs zs.length), by simp⟩
  have HI := Lib.hid hib
  clear hib
  go_enter Try.func56, Try.ntmps56
  go_wp2_with fail
  refine (implIsInc _ zs _ H.out ib HI.out).mono ?_
  rintro e w1 ⟨rfl, hb⟩
  have HB := Lib.hid hb
  clear hb
  rcases eqOr ib with hb | hb
  · subst hb
    have hF : riseB zs = false := riseB_inc fun q => by simpa using HI.out.2 q
    have HF := Lib.hid hF
    clear hF
    go_wp2
    go_ret
    exact ⟨by rw [HF.out] <;> rfl, HB.out⟩
  subst hb
  have HT := Lib.hid (riseB_split (HI.out.1 rfl))
  go_wp2_with fail
  refine (areBelow_any _ zs 800 _ (H.out.below HB.out (Nat.le_refl _))).mono ?_
  rintro e w2 ⟨rfl, hb⟩
  have HBB := Lib.hid (HB.out.trans (hb.mono HB.out.size))
  rw [← HT.out]
  clear hb
  go_wp2
  go_ret
  exact ⟨rfl, HBB.out⟩

set_option maxRecDepth 100000 in
set_option maxHeartbeats 4000000 in
theorem implSetNumber (v : Value) (zs : List Int) (w : World) (h : Rd w v zs) :
    Calls Try.prog 30 #[v] w fun e w' => ∃ r, e = .returned (.tuple #[r, .int .i64 (snC zs)]) ∧ Ow w' w.heap.size w'.heap.size r (snL zs) ∧ Below w.heap.size w w' := by
  have H := Lib.hid h
  obtain ⟨hl, hf, a, c, rfl, hcap, hr⟩ := h
  clear hr
  rcases eqOr (riseB zs) with hx | hx
  · have HX := Lib.hid hx
    have HS := Lib.hid (sn_bad hx)
    clear hx
    go_enter Try.func30, Try.ntmps30
    go_wp2_with fail
    refine (implIsSet _ zs _ H.out).mono ?_
    rintro e w1 ⟨rfl, hb⟩
    rw [HX.out]
    have HB := Lib.hid hb
    clear hb
    go_wp2
    go_ret2
    exact ⟨_, by rw [HS.out.2] <;> rfl, by rw [HS.out.1]; exact Ow.emptyUp HB.out.size, HB.out⟩
  have HX := Lib.hid hx
  have HS := Lib.hid (sn_good hx)
  have HD := Lib.hid (riseB_iff hx)
  clear hx
  obtain ⟨i0, hi, hz0, hz1, hz2⟩ := info_parts infoE
  obtain ⟨N, hN⟩ : ∃ N : Nat, N = 800 := ⟨_, rfl⟩
  have hN1 : (N : Int) ≤ 800 := by omega
  have hN2 : (800 : Int) ≤ N := by omega
  have HNN := Lib.hid hN
  clear hN
  go_enter Try.func30, Try.ntmps30
  go_wp2_with fail
  refine (implIsSet _ zs _ H.out).mono ?_
  rintro e w1 ⟨rfl, hb⟩
  rw [HX.out]
  have HB := Lib.hid hb
  have H1 := Lib.hid (H.out.below hb (Nat.le_refl _))
  clear hb
  go_wp2_with (at_make; refine wpList_make_full _ rfl _ _ 22 rfl w1.heap.size 2 i0 (.int .i64 0) 1 Try.underlying22 hi hz0 hz1 _ _ _ _ N rfl rfl ?hL ?hC ?b2 ?b3 (Nat.le_refl _) ?_)
  case hL => omega
  case hC => omega
  case b2 => first | omega | (rw [hz2]; omega)
  case b3 => unfold maxLen; omega
  intro w4 hown0 hgrow0
  have hk0 := Blk.zeros hown0
  rw [← snZ_zero zs N] at hk0
  have HK0 := Lib.hid hk0
  have HB3 := Lib.hid ((Below.refl w1.heap.size w1).grown hgrow0 (Nat.le_refl _) (fun k h => by cases h))
  clear hown0 hgrow0 hk0
  go_wp2
  go_loopw [13] (fun s wr => ∃ (k : Nat), k ≤ zs.length ∧ s = .int .i64 k ∧ Blk wr w1.heap.size N (snZ zs k N) ∧ Below w1.heap.size w1 wr) (fun s _ => zs.length - (intOf s).toNat)
  case atStart => exact ⟨0, Nat.zero_le _, rfl, HK0.out, HB3.out⟩
  case round =>
    obtain ⟨k, hk, rfl, hblk, hbel⟩ := hrel
    have HBL := Lib.hid hbel
    have HBK := Lib.hid hblk
    by_cases hlt : k < zs.length
    · obtain ⟨_, _, a2, c2, he, _, hr⟩ := H1.out.below hbel (Nat.le_refl _)
      obtain ⟨gx, ox, ha, hbx, hcell⟩ := hr (by intro h0; rw [h0] at hlt; simp at hlt)
      simp only [Value.slice.injEq] at he
      obtain ⟨rfl, _, rfl⟩ := he
      subst ha
      have cx := hcell k hlt
      have hxb := HD.out.2 k hlt
      obtain ⟨x, hx⟩ : ∃ x : Nat, (x : Int) = zs.getD k 0 := ⟨(zs.getD k 0).toNat, by omega⟩
      rw [← hx] at cx hxb
      have HE : Hid ((snZ zs k N).set x 1 = snZ zs (k + 1) N) := Lib.hid (snZ_set hx.symm)
      have hlen := snZ_len zs k N
      have i0' : (0 : Int) ≤ (k : Int) := by omega
      have i1 : (k : Int) < (zs.length : Int) := by omega
      have i2 : (0 : Int) ≤ (x : Int) := by omega
      have i3 : (x : Int) < (N : Int) := by omega
      obtain ⟨z, hz⟩ : ∃ z, z = (snZ zs k N).getD x 0 := ⟨_, rfl⟩
      have cz : wr.cell? ⟨w1.heap.size, x, none⟩ = some (.int .i64 z) := by rw [hz]; exact hblk.cell _ (by rw [hlen]; omega)
      have fz := hblk.frozen x
      have HN := Lib.hid (hblk.set x (by rw [hlen]; omega) 1).1
      have HNB := Lib.hid (hbel.setCell (p := ⟨w1.heap.size, x, none⟩) (Nat.le_refl _) (.int .i64 1))
      clear hcell hr hx hblk hbel hz hlen hxb
      go_wp2
      go_roundw
      case rel => exact ⟨k + 1, by omega, by go_num, by rw [← HE.out]; exact HN.out, HNB.out⟩
      case measure => simp [intOf]; omega
    · obtain rfl : k = zs.length := by omega
      have i1 : ¬ (zs.length : Int) < (zs.length : Int) := by omega
      have HRD := Lib.hid (hblk.rd (snZ_len zs zs.length N) (by omega) (Dig.fit (fun i hi => by have := snZ_dig zs zs.length N i hi; omega)))
      have HBF := Lib.hid (HB.out.trans (hbel.mono HB.out.size))
      have HS1 : Hid (snL zs = fgL (snZ zs zs.length N) 2) := Lib.hid (by rw [HNN.out]; exact HS.out.1)
      have HS2 : Hid (snC zs = fgC (snZ zs zs.length N) 2) := Lib.hid (by rw [HNN.out]; exact HS.out.2)
      clear hblk hbel
      go_wp2_with fail
      refine (implFromDigits _ (snZ zs zs.length N) 2 _ HRD.out).mono ?_
      rintro e w5 ⟨r, rfl, ho, hb⟩
      have HBG := Lib.hid (HBF.out.trans (hb.mono HBF.out.size))
      have HOG := Lib.hid (ho.mono (B' := w.heap.size) HBF.out.size (Nat.le_refl _) (Nat.le_refl _))
      obtain ⟨ra, rc, hrs⟩ := ho.shape
      clear ho hb
      obtain ⟨Q, hQ⟩ : ∃ Q, Q = fgL (snZ zs zs.length N) 2 := ⟨_, rfl⟩
      obtain ⟨q, hq⟩ : ∃ q, q = fgC (snZ zs zs.length N) 2 := ⟨_, rfl⟩
      rw [← hQ] at hrs HOG HS1
      rw [← hq] at HS2 ⊢
      clear hQ hq
      subst hrs
      go_wp2
      go_ret2
      exact ⟨_, by rw [HS2.out] <;> rfl, by rw [HS1.out]; exact HOG.out, HBG.out⟩
end Go.Proofs.Ytmbppdebpjgjnaa.Ints
