/- The contract of the program's WeaveNaturals. -/
import Derived.Test.YtmbppdebpjgjnaaWvS
namespace Go.Proofs.Ytmbppdebpjgjnaa.Ints
open Go.RowKit
set_option linter.unusedVariables false

theorem Dig.fit10 {Z : List Int} (h : Dig 10 Z) : Fit Z := Dig.fit (fun i hi => by have := h i hi; omega)
theorem Blk.rd {w : World} {g K : Nat} {Z : List Int} (h : Blk w g K Z) (hl : Z.length = K) (hK : K ≤ 16777216) (hf : Fit Z) : Rd w (.slice (some ⟨g, 0, none⟩) K K) Z :=
  ⟨by omega, hf, some ⟨g, 0, none⟩, K, by rw [hl], by omega, fun _ => ⟨g, 0, rfl, h.lt, fun i hi => by rw [Nat.zero_add]; exact h.cell i hi⟩⟩
set_option maxRecDepth 100000 in
set_option maxHeartbeats 8000000 in
theorem implWeave (u : Value) (ps : List Int) (v : Value) (qs : List Int) (w : World) (hu : Rd w u ps) (hv : Rd w v qs) :
    Calls Try.prog 28 #[u, v] w fun e w' => ∃ r, e = .returned (.tuple #[r, .int .i64 (weC ps qs)]) ∧ Ow w' w.heap.size w'.heap.size r (weL ps qs) ∧ Below w.heap.size w w' := by
  have hb0 : Below w.heap.size w (w.alloc (Obj.cells #[u, v] 22)) := (Below.refl _ _).alloc (Nat.le_refl _) _
  have HU := Lib.hid (hu.below hb0 (Nat.le_refl _))
  have HV := Lib.hid (hv.below hb0 (Nat.le_refl _))
  have H0 : Hid ((w.alloc (Obj.cells #[u, v] 22)).cell? ⟨w.heap.size, 0, none⟩ = some u) := Lib.hid (by simp [World.cell?_alloc_at])
  have H1 : Hid ((w.alloc (Obj.cells #[u, v] 22)).cell? ⟨w.heap.size, 1, none⟩ = some v) := Lib.hid (by simp [World.cell?_alloc_at])
  have HS : Hid (w.heap.size < (w.alloc (Obj.cells #[u, v] 22)).heap.size) := Lib.hid (by simp)
  have HB0 := Lib.hid hb0
  obtain ⟨_, _, a, c, rfl, _, _⟩ := hu
  obtain ⟨_, _, a', c', rfl, _, _⟩ := hv
  clear hb0
  rcases eq_or (natB ps && natB qs) with hx | hx
  · have HX := Lib.hid hx
    have HR := Lib.hid (we_bad (ps := ps) (qs := qs) (fun h => by rw [h.1, h.2] at hx; cases hx))
    clear hx
    go_enter Try.func28, Try.ntmps28
    go_wp2_with (go_at_call 40; refine (areTwo _ _ _ ps qs _ HU.out HV.out H0.out H1.out HS.out).mono ?_; rintro e w1 ⟨rfl, hb⟩; rw [HX.out]; have HB := Lib.hid (HB0.out.trans (hb.mono (by simp))); clear hb)
    go_ret2
    exact ⟨_, by rw [HR.out.2] <;> rfl, by rw [HR.out.1]; exact Ow.emptyUp HB.out.size, HB.out⟩
  have HX := Lib.hid hx
  have hxy : natB ps = true ∧ natB qs = true := by simpa using hx
  obtain ⟨hpx, hqx⟩ := hxy
  have hpc := natB_can hpx
  have hqc := natB_can hqx
  obtain ⟨r1, r2, _, _⟩ := we_good hpx hqx
  have hX1 := dg_ten hpc.1 hpc.2
  have hY1 := dg_ten hqc.1 hqc.2
  have hXd := dgN_dig ps (p := 10) (by omega)
  have hYd := dgN_dig qs (p := 10) (by omega)
  have HD1 := Lib.hid (dg_good (p := 10) hpx (by omega))
  have HD2 := Lib.hid (dg_good (p := 10) hqx (by omega))
  rw [wvD] at r1 r2
  obtain ⟨X, hX⟩ : ∃ X, X = dgN ps 10 := ⟨_, rfl⟩
  obtain ⟨Y, hY⟩ : ∃ Y, Y = dgN qs 10 := ⟨_, rfl⟩
  have HXX := Lib.hid hX
  have HYY := Lib.hid hY
  rw [← hX] at hX1 hXd r1 r2
  rw [← hY] at hY1 hYd r1 r2
  obtain ⟨M, hM⟩ : ∃ M, M = wvM X Y := ⟨_, rfl⟩
  rw [← hM] at r1 r2
  have hM1 : X.length ≤ M ∧ Y.length ≤ M ∧ (M = X.length ∨ M = Y.length) := by rw [hM, wvM]; omega
  obtain ⟨m1, m2, m3⟩ := hM1
  have HMM := Lib.hid hM
  have HR1 := Lib.hid r1
  have HR2 := Lib.hid r2
  have HXD := Lib.hid hXd
  have HYD := Lib.hid hYd
  have HDIG := Lib.hid (wvN_dig (show (0 : Int) < 10 by omega) hXd hYd)
  clear hx hpx hqx hX hY hM r1 r2 hpc hqc hXd hYd
  obtain ⟨i0, hi, hz0, hz1, hz2⟩ := info_parts infoE
  by_cases hmx : X.length < Y.length
  · have hmm : M = Y.length := by omega
    have HMM2 := Lib.hid hmm
    clear hmm
    go_enter Try.func28, Try.ntmps28
    go_wp2_with fail
    refine (areTwo _ _ _ ps qs _ HU.out HV.out H0.out H1.out HS.out).mono ?_
    rintro e w1 ⟨rfl, hb⟩
    rw [HX.out]
    have HU3 := Lib.hid (HU.out.below hb (Nat.le_refl _))
    have HV3 := Lib.hid (HV.out.below hb (Nat.le_refl _))
    have HB := Lib.hid (HB0.out.trans (hb.mono (by simp)))
    clear hb
    go_wp2_with fail
    refine (implDigitsOf _ ps 10 _ HU3.out).mono ?_
    rintro e w2 ⟨r, rfl, ho, hb⟩
    rw [HD1.out.1, ← HXX.out] at ho
    rw [HD1.out.2]
    have HO1 := Lib.hid ho.rd
    have HB1 := Lib.hid (HB.out.trans (hb.mono HB.out.size))
    have HV4 := Lib.hid (HV3.out.below hb (Nat.le_refl _))
    obtain ⟨xa, xc, rfl⟩ := ho.shape
    clear ho hb
    go_wp2_with fail
    refine (implDigitsOf _ qs 10 _ HV4.out).mono ?_
    rintro e w3 ⟨r, rfl, ho, hb⟩
    rw [HD2.out.1, ← HYY.out] at ho
    rw [HD2.out.2]
    have HO2 := Lib.hid ho.rd
    have HO1b := Lib.hid (HO1.out.below hb (Nat.le_refl _))
    have HB2 := Lib.hid (HB1.out.trans (hb.mono HB1.out.size))
    obtain ⟨ya, yc, rfl⟩ := ho.shape
    clear ho hb
    go_wp2_with (at_make; refine wpList_make_full _ rfl _ _ 22 rfl w3.heap.size 2 i0 (.int .i64 0) 1 Try.underlying22 hi hz0 hz1 _ _ _ _ (2 * M) rfl rfl ?hLa ?hCa ?b2a ?b3a (Nat.le_refl _) ?_)
    case hLa => omega
    case hCa => omega
    case b2a => first | omega | (rw [hz2]; omega)
    case b3a => unfold maxLen; omega
    intro w4 hown0 hgrow0
    have hk0 := Blk.zeros hown0
    rw [← wvL_zero X Y M] at hk0
    have HK0 := Lib.hid hk0
    have HB3 := Lib.hid ((Below.refl w3.heap.size w3).grown hgrow0 (Nat.le_refl _) (fun k h => by cases h))
    clear hown0 hgrow0 hk0
    go_wp2
    go_loopw [39] (fun s wr => ∃ (k : Nat), k ≤ X.length ∧ s = .int .i64 k ∧ Blk wr w3.heap.size (2 * M) (wvL X Y M k 0) ∧ Below w3.heap.size w3 wr) (fun s _ => X.length - (intOf s).toNat)
    case atStart => exact ⟨0, Nat.zero_le _, rfl, HK0.out, HB3.out⟩
    case round =>
      obtain ⟨k, hk, rfl, hblk, hbel⟩ := hrel
      have HBL := Lib.hid hbel
      have HBK := Lib.hid hblk
      by_cases hlt : k < X.length
      · obtain ⟨_, _, a2, c2, he, _, hr⟩ := HO1b.out.below hbel (Nat.le_refl _)
        obtain ⟨gx, ox, ha, hbx, hcell⟩ := hr (by intro h0; rw [h0] at hlt; simp at hlt)
        simp only [Value.slice.injEq] at he
        obtain ⟨rfl, _, rfl⟩ := he
        subst ha
        have cx := hcell k hlt
        obtain ⟨x, hx⟩ : ∃ x, x = X.getD k 0 := ⟨_, rfl⟩
        rw [← hx] at cx
        have HE : Hid ((wvL X Y M k 0).set (2 * k) x = wvL X Y M (k + 1) 0) := Lib.hid (by rw [hx]; exact wvL_x X Y M k 0)
        have hlen := wvL_len X Y M k 0
        have i0' : (0 : Int) ≤ (k : Int) := by omega
        have i1 : (k : Int) < (X.length : Int) := by omega
        have i2 : (0 : Int) ≤ 2 * (k : Int) := by omega
        have i3 : 2 * (k : Int) < ((2 * M : Nat) : Int) := by omega
        obtain ⟨z, hz⟩ : ∃ z, z = (wvL X Y M k 0).getD (2 * k) 0 := ⟨_, rfl⟩
        have cz : wr.cell? ⟨w3.heap.size, 2 * k, none⟩ = some (.int .i64 z) := by rw [hz]; exact hblk.cell _ (by rw [hlen]; omega)
        have fz := hblk.frozen (2 * k)
        have HN := Lib.hid (hblk.set (2 * k) (by rw [hlen]; omega) x).1
        have HNB := Lib.hid (hbel.setCell (p := ⟨w3.heap.size, 2 * k, none⟩) (Nat.le_refl _) (.int .i64 x))
        clear hcell hr hx hblk hbel hz
        go_wp2
        go_roundw
        case rel => exact ⟨k + 1, by omega, by go_num, by rw [← HE.out]; exact HN.out, HNB.out⟩
        case measure => simp [intOf]; omega
      · obtain rfl : k = X.length := by omega
        have i1 : ¬ (X.length : Int) < (X.length : Int) := by omega
        clear hblk hbel
        go_wp2
        go_loopw [52] (fun s wr => ∃ (k : Nat), k ≤ Y.length ∧ s = .int .i64 k ∧ Blk wr w3.heap.size (2 * M) (wvL X Y M X.length k) ∧ Below w3.heap.size w3 wr) (fun s _ => Y.length - (intOf s).toNat)
        case atStart => exact ⟨0, Nat.zero_le _, rfl, HBK.out, HBL.out⟩
        case round =>
          obtain ⟨k, hk, rfl, hblk, hbel⟩ := hrel
          have HBL2 := Lib.hid hbel
          have HBK2 := Lib.hid hblk
          by_cases hlt2 : k < Y.length
          · obtain ⟨_, _, a2, c2, he, _, hr⟩ := HO2.out.below hbel (Nat.le_refl _)
            obtain ⟨gx, ox, ha, hbx, hcell⟩ := hr (by intro h0; rw [h0] at hlt2; simp at hlt2)
            simp only [Value.slice.injEq] at he
            obtain ⟨rfl, _, rfl⟩ := he
            subst ha
            have cx := hcell k hlt2
            obtain ⟨x, hx⟩ : ∃ x, x = Y.getD k 0 := ⟨_, rfl⟩
            rw [← hx] at cx
            have HE : Hid ((wvL X Y M X.length k).set (2 * k + 1) x = wvL X Y M X.length (k + 1)) := Lib.hid (by rw [hx]; exact wvL_y X Y M X.length k)
            have hlen := wvL_len X Y M X.length k
            have i0' : (0 : Int) ≤ (k : Int) := by omega
            have i1 : (k : Int) < (Y.length : Int) := by omega
            have i2 : (0 : Int) ≤ 2 * (k : Int) + 1 := by omega
            have i3 : 2 * (k : Int) + 1 < ((2 * M : Nat) : Int) := by omega
            obtain ⟨z, hz⟩ : ∃ z, z = (wvL X Y M X.length k).getD (2 * k + 1) 0 := ⟨_, rfl⟩
            have cz : wr.cell? ⟨w3.heap.size, 2 * k + 1, none⟩ = some (.int .i64 z) := by rw [hz]; exact hblk.cell _ (by rw [hlen]; omega)
            have fz := hblk.frozen (2 * k + 1)
            have HN := Lib.hid (hblk.set (2 * k + 1) (by rw [hlen]; omega) x).1
            have HNB := Lib.hid (hbel.setCell (p := ⟨w3.heap.size, 2 * k + 1, none⟩) (Nat.le_refl _) (.int .i64 x))
            clear hcell hr hx hblk hbel hz
            go_wp2
            go_roundw
            case rel => exact ⟨k + 1, by omega, by go_num, by rw [← HE.out]; exact HN.out, HNB.out⟩
            case measure => simp [intOf]; omega
          · obtain rfl : k = Y.length := by omega
            have i1' : ¬ (Y.length : Int) < (Y.length : Int) := by omega
            rw [wvL_done] at hblk
            have HRD := Lib.hid (hblk.rd (wvN_len X Y M) (by omega) (HDIG.out M).fit10)
            have HBF := Lib.hid (HB2.out.trans (hbel.mono HB2.out.size))
            clear hblk hbel
            go_wp2_with fail
            refine (implFromDigits _ (wvN X Y M) 10 _ HRD.out).mono ?_
            rintro e w5 ⟨r, rfl, ho, hb⟩
            have HBG := Lib.hid (HBF.out.trans (hb.mono HBF.out.size))
            have HOG := Lib.hid (ho.mono (B' := w.heap.size) HBF.out.size (Nat.le_refl _) (Nat.le_refl _))
            obtain ⟨ra, rc, hrs⟩ := ho.shape
            clear ho hb
            obtain ⟨Q, hQ⟩ : ∃ Q, Q = fgL (wvN X Y M) 10 := ⟨_, rfl⟩
            obtain ⟨q, hq⟩ : ∃ q, q = fgC (wvN X Y M) 10 := ⟨_, rfl⟩
            rw [← hQ] at hrs HOG HR1
            rw [← hq] at HR2 ⊢
            clear hQ hq
            subst hrs
            go_wp2
            go_ret2
            exact ⟨_, by rw [HR2.out] <;> rfl, by rw [HR1.out]; exact HOG.out, HBG.out⟩
  · have hmm : M = X.length := by omega
    have HMM2 := Lib.hid hmm
    clear hmm
    go_enter Try.func28, Try.ntmps28
    go_wp2_with fail
    refine (areTwo _ _ _ ps qs _ HU.out HV.out H0.out H1.out HS.out).mono ?_
    rintro e w1 ⟨rfl, hb⟩
    rw [HX.out]
    have HU3 := Lib.hid (HU.out.below hb (Nat.le_refl _))
    have HV3 := Lib.hid (HV.out.below hb (Nat.le_refl _))
    have HB := Lib.hid (HB0.out.trans (hb.mono (by simp)))
    clear hb
    go_wp2_with fail
    refine (implDigitsOf _ ps 10 _ HU3.out).mono ?_
    rintro e w2 ⟨r, rfl, ho, hb⟩
    rw [HD1.out.1, ← HXX.out] at ho
    rw [HD1.out.2]
    have HO1 := Lib.hid ho.rd
    have HB1 := Lib.hid (HB.out.trans (hb.mono HB.out.size))
    have HV4 := Lib.hid (HV3.out.below hb (Nat.le_refl _))
    obtain ⟨xa, xc, rfl⟩ := ho.shape
    clear ho hb
    go_wp2_with fail
    refine (implDigitsOf _ qs 10 _ HV4.out).mono ?_
    rintro e w3 ⟨r, rfl, ho, hb⟩
    rw [HD2.out.1, ← HYY.out] at ho
    rw [HD2.out.2]
    have HO2 := Lib.hid ho.rd
    have HO1b := Lib.hid (HO1.out.below hb (Nat.le_refl _))
    have HB2 := Lib.hid (HB1.out.trans (hb.mono HB1.out.size))
    obtain ⟨ya, yc, rfl⟩ := ho.shape
    clear ho hb
    go_wp2_with (at_make; refine wpList_make_full _ rfl _ _ 22 rfl w3.heap.size 2 i0 (.int .i64 0) 1 Try.underlying22 hi hz0 hz1 _ _ _ _ (2 * M) rfl rfl ?hLb ?hCb ?b2b ?b3b (Nat.le_refl _) ?_)
    case hLb => omega
    case hCb => omega
    case b2b => first | omega | (rw [hz2]; omega)
    case b3b => unfold maxLen; omega
    intro w4 hown0 hgrow0
    have hk0 := Blk.zeros hown0
    rw [← wvL_zero X Y M] at hk0
    have HK0 := Lib.hid hk0
    have HB3 := Lib.hid ((Below.refl w3.heap.size w3).grown hgrow0 (Nat.le_refl _) (fun k h => by cases h))
    clear hown0 hgrow0 hk0
    go_wp2
    go_loopw [39] (fun s wr => ∃ (k : Nat), k ≤ X.length ∧ s = .int .i64 k ∧ Blk wr w3.heap.size (2 * M) (wvL X Y M k 0) ∧ Below w3.heap.size w3 wr) (fun s _ => X.length - (intOf s).toNat)
    case atStart => exact ⟨0, Nat.zero_le _, rfl, HK0.out, HB3.out⟩
    case round =>
      obtain ⟨k, hk, rfl, hblk, hbel⟩ := hrel
      have HBL := Lib.hid hbel
      have HBK := Lib.hid hblk
      by_cases hlt : k < X.length
      · obtain ⟨_, _, a2, c2, he, _, hr⟩ := HO1b.out.below hbel (Nat.le_refl _)
        obtain ⟨gx, ox, ha, hbx, hcell⟩ := hr (by intro h0; rw [h0] at hlt; simp at hlt)
        simp only [Value.slice.injEq] at he
        obtain ⟨rfl, _, rfl⟩ := he
        subst ha
        have cx := hcell k hlt
        obtain ⟨x, hx⟩ : ∃ x, x = X.getD k 0 := ⟨_, rfl⟩
        rw [← hx] at cx
        have HE : Hid ((wvL X Y M k 0).set (2 * k) x = wvL X Y M (k + 1) 0) := Lib.hid (by rw [hx]; exact wvL_x X Y M k 0)
        have hlen := wvL_len X Y M k 0
        have i0' : (0 : Int) ≤ (k : Int) := by omega
        have i1 : (k : Int) < (X.length : Int) := by omega
        have i2 : (0 : Int) ≤ 2 * (k : Int) := by omega
        have i3 : 2 * (k : Int) < ((2 * M : Nat) : Int) := by omega
        obtain ⟨z, hz⟩ : ∃ z, z = (wvL X Y M k 0).getD (2 * k) 0 := ⟨_, rfl⟩
        have cz : wr.cell? ⟨w3.heap.size, 2 * k, none⟩ = some (.int .i64 z) := by rw [hz]; exact hblk.cell _ (by rw [hlen]; omega)
        have fz := hblk.frozen (2 * k)
        have HN := Lib.hid (hblk.set (2 * k) (by rw [hlen]; omega) x).1
        have HNB := Lib.hid (hbel.setCell (p := ⟨w3.heap.size, 2 * k, none⟩) (Nat.le_refl _) (.int .i64 x))
        clear hcell hr hx hblk hbel hz
        go_wp2
        go_roundw
        case rel => exact ⟨k + 1, by omega, by go_num, by rw [← HE.out]; exact HN.out, HNB.out⟩
        case measure => simp [intOf]; omega
      · obtain rfl : k = X.length := by omega
        have i1 : ¬ (X.length : Int) < (X.length : Int) := by omega
        clear hblk hbel
        go_wp2
        go_loopw [52] (fun s wr => ∃ (k : Nat), k ≤ Y.length ∧ s = .int .i64 k ∧ Blk wr w3.heap.size (2 * M) (wvL X Y M X.length k) ∧ Below w3.heap.size w3 wr) (fun s _ => Y.length - (intOf s).toNat)
        case atStart => exact ⟨0, Nat.zero_le _, rfl, HBK.out, HBL.out⟩
        case round =>
          obtain ⟨k, hk, rfl, hblk, hbel⟩ := hrel
          have HBL2 := Lib.hid hbel
          have HBK2 := Lib.hid hblk
          by_cases hlt2 : k < Y.length
          · obtain ⟨_, _, a2, c2, he, _, hr⟩ := HO2.out.below hbel (Nat.le_refl _)
            obtain ⟨gx, ox, ha, hbx, hcell⟩ := hr (by intro h0; rw [h0] at hlt2; simp at hlt2)
            simp only [Value.slice.injEq] at he
            obtain ⟨rfl, _, rfl⟩ := he
            subst ha
            have cx := hcell k hlt2
            obtain ⟨x, hx⟩ : ∃ x, x = Y.getD k 0 := ⟨_, rfl⟩
            rw [← hx] at cx
            have HE : Hid ((wvL X Y M X.length k).set (2 * k + 1) x = wvL X Y M X.length (k + 1)) := Lib.hid (by rw [hx]; exact wvL_y X Y M X.length k)
            have hlen := wvL_len X Y M X.length k
            have i0' : (0 : Int) ≤ (k : Int) := by omega
            have i1 : (k : Int) < (Y.length : Int) := by omega
            have i2 : (0 : Int) ≤ 2 * (k : Int) + 1 := by omega
            have i3 : 2 * (k : Int) + 1 < ((2 * M : Nat) : Int) := by omega
            obtain ⟨z, hz⟩ : ∃ z, z = (wvL X Y M X.length k).getD (2 * k + 1) 0 := ⟨_, rfl⟩
            have cz : wr.cell? ⟨w3.heap.size, 2 * k + 1, none⟩ = some (.int .i64 z) := by rw [hz]; exact hblk.cell _ (by rw [hlen]; omega)
            have fz := hblk.frozen (2 * k + 1)
            have HN := Lib.hid (hblk.set (2 * k + 1) (by rw [hlen]; omega) x).1
            have HNB := Lib.hid (hbel.setCell (p := ⟨w3.heap.size, 2 * k + 1, none⟩) (Nat.le_refl _) (.int .i64 x))
            clear hcell hr hx hblk hbel hz
            go_wp2
            go_roundw
            case rel => exact ⟨k + 1, by omega, by go_num, by rw [← HE.out]; exact HN.out, HNB.out⟩
            case measure => simp [intOf]; omega
          · obtain rfl : k = Y.length := by omega
            have i1' : ¬ (Y.length : Int) < (Y.length : Int) := by omega
            rw [wvL_done] at hblk
            have HRD := Lib.hid (hblk.rd (wvN_len X Y M) (by omega) (HDIG.out M).fit10)
            have HBF := Lib.hid (HB2.out.trans (hbel.mono HB2.out.size))
            clear hblk hbel
            go_wp2_with fail
            refine (implFromDigits _ (wvN X Y M) 10 _ HRD.out).mono ?_
            rintro e w5 ⟨r, rfl, ho, hb⟩
            have HBG := Lib.hid (HBF.out.trans (hb.mono HBF.out.size))
            have HOG := Lib.hid (ho.mono (B' := w.heap.size) HBF.out.size (Nat.le_refl _) (Nat.le_refl _))
            obtain ⟨ra, rc, hrs⟩ := ho.shape
            clear ho hb
            obtain ⟨Q, hQ⟩ : ∃ Q, Q = fgL (wvN X Y M) 10 := ⟨_, rfl⟩
            obtain ⟨q, hq⟩ : ∃ q, q = fgC (wvN X Y M) 10 := ⟨_, rfl⟩
            rw [← hQ] at hrs HOG HR1
            rw [← hq] at HR2 ⊢
            clear hQ hq
            subst hrs
            go_wp2
            go_ret2
            exact ⟨_, by rw [HR2.out] <;> rfl, by rw [HR1.out]; exact HOG.out, HBG.out⟩
end Go.Proofs.Ytmbppdebpjgjnaa.Ints
