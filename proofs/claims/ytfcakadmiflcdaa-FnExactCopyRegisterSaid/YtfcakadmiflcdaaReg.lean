/- Codes for numbers that should be different registers: the model's and the program's. -/
import Derived.Test.YtfcakadmiflcdaaSrtI
import Derived.Test.YtfcakadmiflcdaaDig
import Derived.Test.YtfcakadmiflcdaaPrgS
import Derived.Deep.QuietTactic
import Derived.BigQuiet
namespace Go.Proofs.Ytfcakadmiflcdaa.Ints
open Go.RowKit
set_option linter.unusedVariables false
set_option linter.unusedSimpArgs false
theorem Rd.front {w : World} {a : Option Addr} {c : Nat} {Z : List Int} (h : Rd w (.slice a Z.length c) Z) (m : Nat) (hm : m ≤ Z.length) : Rd w (.slice a m c) (Z.take m) := by
  obtain ⟨hl, hf, a', c', hv, hcap, hr⟩ := h
  simp only [Value.slice.injEq] at hv
  obtain ⟨rfl, _, rfl⟩ := hv
  have hlen : (Z.take m).length = m := by rw [List.length_take]; omega
  refine ⟨by omega, fun z hz => hf z (List.mem_of_mem_take hz), a, c, by rw [hlen], by omega, fun hne => ?_⟩
  obtain ⟨b, o, ha, hb, hcell⟩ := hr (by intro h0; rw [h0] at hne; exact hne (by simp))
  refine ⟨b, o, ha, hb, fun i hi => ?_⟩
  rw [hlen] at hi
  rw [hcell i (by omega)]
  simp [List.getD_eq_getElem?_getD, hi]
open Classical in
noncomputable def regC (zs : List Int) : Int := if Dig 24 zs then (if zs.Nodup then 0 else 4) else 2
theorem regC_bad {zs : List Int} (h : ¬ Dig 24 zs) : regC zs = 2 := by simp [regC, h]
theorem regC_two {zs : List Int} (h : Dig 24 zs) (k : ¬ zs.Nodup) : regC zs = 4 := by simp [regC, h, k]
theorem regC_good {zs : List Int} (h : Dig 24 zs) (k : zs.Nodup) : regC zs = 0 := by simp [regC, h, k]
theorem regC_ok {zs : List Int} (h : regC zs = 0) : Dig 24 zs ∧ zs.Nodup := by
  by_cases h1 : Dig 24 zs
  · by_cases h2 : zs.Nodup
    · exact ⟨h1, h2⟩
    · rw [regC_two h1 h2] at h; omega
  · rw [regC_bad h1] at h; omega
theorem digB_ok {b : Int} {zs : List Int} (h : digB b zs = true) : Dig b zs := by simpa [digB] using h
theorem digB_no {b : Int} {zs : List Int} (h : digB b zs = false) : ¬ Dig b zs := by simpa [digB] using h
set_option maxHeartbeats 2000000 in
theorem implCode (v : Value) (zs : List Int) (w : World) (h : Rd w v zs) :
    Calls Try.prog 96 #[v] w fun e w' => e = .returned (.int .i64 (regC zs)) ∧ Below w.heap.size w w' := by
  have H := Lib.hid h
  obtain ⟨_, _, a, c, rfl, _, _⟩ := h
  obtain ⟨bd, hbd⟩ : ∃ b, b = digB 24 zs := ⟨_, rfl⟩
  have HD := Lib.hid hbd
  clear hbd
  go_enter Try.func96, Try.ntmps96
  go_wp2_with fail
  refine (areBelow_any _ zs 24 _ H.out).mono ?_
  rintro e w1 ⟨rfl, hb⟩
  rw [← HD.out]
  have HB1 := Lib.hid hb
  clear hb
  rcases eqOr bd with hb | hb
  · subst hb
    have e := Lib.hid (regC_bad (digB_no HD.out.symm))
    go_wp2_with fail
    go_ret
    exact ⟨by rw [e.out] <;> rfl, HB1.out⟩
  subst hb
  go_wp2_with fail
  refine (implSortList _ zs _ (H.out.below HB1.out (Nat.le_refl _))).mono ?_
  rintro e w2 ⟨u, rfl, ho, hb⟩
  have HO := Lib.hid ho
  have HB2 := Lib.hid (HB1.out.trans (hb.mono HB1.out.size))
  obtain ⟨ga, gc, hu⟩ := ho.shape
  rw [srt_length] at hu
  subst hu
  clear ho hb
  go_wp2_with fail
  refine (libCompact _ (srt zs) _ _ _ HO.out).mono ?_
  rintro e w3 ⟨u, rfl, ho, hg⟩
  have HB3 := Lib.hid (HB2.out.trans ((grown_below HO.out hg).mono HB1.out.size))
  obtain ⟨gb, gd, hu⟩ := ho.shape
  subst hu
  obtain ⟨m, hm⟩ : ∃ m, m = (Lib.compact (srt zs)).length := ⟨_, rfl⟩
  have hle : m ≤ zs.length := by rw [hm, ← srt_length zs]; exact compact_le _
  have HM := Lib.hid hm
  rw [← hm]
  clear ho hg hm
  by_cases hn : m < zs.length
  · have hd : decide ((m : Int) < (zs.length : Int)) = true := decide_eq_true (by omega)
    have e := Lib.hid (regC_two (digB_ok HD.out.symm) (fun h => by have := (compact_srt_nodup zs).2 h; have := HM.out; omega))
    go_wp2_with fail
    go_ret
    exact ⟨by rw [e.out] <;> rfl, HB3.out⟩
  · have hd : decide ((m : Int) < (zs.length : Int)) = false := decide_eq_false (by omega)
    have e := Lib.hid (regC_good (digB_ok HD.out.symm) ((compact_srt_nodup zs).1 (by have := HM.out; omega)))
    go_wp2_with fail
    go_ret
    exact ⟨by rw [e.out] <;> rfl, HB3.out⟩
theorem specHas (v : Value) (zs : List Int) (x : Int) (w : World) (h : Rd w v zs) :
    Calls Try.prog 107 #[v, .int .i64 x] w fun e w' => e = .returned (.bool (decide (x ∈ zs))) ∧ w = w' := by
  obtain ⟨hl, hf, a, c, rfl, hcap, hr⟩ := h
  go_enter Try.func107, Try.ntmps107
  go_wp2
  go_loop [5] (fun s => ∃ k : Nat, k ≤ zs.length ∧ s = .int .i64 k ∧ ∀ i, i < k → zs.getD i 0 ≠ x) (fun s => zs.length - (intOf s).toNat)
  case atStart => exact ⟨0, Nat.zero_le _, rfl, fun i hi => by omega⟩
  case round =>
    obtain ⟨k, hk, rfl, hall⟩ := hrel
    have HA := Lib.hid hall
    clear hall
    by_cases hlt : k < zs.length
    · obtain ⟨b, o, rfl, hb, hcell⟩ := hr (by intro h0; rw [h0] at hlt; simp at hlt)
      have hc := hcell k hlt
      obtain ⟨y, hy⟩ : ∃ y, y = zs.getD k 0 := ⟨_, rfl⟩
      rw [← hy] at hc
      have HY := Lib.hid hy
      clear hcell hr hy
      by_cases hg : y = x
      · have hq : ((y : Int) == x) = true := by simp [hg]
        have HF : Hid (decide (x ∈ zs) = true) := Lib.hid (decide_eq_true (by rw [← hg, HY.out, List.getD_eq_getElem?_getD, List.getElem?_eq_getElem hlt]; exact List.getElem_mem hlt))
        clear hg
        go_wp2
        go_ret
        exact ⟨by rw [HF.out] <;> rfl, rfl⟩
      · have hq : ((y : Int) == x) = false := by simp [hg]
        have HN : Hid (∀ i, i < k + 1 → zs.getD i 0 ≠ x) := Lib.hid (fun i hi => by
          by_cases he : i = k
          · subst he; rw [← HY.out]; exact hg
          · exact HA.out i (by omega))
        clear hg
        go_wp2
        go_round
        case rel => exact ⟨k + 1, by omega, by go_num, HN.out⟩
        case measure => simp [intOf]; omega
    · have HF : Hid (decide (x ∈ zs) = false) := Lib.hid (decide_eq_false (fun hm => by
        obtain ⟨i, hi, e⟩ := List.getElem_of_mem hm
        have := HA.out i (by omega)
        rw [List.getD_eq_getElem?_getD, List.getElem?_eq_getElem hi] at this
        exact this e))
      go_wp2
      go_ret
      exact ⟨by rw [HF.out] <;> rfl, rfl⟩
theorem specHasQ (v : Value) (zs : List Int) (x : Int) (w : World) (h : Rd w v zs) :
    Calls Try.prog 107 #[v, .int .i64 x] w fun e w' => e = .returned (.bool (decide (x ∈ zs))) ∧ w' = w := (specHas v zs x w h).mono fun _ _ h => ⟨h.1, h.2.symm⟩
theorem nodup_take_succ {zs : List Int} {k : Nat} (h : k < zs.length) (hn : (zs.take k).Nodup) (hx : zs.getD k 0 ∉ zs.take k) : (zs.take (k + 1)).Nodup := by
  rw [List.take_succ_eq_append_getElem h]
  have e : zs.getD k 0 = zs[k] := by rw [List.getD_eq_getElem?_getD, List.getElem?_eq_getElem h]; rfl
  rw [e] at hx
  exact List.pairwise_append.2 ⟨hn, by simp, fun a ha b hb => by simp at hb; subst hb; exact fun h => hx (h ▸ ha)⟩
theorem not_nodup_of {zs : List Int} {k : Nat} (h : k < zs.length) (hx : zs.getD k 0 ∈ zs.take k) : ¬ zs.Nodup := by
  intro hn
  have e : zs.getD k 0 = zs[k] := by rw [List.getD_eq_getElem?_getD, List.getElem?_eq_getElem h]; rfl
  rw [e] at hx
  have h2 : (zs.take (k + 1)).Nodup := hn.sublist (List.take_sublist _ _)
  rw [List.take_succ_eq_append_getElem h] at h2
  exact (List.pairwise_append.1 h2).2.2 _ hx _ (by simp) rfl
set_option maxHeartbeats 4000000 in
set_option maxRecDepth 100000 in
theorem specApart (v : Value) (zs : List Int) (w : World) (h : Rd w v zs) :
    Calls Try.prog 94 #[v] w fun e w' => e = .returned (.int .i64 (regC zs)) ∧ Below w.heap.size w w' := by
  have H := Lib.hid h
  obtain ⟨hl, hf, a, c, rfl, hcap, hr⟩ := h
  have HR := Lib.hid hr
  clear hr
  go_enter Try.func94, Try.ntmps94
  go_wp2
  go_loop [3] (fun s => ∃ k : Nat, k ≤ zs.length ∧ s = .int .i64 k ∧ ∀ i, i < k → 0 ≤ zs.getD i 0 ∧ zs.getD i 0 < 24) (fun s => zs.length - (intOf s).toNat)
  case atStart => exact ⟨0, Nat.zero_le _, rfl, fun i hi => by omega⟩
  case round =>
    obtain ⟨k, hk, rfl, hall⟩ := hrel
    have HA := Lib.hid hall
    clear hall
    by_cases hlt : k < zs.length
    · obtain ⟨b, o, rfl, hb, hcell⟩ := HR.out (by intro h0; rw [h0] at hlt; simp at hlt)
      have hc := hcell k hlt
      obtain ⟨y, hy⟩ : ∃ y, y = zs.getD k 0 := ⟨_, rfl⟩
      rw [← hy] at hc
      have HY := Lib.hid hy
      clear hcell hy
      by_cases hg : 0 ≤ y ∧ y ≤ 23
      · have HG := Lib.hid hg
        have HN : Hid (∀ i, i < k + 1 → 0 ≤ zs.getD i 0 ∧ zs.getD i 0 < 24) := Lib.hid (fun i hi => by
          by_cases he : i = k
          · subst he; rw [← HY.out]; omega
          · exact HA.out i (by omega))
        clear hg
        go_wp2_with fail
        refine (specRegY y _ HG.out).mono ?_
        rintro e1 w1 ⟨rfl, rfl⟩
        go_wp2
        go_round
        case rel => exact ⟨k + 1, by omega, by go_num, HN.out⟩
        case measure => simp [intOf]; omega
      · have HG := Lib.hid hg
        have e := Lib.hid (regC_bad (zs := zs) (fun h => hg (by have := h k hlt; rw [HY.out]; omega)))
        clear hg
        go_wp2_with fail
        refine (specRegN y _ HG.out).mono ?_
        rintro e1 w1 ⟨rfl, rfl⟩
        go_wp2
        go_ret
        exact ⟨by rw [e.out] <;> rfl, Below.refl _ _⟩
    · have HD : Hid (Dig 24 zs) := Lib.hid (fun i hi => HA.out i (by omega))
      obtain rfl : k = zs.length := by omega
      go_wp2
      go_loopw [4] (fun s wr => ∃ k : Nat, k ≤ zs.length ∧ s = .int .i64 k ∧ (zs.take k).Nodup ∧ Below w.heap.size w wr) (fun s _ => zs.length - (intOf s).toNat)
      case atStart => exact ⟨0, Nat.zero_le _, rfl, by simp, Below.refl _ _⟩
      case round =>
        obtain ⟨k, hk, rfl, hn, hbr⟩ := hrel
        have HN := Lib.hid hn
        have HB := Lib.hid hbr
        clear hn
        by_cases hlt : k < zs.length
        · obtain ⟨b, o, rfl, hb, hcell⟩ := HR.out (by intro h0; rw [h0] at hlt; simp at hlt)
          have hc := (hbr.cell (p := ⟨b, o + k, none⟩) hb).trans (hcell k hlt)
          obtain ⟨y, hy⟩ : ∃ y, y = zs.getD k 0 := ⟨_, rfl⟩
          rw [← hy] at hc
          have HY := Lib.hid hy
          have i0 : (0 : Int) ≤ (k : Int) := by omega
          have i1 : (k : Int) < (zs.length : Int) := by omega
          have i2 : (k : Int) ≤ (c : Int) := by omega
          have i3 : k ≤ c := by omega
          have i4 : ¬ c < k := by omega
          have i5 : ¬ (c : Int) < (k : Int) := by omega
          have HT := Lib.hid ((H.out.below hbr (Nat.le_refl _)).front k (by omega))
          obtain ⟨bh, hbh⟩ : ∃ b : Bool, b = decide (y ∈ zs.take k) := ⟨_, rfl⟩
          have HBH := Lib.hid hbh
          clear hcell hy hbh hbr
          go_wp2
          go_quiet ((go_at_call 107; exact Calls.quiet_of_same (specHasQ _ _ _ _ (HT.out.below (below_drewN (Below.refl _ _) _) (Nat.le_refl _)))))
          rw [← HBH.out]
          have HB2 := Lib.hid (below_drewN HB.out nq)
          rcases eqOr bh with hb | hb
          · subst hb
            have HX := Lib.hid (nodup_take_succ hlt HN.out (by rw [← HY.out]; simpa using HBH.out.symm))
            go_wp2
            go_roundw
            case rel => exact ⟨k + 1, by omega, by go_num, HX.out, HB2.out⟩
            case measure => simp [intOf]; omega
          · subst hb
            have e := Lib.hid (regC_two HD.out (not_nodup_of hlt (by rw [← HY.out]; simpa using HBH.out.symm)))
            go_wp2
            go_ret
            exact ⟨by rw [e.out] <;> rfl, HB2.out⟩
        · obtain rfl : k = zs.length := by omega
          have e := Lib.hid (regC_good HD.out (by have := HN.out; rwa [List.take_length] at this))
          clear hbr
          go_wp2
          go_ret
          exact ⟨by rw [e.out] <;> rfl, HB.out⟩
end Go.Proofs.Ytfcakadmiflcdaa.Ints
