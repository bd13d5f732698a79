/- The text of a list of numbers, of the model. -/
import Derived.Test.YtemooadcjdngdaaDoorStr
import Derived.Test.YtemooadcjdngdaaDoorBt
namespace Go.Proofs.YtemooadcjdngdaaDoor.Ints
open Go.RowKit
set_option linter.unusedVariables false
set_option linter.unusedSimpArgs false

/-- The numerals of a list, parted by a byte; a dash for none. -/
def txtL (sep : UInt8) (zs : List Int) : List UInt8 := if zs = [] then [45] else Lib.join (zs.map Lib.itoa) [sep]
theorem txtL_some {sep : UInt8} {zs : List Int} (h : zs ≠ []) : txtL sep zs = Lib.join (zs.map Lib.itoa) [sep] := if_neg h
theorem txtL_small (sep : UInt8) (zs : List Int) (hf : Fit zs) : (txtL sep zs).length ≤ 22 * zs.length + 1 := by
  by_cases h : zs = []
  · subst h; simp [txtL]
  · rw [txtL_some h]
    have := join_small (zs.map Lib.itoa) [sep] 21 (fun y hy => by
      obtain ⟨z, hz, rfl⟩ := List.mem_map.1 hy
      exact Lib.itoa_length_le z (hf z hz).1 (hf z hz).2)
    simp only [List.length_singleton, List.length_map] at this
    omega
/-- Whether a list has a text. -/
noncomputable def fitB (zs : List Int) : Bool := decide (zs.length ≤ 64) && betB (-1000000000000) 1000000000000 zs
noncomputable def ltV (zs : List Int) : List UInt8 := if fitB zs = true then txtL 44 zs else []
set_option maxHeartbeats 2000000 in
theorem specListT (v : Value) (zs : List Int) (w : World) (h : Rd w v zs) (hl8 : zs.length ≤ 2000) :
    Calls Tryd.prog 45 #[v] w fun e w' => e = .returned (.string (bs (txtL 44 zs))) ∧ Below w.heap.size w w' := by
  obtain ⟨hl, hf, a, c, rfl, hcap, hr⟩ := h
  have HF := Lib.hid hf
  have HC := Lib.hid hr
  clear hf hr
  by_cases h0 : zs = []
  · subst h0
    go_enter Tryd.func45, Tryd.ntmps45
    go_wp2
    go_ret
    exact ⟨rfl, Below.refl _ _⟩
  have hpos : 0 < zs.length := List.length_pos_iff.2 h0
  have hzb : ((zs.length : Int) == 0) = false := by simpa using h0
  have HG : Hid (txtL 44 zs = Lib.join (zs.map Lib.itoa) [44]) := Lib.hid (txtL_some h0)
  clear h0
  go_enter Tryd.func45, Tryd.ntmps45
  go_wp2
  go_loopw [3, 4] (fun s i wr => ∃ k : Nat, k ≤ zs.length ∧ i = .int .i64 k ∧ s = .string (bs (Lib.join ((zs.take k).map Lib.itoa) [44])) ∧ Below w.heap.size w wr) (fun _ i _ => zs.length - (intOf i).toNat)
  case atStart => exact ⟨0, Nat.zero_le _, rfl, rfl, Below.refl _ _⟩
  case round =>
    obtain ⟨k, hk, rfl, hs, hbel⟩ := hrel
    have HW := Lib.hid hbel
    by_cases hlt : k < zs.length
    · obtain ⟨b, o, rfl, hb, hcell⟩ := HC.out (by intro h0; rw [h0] at hlt; simp at hlt)
      obtain ⟨x, hx⟩ : ∃ x, x = zs.getD k 0 := ⟨_, rfl⟩
      have hc : wr.cell? ⟨b, o + k, none⟩ = some (.int .i64 x) := by rw [hx]; exact (hbel.cell hb).trans (hcell k hlt)
      have i0' : (0 : Int) ≤ (k : Int) := by omega
      have i1 : (k : Int) < (zs.length : Int) := by omega
      have HX : Hid (-9223372036854775808 ≤ x ∧ x ≤ 9223372036854775807) := Lib.hid (by rw [hx, List.getD_eq_getElem?_getD, List.getElem?_eq_getElem hlt]; exact HF.out _ (List.getElem_mem hlt))
      obtain ⟨s0, hs0⟩ : ∃ s, s = bs (Lib.join ((zs.take k).map Lib.itoa) [44]) := ⟨_, rfl⟩
      obtain ⟨t, ht⟩ : ∃ t, t = bs (Lib.itoa x) := ⟨_, rfl⟩
      have HE : Hid (bs (Lib.join ((zs.take (k + 1)).map Lib.itoa) [44]) = if k = 0 then s0 ++ t else s0 ++ bs [44] ++ t) := Lib.hid (by
        rw [hs0, ht, List.take_succ_eq_append_getElem hlt, List.map_append, show zs[k] = x by rw [hx, List.getD_eq_getElem?_getD, List.getElem?_eq_getElem hlt]; rfl]
        by_cases hk0 : k = 0
        · subst hk0; rw [if_pos rfl, bs_append]; simp [Lib.join_one, Lib.join_nil]
        · rw [if_neg hk0, bs_append, bs_append, List.map_singleton, join_snoc _ _ _ (by intro hn; have h1 := congrArg List.length hn; rw [List.length_map, List.length_take, List.length_nil] at h1; omega)])
      have hss : s0.size ≤ 100000 := by
        rw [hs0, bs_size]
        have := join_small ((zs.take k).map Lib.itoa) [44] 21 (fun y hy => by
          obtain ⟨z, hz, rfl⟩ := List.mem_map.1 hy
          have := HF.out z (List.mem_of_mem_take hz)
          exact Lib.itoa_length_le z this.1 this.2)
        have h2 : ((zs.take k).map Lib.itoa).length ≤ 2000 := by rw [List.length_map, List.length_take]; omega
        simp only [List.length_singleton] at this
        omega
      have hts : t.size ≤ 21 := by rw [ht, bs_size]; exact Lib.itoa_length_le x HX.out.1 HX.out.2
      rw [← hs0] at hs
      subst hs
      have HT := Lib.hid ht
      clear hbel hcell hx ht hs0
      by_cases hk0 : k = 0
      · have HE2 : Hid (bs (Lib.join ((zs.take (k + 1)).map Lib.itoa) [44]) = s0 ++ t) := Lib.hid (by rw [HE.out, if_pos hk0])
        have hk1 : ¬ (0 : Int) < (k : Int) := by omega
        clear hk0
        go_wp2_with fail
        refine (specDec x HX.out.1 HX.out.2 _).mono ?_
        rintro e w1 ⟨rfl, hb1⟩
        rw [← HT.out]
        have HW1 := Lib.hid (HW.out.trans (hb1.mono HW.out.size))
        clear hb1
        go_wp2
        go_roundw
        case rel => exact ⟨k + 1, by omega, by go_num, by rw [HE2.out], HW1.out⟩
        case measure => simp [intOf]; omega
      · have HE2 : Hid (bs (Lib.join ((zs.take (k + 1)).map Lib.itoa) [44]) = s0 ++ bs [44] ++ t) := Lib.hid (by rw [HE.out, if_neg hk0])
        have hk1 : (0 : Int) < (k : Int) := by omega
        clear hk0
        go_wp2_with fail
        refine (specDec x HX.out.1 HX.out.2 _).mono ?_
        rintro e w1 ⟨rfl, hb1⟩
        rw [← HT.out]
        have HW1 := Lib.hid (HW.out.trans (hb1.mono HW.out.size))
        clear hb1
        go_wp2
        go_roundw
        case rel => exact ⟨k + 1, by omega, by go_num, by rw [HE2.out], HW1.out⟩
        case measure => simp [intOf]; omega
    · obtain rfl : k = zs.length := by omega
      have hnlt : ¬ ((zs.length : Int) < (zs.length : Int)) := by omega
      rw [List.take_length] at hs
      subst hs
      clear hbel hlt
      go_wp2
      go_ret
      exact ⟨by rw [HG.out]; rfl, HW.out⟩
set_option maxHeartbeats 2000000 in
theorem specLetters (v : Value) (zs : List Int) (w : World) (h : Rd w v zs) (hl8 : zs.length ≤ 2000) :
    Calls Tryd.prog 88 #[v] w fun e w' => e = .returned (.string (bs (txtL 46 zs))) ∧ Below w.heap.size w w' := by
  obtain ⟨hl, hf, a, c, rfl, hcap, hr⟩ := h
  have HF := Lib.hid hf
  have HC := Lib.hid hr
  clear hf hr
  by_cases h0 : zs = []
  · subst h0
    go_enter Tryd.func88, Tryd.ntmps88
    go_wp2
    go_ret
    exact ⟨rfl, Below.refl _ _⟩
  have hpos : 0 < zs.length := List.length_pos_iff.2 h0
  have hzb : ((zs.length : Int) == 0) = false := by simpa using h0
  have HG : Hid (txtL 46 zs = Lib.join (zs.map Lib.itoa) [46]) := Lib.hid (txtL_some h0)
  clear h0
  go_enter Tryd.func88, Tryd.ntmps88
  go_wp2
  go_loopw [3, 4] (fun s i wr => ∃ k : Nat, k ≤ zs.length ∧ i = .int .i64 k ∧ s = .string (bs (Lib.join ((zs.take k).map Lib.itoa) [46])) ∧ Below w.heap.size w wr) (fun _ i _ => zs.length - (intOf i).toNat)
  case atStart => exact ⟨0, Nat.zero_le _, rfl, rfl, Below.refl _ _⟩
  case round =>
    obtain ⟨k, hk, rfl, hs, hbel⟩ := hrel
    have HW := Lib.hid hbel
    by_cases hlt : k < zs.length
    · obtain ⟨b, o, rfl, hb, hcell⟩ := HC.out (by intro h0; rw [h0] at hlt; simp at hlt)
      obtain ⟨x, hx⟩ : ∃ x, x = zs.getD k 0 := ⟨_, rfl⟩
      have hc : wr.cell? ⟨b, o + k, none⟩ = some (.int .i64 x) := by rw [hx]; exact (hbel.cell hb).trans (hcell k hlt)
      have i0' : (0 : Int) ≤ (k : Int) := by omega
      have i1 : (k : Int) < (zs.length : Int) := by omega
      have HX : Hid (-9223372036854775808 ≤ x ∧ x ≤ 9223372036854775807) := Lib.hid (by rw [hx, List.getD_eq_getElem?_getD, List.getElem?_eq_getElem hlt]; exact HF.out _ (List.getElem_mem hlt))
      obtain ⟨s0, hs0⟩ : ∃ s, s = bs (Lib.join ((zs.take k).map Lib.itoa) [46]) := ⟨_, rfl⟩
      obtain ⟨t, ht⟩ : ∃ t, t = bs (Lib.itoa x) := ⟨_, rfl⟩
      have HE : Hid (bs (Lib.join ((zs.take (k + 1)).map Lib.itoa) [46]) = if k = 0 then s0 ++ t else s0 ++ bs [46] ++ t) := Lib.hid (by
        rw [hs0, ht, List.take_succ_eq_append_getElem hlt, List.map_append, show zs[k] = x by rw [hx, List.getD_eq_getElem?_getD, List.getElem?_eq_getElem hlt]; rfl]
        by_cases hk0 : k = 0
        · subst hk0; rw [if_pos rfl, bs_append]; simp [Lib.join_one, Lib.join_nil]
        · rw [if_neg hk0, bs_append, bs_append, List.map_singleton, join_snoc _ _ _ (by intro hn; have h1 := congrArg List.length hn; rw [List.length_map, List.length_take, List.length_nil] at h1; omega)])
      have hss : s0.size ≤ 100000 := by
        rw [hs0, bs_size]
        have := join_small ((zs.take k).map Lib.itoa) [46] 21 (fun y hy => by
          obtain ⟨z, hz, rfl⟩ := List.mem_map.1 hy
          have := HF.out z (List.mem_of_mem_take hz)
          exact Lib.itoa_length_le z this.1 this.2)
        have h2 : ((zs.take k).map Lib.itoa).length ≤ 2000 := by rw [List.length_map, List.length_take]; omega
        simp only [List.length_singleton] at this
        omega
      have hts : t.size ≤ 21 := by rw [ht, bs_size]; exact Lib.itoa_length_le x HX.out.1 HX.out.2
      rw [← hs0] at hs
      subst hs
      have HT := Lib.hid ht
      clear hbel hcell hx ht hs0
      by_cases hk0 : k = 0
      · have HE2 : Hid (bs (Lib.join ((zs.take (k + 1)).map Lib.itoa) [46]) = s0 ++ t) := Lib.hid (by rw [HE.out, if_pos hk0])
        have hk1 : ¬ (0 : Int) < (k : Int) := by omega
        clear hk0
        go_wp2_with fail
        refine (specDec x HX.out.1 HX.out.2 _).mono ?_
        rintro e w1 ⟨rfl, hb1⟩
        rw [← HT.out]
        have HW1 := Lib.hid (HW.out.trans (hb1.mono HW.out.size))
        clear hb1
        go_wp2
        go_roundw
        case rel => exact ⟨k + 1, by omega, by go_num, by rw [HE2.out], HW1.out⟩
        case measure => simp [intOf]; omega
      · have HE2 : Hid (bs (Lib.join ((zs.take (k + 1)).map Lib.itoa) [46]) = s0 ++ bs [46] ++ t) := Lib.hid (by rw [HE.out, if_neg hk0])
        have hk1 : (0 : Int) < (k : Int) := by omega
        clear hk0
        go_wp2_with fail
        refine (specDec x HX.out.1 HX.out.2 _).mono ?_
        rintro e w1 ⟨rfl, hb1⟩
        rw [← HT.out]
        have HW1 := Lib.hid (HW.out.trans (hb1.mono HW.out.size))
        clear hb1
        go_wp2
        go_roundw
        case rel => exact ⟨k + 1, by omega, by go_num, by rw [HE2.out], HW1.out⟩
        case measure => simp [intOf]; omega
    · obtain rfl : k = zs.length := by omega
      have hnlt : ¬ ((zs.length : Int) < (zs.length : Int)) := by omega
      rw [List.take_length] at hs
      subst hs
      clear hbel hlt
      go_wp2
      go_ret
      exact ⟨by rw [HG.out]; rfl, HW.out⟩

set_option maxHeartbeats 2000000 in
theorem specFits (v : Value) (zs : List Int) (w : World) (h : Rd w v zs) :
    Calls Tryd.prog 44 #[v] w fun e w' => e = .returned (.bool (fitB zs)) ∧ ∃ m, w' = w.drewN m := by
  obtain ⟨hl, hf, a, c, rfl, hcap, hr⟩ := h
  obtain ⟨lo, hlo⟩ : ∃ lo : Int, lo = -1000000000000 := ⟨_, rfl⟩
  obtain ⟨hi, hhi⟩ : ∃ hi : Int, hi = 1000000000000 := ⟨_, rfl⟩
  have HF : Hid (fitB zs = (decide (zs.length ≤ 64) && betB lo hi zs)) := Lib.hid (by rw [hlo, hhi]; rfl)
  have HLO := Lib.hid hlo
  have HHI := Lib.hid hhi
  clear hlo hhi
  go_enter Tryd.func44, Tryd.ntmps44
  go_wp2
  go_loopw [3] (fun s wr => ∃ k : Nat, k ≤ zs.length ∧ s = .int .i64 k ∧ (∀ i, i < k → lo ≤ zs.getD i 0 ∧ zs.getD i 0 ≤ hi) ∧ ∃ m, wr = w.drewN m) (fun s _ => zs.length - (intOf s).toNat)
  case atStart => exact ⟨0, Nat.zero_le _, rfl, fun i hi => by omega, 0, rfl⟩
  case round =>
    obtain ⟨k, hk, rfl, hall, m, hwr⟩ := hrel
    have HWR := Lib.hid hwr
    have HA := Lib.hid hall
    have hcw : ∀ p : Addr, wr.cell? p = w.cell? p := fun p => by rw [hwr]; rfl
    have HCW := Lib.hid hcw
    clear hall hwr hcw
    by_cases hlt : k < zs.length
    · obtain ⟨b, o, rfl, hb, hcell⟩ := hr (by intro h0; rw [h0] at hlt; simp at hlt)
      obtain ⟨x, hx⟩ : ∃ x, x = zs.getD k 0 := ⟨_, rfl⟩
      have hc : wr.cell? ⟨b, o + k, none⟩ = some (.int .i64 x) := by rw [hx, HCW.out]; exact hcell k hlt
      have i0 : (0 : Int) ≤ (k : Int) := by omega
      have i1 : (k : Int) < (zs.length : Int) := by omega
      have HX := Lib.hid hx
      clear hcell hr hx
      by_cases hg : lo ≤ x ∧ x ≤ hi
      · have HA1 := Lib.hid hg
        have HN : Hid (∀ i, i < k + 1 → lo ≤ zs.getD i 0 ∧ zs.getD i 0 ≤ hi) := Lib.hid (fun i hi => by
          by_cases he : i = k
          · subst he; rw [← HX.out]; exact HA1.out
          · exact HA.out i (by omega))
        clear hg
        go_wp2_with fail
        rw [← HLO.out, ← HHI.out]
        refine (specInY _ _ _ _ HA1.out).mono ?_
        rintro e1 w1 ⟨rfl, rfl⟩
        go_wp2
        go_roundw
        case rel => exact ⟨k + 1, by omega, by go_num, HN.out, m, HWR.out⟩
        case measure => simp [intOf]; omega
      · have HA1 := Lib.hid hg
        have HB : Hid (fitB zs = false) := Lib.hid (by rw [HF.out, betB_false fun H => HA1.out (by have := H k hlt; rw [← HX.out] at this; exact this)]; simp)
        clear hg
        go_wp2_with fail
        rw [← HLO.out, ← HHI.out]
        refine (specInN _ _ _ _ HA1.out).mono ?_
        rintro e1 w1 ⟨rfl, rfl⟩
        go_wp2
        go_ret
        exact ⟨by rw [HB.out] <;> rfl, m, HWR.out⟩
    · obtain rfl : k = zs.length := by omega
      have HB : Hid (fitB zs = decide ((zs.length : Int) ≤ 64)) := Lib.hid (by rw [HF.out, betB_true HA.out, Bool.and_true]; congr 1; exact propext ⟨fun h => by omega, fun h => by omega⟩)
      clear hr hlt
      have hnlt : ¬ ((zs.length : Int) < (zs.length : Int)) := by omega
      go_wp2
      go_ret
      exact ⟨by rw [HB.out] <;> rfl, m, HWR.out⟩
theorem specListText (v : Value) (zs : List Int) (w : World) (h : Rd w v zs) :
    Calls Tryd.prog 12 #[v] w fun e w' => e = .returned (.string (bs (ltV zs))) ∧ Below w.heap.size w w' := by
  have H := Lib.hid h
  clear h
  obtain ⟨ok, hok⟩ : ∃ b, b = fitB zs := ⟨_, rfl⟩
  have HOK := Lib.hid hok
  clear hok
  go_enter Tryd.func12, Tryd.ntmps12
  go_wp2_with fail
  refine (specFits _ zs _ H.out).mono ?_
  rintro e w1 ⟨rfl, m, hw1⟩
  have HB1 : Hid (Below w.heap.size w w1) := Lib.hid (by rw [hw1]; exact below_drewN (Below.refl _ _) m)
  rw [← HOK.out]
  clear hw1
  rcases eqOr ok with hb | hb
  · subst hb
    go_wp2
    go_ret
    exact ⟨by rw [ltV, if_neg (by rw [← HOK.out]; decide)]; rfl, HB1.out⟩
  subst hb
  have HL : Hid (zs.length ≤ 2000) := Lib.hid (by have := HOK.out; unfold fitB at this; simp at this; omega)
  go_wp2_with fail
  refine (specListT _ zs _ (H.out.below HB1.out (Nat.le_refl _)) HL.out).mono ?_
  rintro e w2 ⟨rfl, hb2⟩
  have HB2 := Lib.hid (HB1.out.trans (hb2.mono HB1.out.size))
  clear hb2
  go_wp2
  go_ret
  exact ⟨by rw [ltV, if_pos HOK.out.symm]; rfl, HB2.out⟩
end Go.Proofs.YtemooadcjdngdaaDoor.Ints
