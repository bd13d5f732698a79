/- The texts of words of chapter 9, of the model. -/
import Derived.Test.YtemooadcjdngdaaDoorLtS
import Derived.Test.YtemooadcjdngdaaDoorTgV
import Derived.Test.YtemooadcjdngdaaDoorRdL
import Derived.Deep.RegionHeld3
namespace Go.Proofs.YtemooadcjdngdaaDoor.Ints
open Go.RowKit
set_option linter.unusedVariables false
set_option linter.unusedSimpArgs false

/-- Some words' texts. -/
def txtW (zss : List (List Int)) : List UInt8 := Lib.join (zss.map (txtL 46)) [44]
/-- Words that have a text within the bounds. -/
def Wds (zss : List (List Int)) : Prop := zss.length ≤ 400 ∧ ∀ zs ∈ zss, Fit zs ∧ zs.length ≤ 1000
theorem Wds.letters {zss : List (List Int)} (h : Wds zss) : ∀ y ∈ zss.map (txtL 46), y.length ≤ 22001 := fun y hy => by
  obtain ⟨z, hz, rfl⟩ := List.mem_map.1 hy
  obtain ⟨h1, h2⟩ := h.2 z hz
  have := txtL_small 46 z h1
  omega
theorem Wds.small {zss : List (List Int)} (h : Wds zss) : (txtW zss).length ≤ 9000000 := by
  have h1 := join_small (zss.map (txtL 46)) [44] 22001 h.letters
  simp only [List.length_map, List.length_singleton] at h1
  have h2 := h.1
  unfold txtW
  omega
theorem wds_take {zss : List (List Int)} (h : Wds zss) (k : Nat) : (Lib.join ((zss.take k).map (txtL 46)) [44]).length ≤ 9000000 := by
  have : Wds (zss.take k) := ⟨by have := h.1; rw [List.length_take]; omega, fun z hz => h.2 z (List.mem_of_mem_take hz)⟩
  exact this.small
theorem wds_at {zss : List (List Int)} (h : Wds zss) (k : Nat) (hk : k < zss.length) : Fit (zss.getD k []) ∧ (zss.getD k []).length ≤ 1000 := by
  rw [List.getD_eq_getElem?_getD, List.getElem?_eq_getElem hk]
  exact h.2 _ (List.getElem_mem hk)
theorem map_take_succ {α β : Type} (f : α → β) (l : List α) (d : α) (k : Nat) (h : k < l.length) : (l.take (k + 1)).map f = (l.take k).map f ++ [f (l.getD k d)] := by
  rw [List.take_succ_eq_append_getElem h, List.map_append, List.getD_eq_getElem?_getD, List.getElem?_eq_getElem h]; rfl
theorem specLettersT (v : Value) (zs : List Int) (t : ByteArray) (w : World) (h : Rd w v zs) (hl : zs.length ≤ 2000) (ht : t = bs (txtL 46 zs)) :
    Calls Tryd.prog 88 #[v] w fun e w' => e = .returned (.string t) ∧ Below w.heap.size w w' := by subst ht; exact specLetters v zs w h hl
set_option maxHeartbeats 2000000 in
theorem specWords (v : Value) (zss : List (List Int)) (w : World) (h : RdL w v zss) (hw : Wds zss) :
    Calls Tryd.prog 69 #[v] w fun e w' => e = .returned (.string (bs (txtW zss))) ∧ Below w.heap.size w w' := by
  have HW8 := Lib.hid hw
  have hl8 := hw.1
  obtain ⟨hl, a, c, rfl, hcap, hr⟩ := h
  have HC := Lib.hid hr
  clear hr hw
  go_enter Tryd.func69, Tryd.ntmps69
  go_wp2
  go_loopw [3, 4] (fun s i wr => ∃ k : Nat, k ≤ zss.length ∧ i = .int .i64 k ∧ s = .string (bs (Lib.join ((zss.take k).map (txtL 46)) [44])) ∧ Below w.heap.size w wr) (fun _ i _ => zss.length - (intOf i).toNat)
  case atStart => exact ⟨0, Nat.zero_le _, rfl, rfl, Below.refl _ _⟩
  case round =>
    obtain ⟨k, hk, rfl, hs, hbel⟩ := hrel
    have HW := Lib.hid hbel
    by_cases hlt : k < zss.length
    · obtain ⟨b, o, rfl, hb, hcell⟩ := HC.out (by intro h0; rw [h0] at hlt; simp at hlt)
      obtain ⟨x, hx, hrx⟩ := hcell k hlt
      have hc : wr.cell? ⟨b, o + k, none⟩ = some x := (hbel.cell hb).trans hx
      have HR : Hid (Rd wr x (zss.getD k [])) := Lib.hid (hrx.below hbel (Nat.le_refl _))
      have HL : Hid ((zss.getD k []).length ≤ 2000) := Lib.hid (by have := (wds_at HW8.out k hlt).2; omega)
      have i0' : (0 : Int) ≤ (k : Int) := by omega
      have i1 : (k : Int) < (zss.length : Int) := by omega
      obtain ⟨s0, hs0⟩ : ∃ s, s = bs (Lib.join ((zss.take k).map (txtL 46)) [44]) := ⟨_, rfl⟩
      obtain ⟨t, ht⟩ : ∃ t, t = bs (txtL 46 (zss.getD k [])) := ⟨_, rfl⟩
      have HE : Hid (bs (Lib.join ((zss.take (k + 1)).map (txtL 46)) [44]) = if k = 0 then s0 ++ t else s0 ++ bs [44] ++ t) := Lib.hid (by
        rw [hs0, ht, map_take_succ _ _ [] _ hlt]
        by_cases hk0 : k = 0
        · subst hk0; rw [if_pos rfl, bs_append]; simp [Lib.join_one, Lib.join_nil]
        · rw [if_neg hk0, bs_append, bs_append, join_snoc _ _ _ (by intro hn; have h1 := congrArg List.length hn; rw [List.length_map, List.length_take, List.length_nil] at h1; omega)])
      have hss : s0.size ≤ 9000000 := by rw [hs0, bs_size]; exact wds_take HW8.out k
      have hts : t.size ≤ 22001 := by
        rw [ht, bs_size]
        have h1 := wds_at HW8.out k hlt
        have := txtL_small 46 _ h1.1
        omega
      rw [← hs0] at hs
      subst hs
      have HT := Lib.hid ht
      clear hbel hcell hx hrx ht hs0
      by_cases hk0 : k = 0
      · have HE2 : Hid (bs (Lib.join ((zss.take (k + 1)).map (txtL 46)) [44]) = s0 ++ t) := Lib.hid (by rw [HE.out, if_pos hk0])
        have hk1 : ¬ (0 : Int) < (k : Int) := by omega
        clear hk0
        go_wp2_with fail
        refine (specLettersT _ _ t _ HR.out HL.out HT.out).mono ?_
        rintro e w1 ⟨rfl, hb1⟩
        have HW1 := Lib.hid (HW.out.trans (hb1.mono HW.out.size))
        clear hb1
        go_wp2
        go_roundw
        case rel => exact ⟨k + 1, by omega, by go_num, by rw [HE2.out], HW1.out⟩
        case measure => simp [intOf]; omega
      · have HE2 : Hid (bs (Lib.join ((zss.take (k + 1)).map (txtL 46)) [44]) = s0 ++ bs [44] ++ t) := Lib.hid (by rw [HE.out, if_neg hk0])
        have hk1 : (0 : Int) < (k : Int) := by omega
        clear hk0
        go_wp2_with fail
        refine (specLettersT _ _ t _ HR.out HL.out HT.out).mono ?_
        rintro e w1 ⟨rfl, hb1⟩
        have HW1 := Lib.hid (HW.out.trans (hb1.mono HW.out.size))
        clear hb1
        go_wp2
        go_roundw
        case rel => exact ⟨k + 1, by omega, by go_num, by rw [HE2.out], HW1.out⟩
        case measure => simp [intOf]; omega
    · obtain rfl : k = zss.length := by omega
      have hnlt : ¬ ((zss.length : Int) < (zss.length : Int)) := by omega
      rw [List.take_length] at hs
      subst hs
      clear hbel hlt
      go_wp2
      go_ret
      exact ⟨rfl, HW.out⟩
theorem RdL.fit {w : World} {v : Value} {zss : List (List Int)} (h : RdL w v zss) : ∀ zs ∈ zss, Fit zs := fun zs hz => by
  obtain ⟨i, hi, rfl⟩ := List.getElem_of_mem hz
  obtain ⟨_, a, c, _, _, hr⟩ := h
  obtain ⟨b, o, _, _, hc⟩ := hr (List.ne_nil_of_mem hz)
  obtain ⟨x, _, hx⟩ := hc i hi
  obtain ⟨_, hf, _⟩ := hx
  rwa [List.getD_eq_getElem?_getD, List.getElem?_eq_getElem hi] at hf
theorem allQ_len {n : Int} {zss : List (List Int)} (h : allQ n zss = true) : ∀ zs ∈ zss, zs.length ≤ 1000 := fun zs hz => by
  rw [allQ, List.all_eq_true] at h
  exact (overB_ok (h zs hz)).1
theorem cyc_wds {w : World} {v : Value} {zss : List (List Int)} (h : RdL w v zss) (hc : cycB zss = true) : Wds zss := by
  simp only [cycB, Bool.and_eq_true, decide_eq_true_eq] at hc
  exact ⟨by omega, fun zs hz => ⟨h.fit zs hz, allQ_len hc.2 zs hz⟩⟩
noncomputable def cyV (zss : List (List Int)) : List UInt8 := if cycB zss = true then txtW zss else []
set_option maxHeartbeats 2000000 in
theorem specCyText (v : Value) (zss : List (List Int)) (w : World) (hv : RdL w v zss) :
    Calls Tryd.prog 30 #[.agg #[v]] w fun e w' => e = .returned (.string (bs (cyV zss))) ∧ Below w.heap.size w w' := by
  have HV := Lib.hid hv
  obtain ⟨_, a, c, rfl, _, _⟩ := hv
  obtain ⟨W0, hW0⟩ : ∃ W, W = w.alloc (Obj.cells #[.slice a zss.length c] 55) := ⟨_, rfl⟩
  have HB : Hid (Below w.heap.size w W0) := Lib.hid (by rw [hW0]; exact (Below.refl w.heap.size w).alloc (Nat.le_refl _) _)
  have K1 : Hid (Cels W0 w.heap.size 55 [.slice a zss.length c]) := Lib.hid (by rw [hW0]; exact Cels.new _ _ _)
  have HW0 := Lib.hid hW0.symm
  obtain ⟨ok, hok⟩ : ∃ b, b = cycB zss := ⟨_, rfl⟩
  have HOK := Lib.hid hok
  clear hok hW0
  go_enter Tryd.func30, Tryd.ntmps30
  go_wp2_with fail
  rw [HW0.out]
  go_wp2_with fail
  refine (specCycIs _ _ zss _ (HV.out.below HB.out (Nat.le_refl _)) K1.out).mono ?_
  rintro e w' ⟨rfl, rfl⟩
  rw [← HOK.out]
  rcases eqOr ok with hb | hb
  · subst hb
    go_wp2_with fail
    go_ret
    exact ⟨by rw [cyV, ← HOK.out]; rfl, HB.out⟩
  subst hb
  have k0 := K1.out.cell 0 rfl
  go_wp2_with fail
  refine (specWords _ zss _ (HV.out.below HB.out (Nat.le_refl _)) (cyc_wds HV.out HOK.out.symm)).mono ?_
  rintro e w1 ⟨rfl, hb1⟩
  have HB1 := Lib.hid (HB.out.trans (hb1.mono HB.out.size))
  clear hb1 k0
  go_wp2
  go_ret
  exact ⟨by rw [cyV, ← HOK.out]; rfl, HB1.out⟩
end Go.Proofs.YtemooadcjdngdaaDoor.Ints
