/- The text of a list of numbers, of the program. -/
import Derived.Test.YtemooadcjdngdaaDoorLtS
import Derived.OwnWalk
namespace Go.Proofs.YtemooadcjdngdaaDoor.Ints
open Go.RowKit
set_option linter.unusedVariables false
set_option linter.unusedSimpArgs false
theorem closLt (x : Int) (b : Bool) (w : World) (h : b = true ↔ ¬ (-1000000000000 ≤ x ∧ x ≤ 1000000000000)) :
    Calls Tryd.prog 79 #[.int .i64 x] w fun e w' => e = .returned (.bool b) ∧ w = w' := by
  by_cases h1 : x < -1000000000000
  · have HF : Hid (b = true) := Lib.hid (h.2 (by omega))
    clear h
    go_enter Tryd.func79, Tryd.ntmps79
    go_wp2
    go_ret
    exact ⟨by rw [HF.out] <;> rfl, rfl⟩
  by_cases h2 : 1000000000000 < x
  · have HF : Hid (b = true) := Lib.hid (h.2 (by omega))
    have e1 : decide (x < -1000000000000) = false := decide_eq_false h1
    clear h
    go_enter Tryd.func79, Tryd.ntmps79
    go_wp2
    go_ret
    exact ⟨by rw [HF.out] <;> rfl, rfl⟩
  · have HF : Hid (b = false) := Lib.hid (by cases b with | false => rfl | true => exact absurd (h.1 rfl) (by omega))
    have e1 : decide (x < -1000000000000) = false := decide_eq_false h1
    have e2 : decide (1000000000000 < x) = false := decide_eq_false h2
    clear h
    go_enter Tryd.func79, Tryd.ntmps79
    go_wp2
    go_ret
    exact ⟨by rw [HF.out] <;> rfl, rfl⟩
set_option maxHeartbeats 1000000 in
theorem indexLt (v : Value) (zs : List Int) (w : World) (h : Rd w v zs) :
    Calls Tryd.prog 104 #[v, .func (Fn.func 79) #[] #[]] w fun e w' =>
      ∃ r : Int, e = .returned (.int .i64 r) ∧ decide (0 ≤ r) = !betB (-1000000000000) 1000000000000 zs ∧ w = w' := by
  obtain ⟨hl, hf, a, c, rfl, hcap, hr⟩ := h
  go_enter Tryd.func104, Tryd.ntmps104
  go_wp2
  go_loop [8] (fun s => ∃ k : Nat, k ≤ zs.length ∧ s = .int .i64 k ∧ ∀ i, i < k → -1000000000000 ≤ zs.getD i 0 ∧ zs.getD i 0 ≤ 1000000000000) (fun s => zs.length - (intOf s).toNat)
  case atStart => exact ⟨0, Nat.zero_le _, rfl, fun i hi => by omega⟩
  case round =>
    obtain ⟨k, hk, rfl, hall⟩ := hrel
    have HA := Lib.hid hall
    clear hall
    by_cases hlt : k < zs.length
    · obtain ⟨b, o, rfl, hb, hcell⟩ := hr (by intro h0; rw [h0] at hlt; simp at hlt)
      have hc := hcell k hlt
      obtain ⟨x, hx⟩ : ∃ x, x = zs.getD k 0 := ⟨_, rfl⟩
      rw [← hx] at hc
      have HX := Lib.hid hx
      clear hcell hr hx
      by_cases hg : -1000000000000 ≤ x ∧ x ≤ 1000000000000
      · have HN : Hid (∀ i, i < k + 1 → -1000000000000 ≤ zs.getD i 0 ∧ zs.getD i 0 ≤ 1000000000000) := Lib.hid (fun i hi => by
          by_cases he : i = k
          · subst he; rw [← HX.out]; exact hg
          · exact HA.out i (by omega))
        have HG := Lib.hid hg
        clear hg
        go_wp2_with fail
        refine (closLt x false _ ⟨(fun h => by cases h), (fun h => absurd HG.out h)⟩).mono ?_
        rintro e w' ⟨rfl, rfl⟩
        go_wp2
        go_round
        case rel => exact ⟨k + 1, by omega, by go_num, HN.out⟩
        case measure => simp [intOf]; omega
      · have HF : Hid (betB (-1000000000000) 1000000000000 zs = false) := Lib.hid (betB_false fun H => hg (by rw [HX.out]; exact H k hlt))
        have HG := Lib.hid hg
        clear hg
        go_wp2_with fail
        refine (closLt x true _ ⟨fun _ => HG.out, fun _ => rfl⟩).mono ?_
        rintro e w' ⟨rfl, rfl⟩
        go_wp2
        go_ret
        exact ⟨k, rfl, by rw [HF.out]; simp, rfl⟩
    · have HF : Hid (betB (-1000000000000) 1000000000000 zs = true) := Lib.hid (betB_true fun i hi => HA.out i (by omega))
      go_wp2
      go_ret
      exact ⟨-1, rfl, by rw [HF.out]; rfl, rfl⟩
theorem containsLt (v : Value) (zs : List Int) (w : World) (h : Rd w v zs) :
    Calls Tryd.prog 78 #[v, .func (Fn.func 79) #[] #[]] w fun e w' => e = .returned (.bool (!betB (-1000000000000) 1000000000000 zs)) ∧ w = w' := by
  have H := Lib.hid h
  clear h
  go_enter Tryd.func78, Tryd.ntmps78
  go_wp2_with fail
  refine (indexLt _ zs _ H.out).mono ?_
  rintro e w' ⟨r, rfl, hr, rfl⟩
  have HR := Lib.hid hr
  clear hr
  go_wp2
  go_ret
  exact ⟨by rw [← HR.out] <;> rfl, rfl⟩

theorem implHas (v : Value) (zs : List Int) (w : World) (h : Rd w v zs) :
    Calls Tryd.prog 46 #[v] w fun e w' => e = .returned (.bool (fitB zs)) ∧ w = w' := by
  have H := Lib.hid h
  obtain ⟨_, _, a, c, rfl, _, _⟩ := h
  obtain ⟨b, hb⟩ : ∃ b, b = betB (-1000000000000) 1000000000000 zs := ⟨_, rfl⟩
  have HB := Lib.hid hb
  by_cases hl : zs.length ≤ 64
  rotate_left
  · have e1 : decide ((zs.length : Int) ≤ 64) = false := decide_eq_false (by omega)
    have HF : Hid (fitB zs = false) := Lib.hid (by rw [fitB, decide_eq_false hl]; rfl)
    clear hb hl
    go_enter Tryd.func46, Tryd.ntmps46
    go_wp2_with fail
    go_ret
    exact ⟨by rw [HF.out] <;> rfl, rfl⟩
  have e1 : decide ((zs.length : Int) ≤ 64) = true := decide_eq_true (by omega)
  have HF : Hid (fitB zs = b) := Lib.hid (by rw [fitB, decide_eq_true hl, hb]; rfl)
  clear hb hl
  go_enter Tryd.func46, Tryd.ntmps46
  go_wp2_with fail
  refine (containsLt _ zs _ H.out).mono ?_
  rintro e w1 ⟨rfl, rfl⟩
  rw [← HB.out]
  go_wp2
  go_ret
  exact ⟨by rw [HF.out]; simp, rfl⟩
theorem strs_rep (ts : List (List UInt8)) (k n : Nat) (t : List UInt8) (h : ts.length = k) : (strs ts ++ List.replicate (n + 1) (Value.string ⟨#[]⟩)).set k (.string (bs t)) = strs (ts ++ [t]) ++ List.replicate n (Value.string ⟨#[]⟩) := by
  rw [strs_snoc, List.append_assoc, List.set_append_right _ _ (by rw [strs_len]; omega), strs_len, h, Nat.sub_self, List.replicate_succ]
  rfl
set_option maxHeartbeats 4000000 in
theorem implListText (v : Value) (zs : List Int) (w : World) (h : Rd w v zs) (ht : TabV w) :
    Calls Tryd.prog 14 #[v] w fun e w' => e = .returned (.string (bs (ltV zs))) ∧ Below w.heap.size w w' := by
  have H := Lib.hid h
  have HTb := Lib.hid ht
  obtain ⟨hl, hf, a, c, rfl, hcap, hr⟩ := h
  have HF := Lib.hid hf
  have HC := Lib.hid hr
  obtain ⟨ok, hok⟩ : ∃ b, b = fitB zs := ⟨_, rfl⟩
  have HOK := Lib.hid hok
  clear hok ht hf hr
  go_enter Tryd.func14, Tryd.ntmps14
  go_wp2_with fail
  refine (implHas _ zs _ H.out).mono ?_
  rintro e w' ⟨rfl, rfl⟩
  rw [← HOK.out]
  rcases eqOr ok with hb | hb
  · subst hb
    go_wp2
    go_ret
    exact ⟨by rw [ltV, if_neg (by rw [← HOK.out]; decide)]; rfl, Below.refl _ _⟩
  subst hb
  have HLV : Hid (ltV zs = txtL 44 zs) := Lib.hid (if_pos HOK.out.symm)
  have hl64 : zs.length ≤ 64 := by have := HOK.out; unfold fitB at this; simp at this; omega
  by_cases h0 : zs = []
  · subst h0
    have hzb : ((0 : Int) == 0) = true := rfl
    go_wp2
    go_ret
    exact ⟨by rw [HLV.out]; rfl, Below.refl _ _⟩
  have hpos : 0 < zs.length := List.length_pos_iff.2 h0
  have hzb : ((zs.length : Int) == 0) = false := by simpa using h0
  have HTX : Hid (txtL 44 zs = Lib.join (zs.map Lib.itoa) [44]) := Lib.hid (txtL_some h0)
  obtain ⟨i0, hi, hz0, hz1, hz2⟩ := info_parts infoS
  clear h0
  go_wp2_with (at_make; refine wpList_make_full _ rfl _ _ 73 rfl w.heap.size 9 i0 (.string ⟨#[]⟩) 1 Tryd.underlying73 hi hz0 hz1 _ _ _ _ zs.length rfl rfl rfl rfl ?b2 ?b3 (Nat.le_refl _) ?_)
  case b2 => rw [hz2]; omega
  case b3 => unfold maxLen; omega
  intro w0 hown0 hg0
  have HB0 : Hid (Below w.heap.size w w0) := Lib.hid ((Below.refl _ _).grown hg0 (Nat.le_refl _) (fun q hq => by cases hq))
  have HO0 : Hid (w0.ownsRow w.heap.size 9 1 (.slice (some ⟨w.heap.size, 0, none⟩) zs.length zs.length) zs.length (strs ((zs.take 0).map Lib.itoa) ++ List.replicate zs.length (Value.string ⟨#[]⟩))) := Lib.hid (by
    have e0 : (madeCells (Value.string ⟨#[]⟩).cells (zs.length * 1)).toList = List.replicate zs.length (Value.string ⟨#[]⟩) := by rw [Nat.mul_one]; exact toList_madeCells_one _ _
    have h2 := hown0
    first | (rw [e0] at h2; exact h2) | (rw [Nat.mul_one] at e0; rw [e0] at h2; exact h2) | (simpa [strs, toList_madeCells_one, Value.cells] using h2))
  have HLT : Hid (w.heap.size < w0.heap.size) := Lib.hid ((hown0.lt w.heap.size rfl).2)
  clear hown0 hg0
  go_wp2
  go_loopw [17] (fun s wr => ∃ k : Nat, k ≤ zs.length ∧ s = .int .i64 k ∧ wr.ownsRow w.heap.size 9 1 (.slice (some ⟨w.heap.size, 0, none⟩) zs.length zs.length) zs.length (strs ((zs.take k).map Lib.itoa) ++ List.replicate (zs.length - k) (Value.string ⟨#[]⟩)) ∧ Below w.heap.size w wr) (fun s _ => zs.length - (intOf s).toNat)
  case atStart => exact ⟨0, Nat.zero_le _, rfl, HO0.out, HB0.out⟩
  case round =>
    obtain ⟨k, hk, rfl, hown, hbel⟩ := hrel
    have HW := Lib.hid hbel
    by_cases hlt : k < zs.length
    · obtain ⟨b, o, rfl, hb, hcell⟩ := HC.out (by intro h0; rw [h0] at hlt; simp at hlt)
      obtain ⟨x, hx⟩ : ∃ x, x = zs.getD k 0 := ⟨_, rfl⟩
      have hc : wr.cell? ⟨b, o + k, none⟩ = some (.int .i64 x) := by rw [hx]; exact (hbel.cell hb).trans (hcell k hlt)
      have i0' : (0 : Int) ≤ (k : Int) := by omega
      have i1 : (k : Int) < (zs.length : Int) := by omega
      have HX : Hid (-9223372036854775808 ≤ x ∧ x ≤ 9223372036854775807) := Lib.hid (by rw [hx, List.getD_eq_getElem?_getD, List.getElem?_eq_getElem hlt]; exact HF.out _ (List.getElem_mem hlt))
      have HS : Hid ((zs.take (k + 1)).map Lib.itoa = (zs.take k).map Lib.itoa ++ [Lib.itoa x]) := Lib.hid (by
        rw [List.take_succ_eq_append_getElem hlt, List.map_append, hx, List.getD_eq_getElem?_getD, List.getElem?_eq_getElem hlt]; rfl)
      clear hbel hcell hx
      go_wp2_with fail
      refine (implDec x HX.out.1 HX.out.2 _ (HTb.out.below HW.out (Nat.le_refl _))).mono ?_
      rintro e w1 ⟨rfl, hb1⟩
      have hown1 := ownB_below hown hb1 (Nat.le_refl _)
      replace HW := Lib.hid (HW.out.trans (hb1.mono HW.out.size))
      have hf1 := hown1.frozenAt k
      have hc1 : ∃ y, w1.cell? ⟨w.heap.size, k, none⟩ = some y := ⟨_, (hown1.cellAt k (by omega)).trans (List.getElem?_eq_getElem (by rw [List.length_append, strs_len, List.length_replicate, List.length_map, List.length_take]; omega))⟩
      obtain ⟨y, hc1⟩ := hc1
      obtain ⟨t, ht⟩ : ∃ t, t = bs (Lib.itoa x) := ⟨_, rfl⟩
      obtain ⟨s1, g1⟩ := hown1.stored k (.string t)
      have HO : Hid ((w1.setCell ⟨w.heap.size, k, none⟩ (.string t)).ownsRow w.heap.size 9 1 (.slice (some ⟨w.heap.size, 0, none⟩) zs.length zs.length) zs.length (strs ((zs.take (k + 1)).map Lib.itoa) ++ List.replicate (zs.length - (k + 1)) (Value.string ⟨#[]⟩))) := Lib.hid (by
        rw [HS.out, ← strs_rep _ k _ _ (by rw [List.length_map, List.length_take]; omega), ← ht, show zs.length - (k + 1) + 1 = zs.length - k by omega]
        exact s1)
      have HG := Lib.hid (HW.out.grown g1 HW.out.size (fun q hq => by cases hq; exact Nat.le_refl _))
      rw [← ht]
      clear hb1 hown hown1 s1 g1 ht
      go_wp2
      go_roundw
      case rel => exact ⟨k + 1, by omega, by go_num, HO.out, HG.out⟩
      case measure => simp [intOf]; omega
    · obtain rfl : k = zs.length := by omega
      have HO : Hid (wr.ownsRow w.heap.size 9 1 (.slice (some ⟨w.heap.size, 0, none⟩) zs.length zs.length) (zs.map Lib.itoa).length (strs (zs.map Lib.itoa))) := Lib.hid (by
        rw [List.take_length, Nat.sub_self, List.replicate_zero, List.append_nil] at hown; rw [List.length_map]; exact hown)
      have HJ : Hid ((Lib.join (zs.map Lib.itoa) [44]).length ≤ 100000000) := Lib.hid (by have h1 := txtL_small 44 zs HF.out; rw [HTX.out] at h1; omega)
      have hnlt : ¬ ((zs.length : Int) < (zs.length : Int)) := by omega
      clear hown hbel hlt
      go_wp2_with fail
      refine (joinRow _ _ (zs.map Lib.itoa) [44] _ HO.out (by rw [List.length_map]; omega) HJ.out).mono ?_
      rintro e w2 ⟨rfl, hb2⟩
      have HB2 := Lib.hid (HW.out.trans (hb2.mono HW.out.size))
      clear hb2
      go_wp2
      go_ret
      exact ⟨by rw [HLV.out, HTX.out]; rfl, HB2.out⟩
end Go.Proofs.YtemooadcjdngdaaDoor.Ints
