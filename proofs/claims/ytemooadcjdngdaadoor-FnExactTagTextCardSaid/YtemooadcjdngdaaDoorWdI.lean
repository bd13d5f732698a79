/- The texts of words of chapter 9, of the program. -/
import Derived.Test.YtemooadcjdngdaaDoorMapD
import Derived.Test.YtemooadcjdngdaaDoorWdS
namespace Go.Proofs.YtemooadcjdngdaaDoor.Ints
open Go.RowKit
set_option linter.unusedVariables false
set_option linter.unusedSimpArgs false

theorem implTagWord' (v : Value) (zs : List Int) (w : World) (h : Rd w v zs) (ht : TabV w) (hl8 : zs.length ≤ 1000) :
    Calls Tryd.prog 66 #[v] w fun e w' => e = .returned (.string (bs (txtL 46 zs))) ∧ Below w.heap.size w w' := by
  have H := Lib.hid h
  have HT := Lib.hid ht
  obtain ⟨_, hf, a, c, rfl, _, _⟩ := h
  have HF := Lib.hid hf
  clear ht hf
  by_cases h0 : zs = []
  · subst h0
    go_enter Tryd.func66, Tryd.ntmps66
    go_wp2
    go_ret
    exact ⟨rfl, Below.refl _ _⟩
  have hpos : 0 < zs.length := List.length_pos_iff.2 h0
  have hzb : ((zs.length : Int) == 0) = false := by simpa using h0
  have HG : Hid (txtL 46 zs = Lib.join (zs.map Lib.itoa) [46]) := Lib.hid (txtL_some h0)
  have HJ : Hid ((Lib.join (zs.map Lib.itoa) [46]).length ≤ 100000000) := Lib.hid (by have h1 := txtL_small 46 zs HF.out; rw [txtL_some h0] at h1; omega)
  clear h0
  go_enter Tryd.func66, Tryd.ntmps66
  go_wp2_with fail
  refine (mapDec _ zs _ H.out HT.out (by omega)).mono ?_
  rintro e w1 ⟨u, rfl, hr1, hb1⟩
  have HR1 : Hid (w1.ownsRow w.heap.size 9 1 u (zs.map Lib.itoa).length (strs (zs.map Lib.itoa))) := Lib.hid (by rw [List.length_map]; exact hr1)
  have HB1 := Lib.hid hb1
  clear hb1 hr1
  go_wp2_with fail
  refine (joinRow _ _ (zs.map Lib.itoa) [46] _ HR1.out (by rw [List.length_map]; omega) HJ.out).mono ?_
  rintro e w2 ⟨rfl, hb2⟩
  have HB2 := Lib.hid (HB1.out.trans (hb2.mono HB1.out.size))
  clear hb2
  go_wp2
  go_ret
  exact ⟨by rw [HG.out]; rfl, HB2.out⟩
set_option maxHeartbeats 2000000 in
theorem mapWds (v : Value) (zss : List (List Int)) (w : World) (h : RdL w v zss) (ht : TabV w) (hw8 : Wds zss) :
    Calls Tryd.prog 92 #[v, .func (Fn.func 66) #[] #[]] w fun e w' => ∃ u, e = .returned u ∧ w'.ownsRow w.heap.size 9 1 u zss.length (strs (zss.map (txtL 46))) ∧ Below w.heap.size w w' := by
  have HV := Lib.hid h
  have HT := Lib.hid ht
  have HW8 := Lib.hid hw8
  have hl8 := hw8.1
  obtain ⟨hl, a, c, rfl, hcap, hr⟩ := h
  have HC := Lib.hid hr
  obtain ⟨i0, hi, hz0, hz1, hz2⟩ := info_parts infoS
  clear ht hw8 hr
  go_enter Tryd.func92, Tryd.ntmps92
  go_wp2
  go_loopw [5, 10] (fun o s wr => ∃ (k : Nat) (ov : Value), o = ov ∧ k ≤ zss.length ∧ s = .int .i64 k ∧ wr.ownsRow w.heap.size 9 1 ov k (strs ((zss.take k).map (txtL 46))) ∧ Below w.heap.size w wr) (fun _ s _ => zss.length - (intOf s).toNat)
  case atStart => exact ⟨0, _, rfl, Nat.zero_le _, rfl, by simpa [strs] using World.ownsRow_nil w w.heap.size 9 1, Below.refl _ _⟩
  case round =>
    obtain ⟨k, ov, hov, hk, rfl, hown, hbel⟩ := hrel
    obtain rfl := hov.symm
    have HW := Lib.hid hbel
    by_cases hlt : k < zss.length
    · obtain ⟨b, o, rfl, hb, hcell⟩ := HC.out (by intro h0; rw [h0] at hlt; simp at hlt)
      obtain ⟨x, hx, hrx⟩ := hcell k hlt
      have hc : wr.cell? ⟨b, o + k, none⟩ = some x := (hbel.cell hb).trans hx
      have HR : Hid (Rd wr x (zss.getD k [])) := Lib.hid (hrx.below hbel (Nat.le_refl _))
      have HL : Hid ((zss.getD k []).length ≤ 1000) := Lib.hid (wds_at HW8.out k hlt).2
      have i0' : (0 : Int) ≤ (k : Int) := by omega
      have i1 : (k : Int) < (zss.length : Int) := by omega
      have HS : Hid ((zss.take (k + 1)).map (txtL 46) = (zss.take k).map (txtL 46) ++ [txtL 46 (zss.getD k [])]) := Lib.hid (map_take_succ _ _ [] _ hlt)
      clear hbel hcell hx hrx
      go_wp2_with fail
      refine (implTagWord' _ _ _ HR.out (HT.out.below HW.out (Nat.le_refl _)) HL.out).mono ?_
      rintro e w1 ⟨rfl, hb1⟩
      have HO1 : Hid (w1.ownsRow w.heap.size 9 1 ov k (strs ((zss.take k).map (txtL 46)))) := Lib.hid (ownB_below hown hb1 (Nat.le_refl _))
      replace HW := Lib.hid (HW.out.trans (hb1.mono HW.out.size))
      have hsz := HW.out.size
      have hown1 := HO1.out
      obtain ⟨t, ht⟩ : ∃ t, t = bs (txtL 46 (zss.getD k [])) := ⟨_, rfl⟩
      have HTt := Lib.hid ht
      rw [← ht]
      clear hb1 hown ht
      go_wp2_with (at_builtin; refine wpList_append_own _ rfl _ _ 73 rfl w.heap.size 9 i0 (.string ⟨#[]⟩) 1 16 Tryd.underlying73 hi hz0 hz1 hz2 rfl (by decide) _ _ _ rfl (hown1.alloc _) ⟨_, 0, none⟩ 1 1 [.string t] rfl rfl ?c1 ?c2 ?c3 ?c4 ?c5 ?_)
      try (case c1 => exact cellNewB _)
      case c2 => first | rfl | (intro u hu; simp at hu; subst hu; rfl)
      case c3 => unfold maxLen; omega
      case c4 => omega
      case c5 => first | omega | (simp; omega)
      intro v' w2 hown2 hgrow _
      have HO : Hid (w2.ownsRow w.heap.size 9 1 v' (k + 1) (strs ((zss.take (k + 1)).map (txtL 46)))) := Lib.hid (by rw [HS.out, strs_snoc, ← HTt.out]; first | exact hown2 | (rw [List.map_take]; exact hown2))
      have HQ := Lib.hid ((HW.out.alloc hsz (Obj.cells #[Value.string t] 9)).grown hgrow (by simp; omega) (fun q hq => (hown1.lt q hq).1))
      clear hown2 hgrow hown1 HO1
      go_wp2
      go_roundw
      case rel => exact ⟨k + 1, v', rfl, by omega, by go_num, HO.out, HQ.out⟩
      case measure => simp [intOf]; omega
    · obtain rfl : k = zss.length := by omega
      have HO : Hid (wr.ownsRow w.heap.size 9 1 ov zss.length (strs (zss.map (txtL 46)))) := Lib.hid (by rw [List.take_length] at hown; exact hown)
      have hnlt : ¬ ((zss.length : Int) < (zss.length : Int)) := by omega
      clear hown hbel hlt
      go_wp2
      go_ret
      exact ⟨_, rfl, HO.out, HW.out⟩

theorem implTagWords (v : Value) (zss : List (List Int)) (w : World) (h : RdL w v zss) (ht : TabV w) (hw : Wds zss) :
    Calls Tryd.prog 65 #[v] w fun e w' => e = .returned (.string (bs (txtW zss))) ∧ Below w.heap.size w w' := by
  have H := Lib.hid h
  have HT := Lib.hid ht
  have HW := Lib.hid hw
  have HJ : Hid ((Lib.join (zss.map (txtL 46)) [44]).length ≤ 100000000) := Lib.hid (by have := hw.small; unfold txtW at this; omega)
  have hl8 := hw.1
  clear h ht hw
  go_enter Tryd.func65, Tryd.ntmps65
  go_wp2_with fail
  refine (mapWds _ zss _ H.out HT.out HW.out).mono ?_
  rintro e w1 ⟨u, rfl, hr1, hb1⟩
  have HR1 : Hid (w1.ownsRow w.heap.size 9 1 u (zss.map (txtL 46)).length (strs (zss.map (txtL 46)))) := Lib.hid (by rw [List.length_map]; exact hr1)
  have HB1 := Lib.hid hb1
  clear hb1 hr1
  go_wp2_with fail
  refine (joinRow _ _ (zss.map (txtL 46)) [44] _ HR1.out (by rw [List.length_map]; omega) HJ.out).mono ?_
  rintro e w2 ⟨rfl, hb2⟩
  have HB2 := Lib.hid (HB1.out.trans (hb2.mono HB1.out.size))
  clear hb2
  go_wp2
  go_ret
  exact ⟨rfl, HB2.out⟩
set_option maxHeartbeats 2000000 in
theorem implCyText (v : Value) (zss : List (List Int)) (w : World) (hv : RdL w v zss) (ht : TabV w) :
    Calls Tryd.prog 32 #[.agg #[v]] w fun e w' => e = .returned (.string (bs (cyV zss))) ∧ Below w.heap.size w w' := by
  have HV := Lib.hid hv
  have HTb := Lib.hid ht
  obtain ⟨_, a, c, rfl, _, _⟩ := hv
  obtain ⟨W0, hW0⟩ : ∃ W, W = w.alloc (Obj.cells #[.slice a zss.length c] 55) := ⟨_, rfl⟩
  have HB : Hid (Below w.heap.size w W0) := Lib.hid (by rw [hW0]; exact (Below.refl w.heap.size w).alloc (Nat.le_refl _) _)
  have K1 : Hid (Cels W0 w.heap.size 55 [.slice a zss.length c]) := Lib.hid (by rw [hW0]; exact Cels.new _ _ _)
  have HW0 := Lib.hid hW0.symm
  obtain ⟨ok, hok⟩ : ∃ b, b = cycB zss := ⟨_, rfl⟩
  have HOK := Lib.hid hok
  clear hok hW0 ht
  go_enter Tryd.func32, Tryd.ntmps32
  go_wp2_with fail
  rw [HW0.out]
  have k0 := K1.out.cell 0 rfl
  go_wp2_with fail
  refine (implValidCyc _ zss _ (HV.out.below HB.out (Nat.le_refl _))).mono ?_
  rintro e w1 ⟨rfl, hb1⟩
  rw [← HOK.out]
  replace K1 := Lib.hid (K1.out.below hb1 K1.out.lt)
  have HB1 := Lib.hid (HB.out.trans (hb1.mono HB.out.size))
  clear hb1 k0
  rcases eqOr ok with hb | hb
  · subst hb
    go_wp2_with fail
    go_ret
    exact ⟨by rw [cyV, ← HOK.out]; rfl, HB1.out⟩
  subst hb
  have k0 := K1.out.cell 0 rfl
  go_wp2_with fail
  refine (implTagWords _ zss _ (HV.out.below HB1.out (Nat.le_refl _)) (HTb.out.below HB1.out (Nat.le_refl _)) (cyc_wds HV.out HOK.out.symm)).mono ?_
  rintro e w2 ⟨rfl, hb2⟩
  have HB2 := Lib.hid (HB1.out.trans (hb2.mono HB1.out.size))
  clear hb2 k0
  go_wp2
  go_ret
  exact ⟨by rw [cyV, ← HOK.out]; rfl, HB2.out⟩
end Go.Proofs.YtemooadcjdngdaaDoor.Ints
