/- The numerals of a list: the program's mapped. -/
import Derived.Test.YteihfohjmjlanaaDoorStr
namespace Go.Proofs.YteihfohjmjlanaaDoor.Ints
open Go.RowKit
set_option linter.unusedVariables false
set_option linter.unusedSimpArgs false

set_option maxHeartbeats 2000000 in
theorem mapDec (v : Value) (zs : List Int) (w : World) (h : Rd w v zs) (ht : TabV w) (hl8 : zs.length ≤ 1000000) :
    Calls Tryd.prog 67 #[v, .func (Fn.func 49) #[] #[]] w fun e w' => ∃ u, e = .returned u ∧ w'.ownsRow w.heap.size 9 1 u zs.length (strs (zs.map Lib.itoa)) ∧ Below w.heap.size w w' := by
  have HV := Lib.hid h
  have HT := Lib.hid ht
  obtain ⟨hl, hf, a, c, rfl, hcap, hr⟩ := h
  have HF := Lib.hid hf
  have HC := Lib.hid hr
  obtain ⟨i0, hi, hz0, hz1, hz2⟩ := info_parts infoS
  clear ht hf hr
  go_enter Tryd.func67, Tryd.ntmps67
  go_wp2
  go_loopw [5, 10] (fun o s wr => ∃ (k : Nat) (ov : Value), o = ov ∧ k ≤ zs.length ∧ s = .int .i64 k ∧ wr.ownsRow w.heap.size 9 1 ov k (strs ((zs.take k).map Lib.itoa)) ∧ Below w.heap.size w wr) (fun _ s _ => zs.length - (intOf s).toNat)
  case atStart => exact ⟨0, _, rfl, Nat.zero_le _, rfl, by simpa [strs] using World.ownsRow_nil w w.heap.size 9 1, Below.refl _ _⟩
  case round =>
    obtain ⟨k, ov, hov, hk, rfl, hown, hbel⟩ := hrel
    obtain rfl := hov.symm
    have HW := Lib.hid hbel
    by_cases hlt : k < zs.length
    · obtain ⟨b, o, rfl, hb, hcell⟩ := HC.out (by intro h0; rw [h0] at hlt; simp at hlt)
      obtain ⟨x, hx⟩ : ∃ x, x = zs.getD k 0 := ⟨_, rfl⟩
      have hc : wr.cell? ⟨b, o + k, none⟩ = some (.int .i64 x) := by rw [hx]; exact (hbel.cell hb).trans (hcell k hlt)
      have i0' : (0 : Int) ≤ (k : Int) := by omega
      have i1 : (k : Int) < (zs.length : Int) := by omega
      have HX : Hid (-9223372036854775808 ≤ x ∧ x ≤ 9223372036854775807) := Lib.hid (by rw [hx, List.getD_eq_getElem?_getD, List.getElem?_eq_getElem hlt]; exact HF.out _ (List.getElem_mem hlt))
      have HS : Hid ((zs.take (k + 1)).map Lib.itoa = (zs.take k).map Lib.itoa ++ [Lib.itoa x]) := Lib.hid (by
        rw [List.take_succ_eq_append_getElem hlt, List.map_append, hx, List.getD_eq_getElem?_getD, List.getElem?_eq_getElem hlt]; rfl)
      clear hbel hcell hx
      go_wp2_with fail
      refine (implDec x HX.out.1 HX.out.2 _ (HT.out.below HW.out (Nat.le_refl _))).mono ?_
      rintro e w1 ⟨rfl, hb1⟩
      have HO1 : Hid (w1.ownsRow w.heap.size 9 1 ov k (strs ((zs.take k).map Lib.itoa))) := Lib.hid (ownB_below hown hb1 (Nat.le_refl _))
      replace HW := Lib.hid (HW.out.trans (hb1.mono HW.out.size))
      have hsz := HW.out.size
      have hown1 := HO1.out
      obtain ⟨t, ht⟩ : ∃ t, t = bs (Lib.itoa x) := ⟨_, rfl⟩
      have HTt := Lib.hid ht
      rw [← ht]
      clear hb1 hown ht
      go_wp2_with (at_builtin; refine wpList_append_own _ rfl _ _ 70 rfl w.heap.size 9 i0 (.string ⟨#[]⟩) 1 16 Tryd.underlying70 hi hz0 hz1 hz2 rfl (by decide) _ _ _ rfl (hown1.alloc _) ⟨_, 0, none⟩ 1 1 [.string t] rfl rfl ?c1 ?c2 ?c3 ?c4 ?c5 ?_)
      try (case c1 => exact cellNewB _)
      case c2 => first | rfl | (intro u hu; simp at hu; subst hu; rfl)
      case c3 => unfold maxLen; omega
      case c4 => omega
      case c5 => first | omega | (simp; omega)
      intro v' w2 hown2 hgrow _
      have HO : Hid (w2.ownsRow w.heap.size 9 1 v' (k + 1) (strs ((zs.take (k + 1)).map Lib.itoa))) := Lib.hid (by rw [HS.out, strs_snoc, ← HTt.out]; first | exact hown2 | (rw [List.map_take]; exact hown2))
      have HQ := Lib.hid ((HW.out.alloc hsz (Obj.cells #[Value.string t] 9)).grown hgrow (by simp; omega) (fun q hq => (hown1.lt q hq).1))
      clear hown2 hgrow hown1 HO1
      go_wp2
      go_roundw
      case rel => exact ⟨k + 1, v', rfl, by omega, by go_num, HO.out, HQ.out⟩
      case measure => simp [intOf]; omega
    · obtain rfl : k = zs.length := by omega
      have HO : Hid (wr.ownsRow w.heap.size 9 1 ov zs.length (strs (zs.map Lib.itoa))) := Lib.hid (by rw [List.take_length] at hown; exact hown)
      have hnlt : ¬ ((zs.length : Int) < (zs.length : Int)) := by omega
      clear hown hbel hlt
      go_wp2
      go_ret
      exact ⟨_, rfl, HO.out, HW.out⟩
end Go.Proofs.YteihfohjmjlanaaDoor.Ints
