/- RegistersOf: the model's and the program's. -/
import Derived.Test.YtfcakadmiflcdaaPut
import Derived.Test.YtfcakadmiflcdaaSrtI
import Derived.Test.YtfcakadmiflcdaaPrgS
import Derived.Test.YtfcakadmiflcdaaPrgI
namespace Go.Proofs.Ytfcakadmiflcdaa.Ints
open Go.RowKit
set_option linter.unusedVariables false
set_option linter.unusedSimpArgs false
def rgs (rs : List Ins) : List Int := rs.map Ins.rg
def regsL (rs : List Ins) : List Int := Lib.compact (srt (rgs rs))
noncomputable def rgR (rs : List Ins) : List Int := if progB rs = true then regsL rs else []
noncomputable def rgC (rs : List Ins) : Int := if progB rs = true then 0 else 1
theorem rg_bad {rs : List Ins} (h : progB rs = false) : rgR rs = [] ∧ rgC rs = 1 := by simp [rgR, rgC, h]
theorem rg_good {rs : List Ins} (h : progB rs = true) : rgR rs = regsL rs ∧ rgC rs = 0 := by simp [rgR, rgC, h]
theorem rgs_snoc (rs : List Ins) (k : Nat) (h : k < rs.length) : rgs (rs.take (k + 1)) = rgs (rs.take k) ++ [(rs.getD k zIns).rg] := by
  rw [List.take_succ_eq_append_getElem h, List.getD_eq_getElem?_getD, List.getElem?_eq_getElem h]
  unfold rgs
  rw [List.map_append]; rfl
theorem rgs_fit {rs : List Ins} (h : FitIns rs) (k : Nat) : Fit (rgs (rs.take k)) := fun z hz => by
  simp only [rgs, List.mem_map] at hz
  obtain ⟨r, hr, rfl⟩ := hz
  exact (h r (List.mem_of_mem_take hr)).2.1
/-- The model's list of all registers: each once, rising. -/
theorem regs_unique {rs : List Ins} {X : List Int} (h1 : X.Pairwise (· < ·)) (h2 : ∀ z, z ∈ X ↔ z ∈ rgs rs) : X = regsL rs :=
  lt_unique h1 (compact_lt (srt_sorted _)) (fun z => by rw [h2, regsL, compact_mem, (srt_perm _).mem_iff])
theorem closRg (x y z u : Int) (w : World) : Calls Try.prog 67 #[.agg #[.int .i64 x, .int .i64 y, .int .i64 z, .int .i64 u]] w fun e w' => e = .returned (.int .i64 y) ∧ Below w.heap.size w w' := by
  go_enter Try.func67, Try.ntmps67
  go_wp2
  go_ret
  exact ⟨rfl, (Below.refl _ _).alloc (Nat.le_refl _) _⟩
set_option maxHeartbeats 2000000 in
theorem implMapRg (v : Value) (rs : List Ins) (w : World) (h : RdIns w v rs) :
    Calls Try.prog 66 #[v, .func (Fn.func 67) #[] #[]] w fun e w' => ∃ u, e = .returned u ∧ Ow w' w.heap.size w'.heap.size u (rgs rs) ∧ Below w.heap.size w w' := by
  obtain ⟨hl, hf, a, c, rfl, hcap, hr⟩ := h
  have HR := Lib.hid hr
  have HF := Lib.hid hf
  obtain ⟨i0, hi, hz0, hz1, hz2⟩ := info_parts infoE
  clear hr hf
  go_enter Try.func66, Try.ntmps66
  go_wp2
  go_loopw [5, 10] (fun q s wr => ∃ k : Nat, k ≤ rs.length ∧ s = .int .i64 k ∧ Ow wr w.heap.size wr.heap.size q (rgs (rs.take k)) ∧ Below w.heap.size w wr) (fun _ s _ => rs.length - (intOf s).toNat)
  case atStart => exact ⟨0, Nat.zero_le _, rfl, Ow.emptyUp (Nat.le_refl _), Below.refl _ _⟩
  case round =>
    obtain ⟨k, hk, rfl, hor, hbr⟩ := hrel
    obtain ⟨gq, cq, hq⟩ := hor.shape
    subst hq
    by_cases hlt : k < rs.length
    · obtain ⟨b, o, rfl, hb, hcell⟩ := HR.out (by intro h0; rw [h0] at hlt; simp at hlt)
      obtain ⟨c0, c1, c2, c3⟩ := hcell k hlt
      replace c0 := (hbr.cell (p := ⟨b, o + k * 4, none⟩) hb).trans c0
      replace c1 := (hbr.cell (p := ⟨b, o + k * 4 + 1, none⟩) hb).trans c1
      replace c2 := (hbr.cell (p := ⟨b, o + k * 4 + 2, none⟩) hb).trans c2
      replace c3 := (hbr.cell (p := ⟨b, o + k * 4 + 3, none⟩) hb).trans c3
      have HSN := Lib.hid (rgs_snoc rs k hlt)
      have hyf := (HF.out.at k).2.1
      obtain ⟨r, hr0⟩ : ∃ r, r = rs.getD k zIns := ⟨_, rfl⟩
      rw [← hr0] at c0 c1 c2 c3 HSN hyf
      obtain ⟨x, y, z, u⟩ := r
      have hlr : (rgs (rs.take k)).length ≤ 16777216 := hor.len
      have hlr2 : (rgs (rs.take k)).length ≤ k := by simp [rgs]; omega
      obtain ⟨Z, hZ⟩ : ∃ Z, Z = rgs (rs.take k) := ⟨_, rfl⟩
      rw [← hZ] at hor hlr hlr2 HSN ⊢
      have HYF := Lib.hid hyf
      have HOR := Lib.hid hor
      have HBR := Lib.hid hbr
      have hb0 : ∀ ob : Obj, Hid (Below wr.heap.size wr (wr.alloc ob)) := fun ob => Lib.hid ((Below.refl _ _).alloc (Nat.le_refl _) ob)
      have i0' : (0 : Int) ≤ (k : Int) := by omega
      have i1' : (k : Int) < (rs.length : Int) := by omega
      clear hcell hr0 hor hbr hyf hZ
      go_wp2_with fail
      refine (closRg x y z u _).mono ?_
      rintro e1 w1 ⟨rfl, hb1⟩
      have HBX := Lib.hid ((hb0 _).out.trans (hb1.mono (hb0 _).out.size))
      have HO1 := Lib.hid (HOR.out.below HBX.out (Nat.le_refl _)).up
      have HB1 := Lib.hid (HBR.out.trans (HBX.out.mono HBR.out.size))
      have hown := HO1.out.row
      have hbs := HO1.out.base
      clear hb1
      go_wp2_with (at_builtin; refine wpList_append_own _ rfl _ _ 29 rfl w.heap.size 2 i0 (.int .i64 0) 1 8 Try.underlying29 hi hz0 hz1 hz2 rfl (by decide) _ _ _ rfl (hown.alloc _) ⟨_, 0, none⟩ 1 1 [.int .i64 y] rfl rfl ?c1 ?c2 ?c3 ?c4 ?c5 ?_)
      (try case c1 => exact cellNew _ _ _)
      case c2 => first | exact oneCell _ | rfl
      case c3 => unfold maxLen; omega
      case c4 => omega
      case c5 => first | omega | (simp; omega)
      intro v5 w5 hown6 hgrow6 _
      obtain ⟨hs1, hs2⟩ := HO1.out.snoc (x := y) HYF.out (by omega) hown6 hgrow6
      have HO6 := Lib.hid hs1
      have HB6 := Lib.hid (HB1.out.trans hs2)
      clear hown6 hgrow6 hown hs1 hs2
      go_wp2
      go_roundw
      case rel => exact ⟨k + 1, by omega, by go_num, by rw [HSN.out]; exact HO6.out, HB6.out⟩
      case measure => simp [intOf]; omega
    · obtain rfl : k = rs.length := by omega
      rw [List.take_length] at hor ⊢
      have HOR := Lib.hid hor
      have HBR := Lib.hid hbr
      clear hor hbr
      go_wp2
      go_ret
      exact ⟨_, rfl, HOR.out, HBR.out⟩
set_option maxHeartbeats 2000000 in
theorem implRegistersOf (v : Value) (rs : List Ins) (w : World) (h : RdIns w v rs) :
    Calls Try.prog 34 #[v] w fun e w' => ∃ u, e = .returned (.tuple #[u, .int .i64 (rgC rs)]) ∧ Ow w' w.heap.size w'.heap.size u (rgR rs) ∧ Below w.heap.size w w' := by
  have H := Lib.hid h
  obtain ⟨_, _, a, c, rfl, _, _⟩ := h
  obtain ⟨ba, hba⟩ : ∃ b, b = progB rs := ⟨_, rfl⟩
  have HA := Lib.hid hba
  clear hba
  go_enter Try.func34, Try.ntmps34
  go_wp2_with fail
  refine (implValidProgram _ rs _ H.out).mono ?_
  rintro e w1 ⟨rfl, hb1⟩
  rw [← HA.out]
  have HB1 := Lib.hid hb1
  clear hb1
  rcases eqOr ba with hb | hb
  · subst hb
    have e := Lib.hid (rg_bad HA.out.symm)
    go_wp2_with fail
    go_ret2
    exact ⟨_, by rw [e.out.2] <;> rfl, by rw [e.out.1]; exact Ow.emptyUp HB1.out.size, HB1.out⟩
  subst hb
  have e := Lib.hid (rg_good HA.out.symm)
  go_wp2_with fail
  refine (implMapRg _ rs _ (H.out.below HB1.out (Nat.le_refl _))).mono ?_
  rintro e1 w2 ⟨u, rfl, ho, hb⟩
  have HO := Lib.hid ho
  have HB2 := Lib.hid (HB1.out.trans (hb.mono HB1.out.size))
  obtain ⟨ga, gc, hu⟩ := ho.shape
  subst hu
  clear ho hb
  go_wp2_with fail
  refine (implSortList _ (rgs rs) _ HO.out.rd).mono ?_
  rintro e1 w3 ⟨u, rfl, ho, hb⟩
  have HO3 := Lib.hid ho
  have HB3 := Lib.hid (HB2.out.trans (hb.mono HB2.out.size))
  have hsz := HB2.out.size
  obtain ⟨gb, gd, hu⟩ := ho.shape
  rw [srt_length] at hu
  subst hu
  clear ho hb
  go_wp2_with fail
  refine (libCompact _ (srt (rgs rs)) _ _ _ HO3.out).mono ?_
  rintro e1 w4 ⟨u, rfl, ho, hg⟩
  have HO4 := Lib.hid ((ho.mono (Nat.le_refl _) ho.size (Nat.le_refl _)).mono hsz (Nat.le_refl _) (Nat.le_refl _))
  have HB4 := Lib.hid (HB3.out.trans ((grown_below HO3.out hg).mono hsz))
  clear ho hg
  go_wp2_with fail
  go_ret2
  exact ⟨_, by rw [e.out.2] <;> rfl, by rw [e.out.1]; exact HO4.out, HB4.out⟩
set_option maxHeartbeats 2000000 in
theorem specRegistersOf (v : Value) (rs : List Ins) (w : World) (h : RdIns w v rs) :
    Calls Try.prog 33 #[v] w fun e w' => ∃ u, e = .returned (.tuple #[u, .int .i64 (rgC rs)]) ∧ Ow w' w.heap.size w'.heap.size u (rgR rs) ∧ Below w.heap.size w w' := by
  have H := Lib.hid h
  obtain ⟨_, hf, a, c, rfl, _, hr⟩ := h
  have HR := Lib.hid hr
  have HF := Lib.hid hf
  clear hr hf
  obtain ⟨ba, hba⟩ : ∃ b, b = progB rs := ⟨_, rfl⟩
  have HA := Lib.hid hba
  clear hba
  go_enter Try.func33, Try.ntmps33
  go_wp2_with fail
  refine (specPIs _ rs _ H.out).mono ?_
  rintro e w1 ⟨rfl, hb1⟩
  rw [← HA.out]
  have HB1 := Lib.hid hb1
  clear hb1
  rcases eqOr ba with hb | hb
  · subst hb
    have e := Lib.hid (rg_bad HA.out.symm)
    go_wp2_with fail
    go_ret2
    exact ⟨_, by rw [e.out.2] <;> rfl, by rw [e.out.1]; exact Ow.emptyUp HB1.out.size, HB1.out⟩
  subst hb
  have e := Lib.hid (rg_good HA.out.symm)
  have hlp := (progB_ok HA.out.symm).len
  have HO1 := Lib.hid ((Ow.made w1).mono HB1.out.size (Nat.le_refl _) (Nat.le_refl _))
  have HB2 : Hid (Below w.heap.size w (w1.alloc (.cells #[] 2))) := Lib.hid (HB1.out.alloc HB1.out.size _)
  go_wp2
  go_loopw [4, 5] (fun q s wr => ∃ k : Nat, ∃ X : List Int, k ≤ rs.length ∧ s = .int .i64 k ∧ Ow wr w.heap.size wr.heap.size q X ∧ X.length ≤ k ∧ X.Pairwise (· < ·) ∧ (∀ z, z ∈ X ↔ z ∈ rgs (rs.take k)) ∧ Below w.heap.size w wr) (fun _ s _ => rs.length - (intOf s).toNat)
  case atStart => exact ⟨0, [], Nat.zero_le _, rfl, HO1.out, by simp, by simp, fun z => by simp [rgs], HB2.out⟩
  case round =>
    obtain ⟨k, X, hk, rfl, hor, hxl, hxp, hxm, hbr⟩ := hrel
    obtain ⟨gq, cq, hq⟩ := hor.shape
    subst hq
    have HXP := Lib.hid hxp
    have HXM := Lib.hid hxm
    clear hxp hxm
    by_cases hlt : k < rs.length
    · obtain ⟨b, o, rfl, hb, hcell⟩ := HR.out (by intro h0; rw [h0] at hlt; simp at hlt)
      obtain ⟨_, c1, _, _⟩ := hcell k hlt
      replace c1 := (hbr.cell (p := ⟨b, o + k * 4 + 1, none⟩) hb).trans c1
      have HSN := Lib.hid (rgs_snoc rs k hlt)
      have hyf := (HF.out.at k).2.1
      obtain ⟨y, hy⟩ : ∃ y, y = (rs.getD k zIns).rg := ⟨_, rfl⟩
      rw [← hy] at c1 HSN hyf
      have HYF := Lib.hid hyf
      have HOR := Lib.hid hor
      have HBR := Lib.hid hbr
      have i0' : (0 : Int) ≤ (k : Int) := by omega
      have i1' : (k : Int) < (rs.length : Int) := by omega
      clear hcell hy hor hbr hyf
      go_wp2_with fail
      refine (specPut _ X y _ HOR.out.rd HYF.out (by omega)).mono ?_
      rintro e1 w2 ⟨u, rfl, ho, hb⟩
      have HO2 := Lib.hid (ho.mono HBR.out.size (Nat.le_refl _) (Nat.le_refl _))
      have HBB := Lib.hid (HBR.out.trans (hb.mono HBR.out.size))
      have hpl := put_length X y
      have HPL : Hid ((put X y).length ≤ k + 1) := Lib.hid (by omega)
      have HPP := Lib.hid (put_lt y HXP.out)
      have HPM : Hid (∀ z, z ∈ put X y ↔ z ∈ rgs (rs.take (k + 1))) := Lib.hid (fun z => by rw [put_mem, HSN.out, HXM.out z]; simp)
      clear ho hb hpl
      go_wp2
      go_roundw
      case rel => exact ⟨k + 1, _, by omega, by go_num, HO2.out, HPL.out, HPP.out, HPM.out, HBB.out⟩
      case measure => simp [intOf]; omega
    · obtain rfl : k = rs.length := by omega
      have HE := Lib.hid (regs_unique HXP.out (by have := HXM.out; rwa [List.take_length] at this))
      have HOR := Lib.hid hor
      have HBR := Lib.hid hbr
      clear hor hbr
      go_wp2
      go_ret2
      exact ⟨_, by rw [e.out.2] <;> rfl, by rw [e.out.1, ← HE.out]; exact HOR.out, HBR.out⟩
end Go.Proofs.Ytfcakadmiflcdaa.Ints
