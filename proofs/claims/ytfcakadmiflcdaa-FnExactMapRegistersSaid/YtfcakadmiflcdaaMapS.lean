/- MapRegisters: the model's. -/
import Derived.Test.YtfcakadmiflcdaaMapR
namespace Go.Proofs.Ytfcakadmiflcdaa.Ints
open Go.RowKit
set_option linter.unusedVariables false
set_option linter.unusedSimpArgs false
theorem mp_step (rs : List Ins) (od : List Int) (k : Nat) (h : k < rs.length) (q : Ins) (hq : q = mpI od (rs.getD k zIns)) :
    ((mpL rs od).take k ++ rs.drop k).set k q = (mpL rs od).take (k + 1) ++ rs.drop (k + 1) := by
  have hk : ((mpL rs od).take k).length = k := by simp; omega
  rw [List.set_append_right _ _ (by rw [hk]; exact Nat.le_refl _), hk, Nat.sub_self, List.drop_eq_getElem_cons h, List.set_cons_zero, List.take_succ_eq_append_getElem (by simpa using h)]
  have : q = (mpL rs od)[k]'(by simpa using h) := by rw [hq, List.getD_eq_getElem?_getD, List.getElem?_eq_getElem h]; simp [mpL]
  rw [this, List.append_assoc]; rfl
theorem mp_get (rs : List Ins) (od : List Int) (k : Nat) (h : k < rs.length) : ((mpL rs od).take k ++ rs.drop k).getD k zIns = rs.getD k zIns := by
  have hk : ((mpL rs od).take k).length = k := by simp; omega
  simp only [List.getD_eq_getElem?_getD]
  rw [List.getElem?_append_right (by rw [hk]; exact Nat.le_refl _), hk, Nat.sub_self]
  simp
set_option maxHeartbeats 4000000 in
set_option maxRecDepth 100000 in
theorem specMapRegisters (v : Value) (rs : List Ins) (u0 : Value) (od : List Int) (w : World) (h : RdIns w v rs) (hu : Rd w u0 od) :
    Calls Try.prog 36 #[v, u0] w fun e w' => ∃ u, e = .returned (.tuple #[u, .int .i64 (mpC rs od)]) ∧ OwIns w' w.heap.size w'.heap.size u (mpR rs od) ∧ Below w.heap.size w w' := by
  have H := Lib.hid h
  have HU := Lib.hid hu
  have HFM := Lib.hid (mpL_fit h.fit hu.fit)
  obtain ⟨_, hf, a, c, rfl, _, hr⟩ := h
  obtain ⟨_, _, a2, c2, rfl, _, hr2⟩ := hu
  have HR := Lib.hid hr
  have HR2 := Lib.hid hr2
  have HFP := Lib.hid hf
  clear hr hr2 hf
  obtain ⟨ba, hba⟩ : ∃ b, b = progB rs := ⟨_, rfl⟩
  have HA := Lib.hid hba
  obtain ⟨bo, hbo⟩ : ∃ b, b = ordB 24 od := ⟨_, rfl⟩
  have HO := Lib.hid hbo
  clear hba hbo
  go_enter Try.func36, Try.ntmps36
  go_wp2_with fail
  refine (specPIs _ rs _ H.out).mono ?_
  rintro e w1 ⟨rfl, hb1⟩
  rw [← HA.out]
  have HB1 := Lib.hid hb1
  clear hb1
  rcases eqOr ba with hb | hb
  · subst hb
    have e := Lib.hid (mp_bad1 (od := od) HA.out.symm)
    go_wp2_with fail
    go_ret2
    exact ⟨_, by rw [e.out.2] <;> rfl, by rw [e.out.1]; exact OwIns.emptyUp HB1.out.size, HB1.out⟩
  subst hb
  go_wp2_with fail
  refine (specOrder _ od 24 _ (HU.out.below HB1.out (Nat.le_refl _)) (by omega)).mono ?_
  rintro e w2 ⟨rfl, hb1⟩
  rw [← HO.out]
  have HB2 := Lib.hid (HB1.out.trans (hb1.mono HB1.out.size))
  clear hb1
  rcases eqOr bo with hb | hb
  · subst hb
    have e := Lib.hid (mp_bad2 HA.out.symm HO.out.symm)
    go_wp2_with fail
    go_ret2
    exact ⟨_, by rw [e.out.2] <;> rfl, by rw [e.out.1]; exact OwIns.emptyUp HB2.out.size, HB2.out⟩
  subst hb
  have e := Lib.hid (mp_good HA.out.symm HO.out.symm)
  have HRG := Lib.hid (rg_in HA.out.symm HO.out.symm)
  have hl4 := (progB_ok HA.out.symm).len
  have hrow : (w2.alloc (.cells #[] 65)).ownsRow w.heap.size 65 4 (.slice (some ⟨w2.heap.size, 0, none⟩) 0 0) ([] : List Ins).length (csIns []) := World.ownsRow_made w2 #[] 0 HB2.out.size (by unfold maxLen; omega) (by simp)
  have HW := Lib.hid (HB2.out.alloc HB2.out.size (.cells #[] 65))
  have hszw := HW.out.size
  go_wp2_with (at_builtin; refine wpList_append_Ins rfl _ _ rfl w.heap.size _ _ [] rs rfl hrow rfl (H.out.below HW.out (Nat.le_refl _)) (by simp; omega) hszw ?_)
  intro v' w3 hown1 hgrow1
  have HB3 := Lib.hid (HW.out.grown hgrow1 hszw (fun k hk => by cases hk; exact HB2.out.size))
  have HO1 : Hid (OwIns w3 w.heap.size w3.heap.size v' rs) := Lib.hid ⟨by omega, HFP.out, by simpa using hown1, fun k hk => (hown1.lt k hk).2, Nat.le_refl _, HB3.out.size⟩
  obtain ⟨ga, gc, hv'⟩ := HO1.out.shape
  subst hv'
  clear hown1 hgrow1 hrow hszw
  go_wp2
  go_loopw [7] (fun s wr => ∃ k : Nat, k ≤ rs.length ∧ s = .int .i64 k ∧ OwIns wr w.heap.size w3.heap.size (.slice ga rs.length gc) ((mpL rs od).take k ++ rs.drop k) ∧ Below w.heap.size w wr) (fun s _ => rs.length - (intOf s).toNat)
  case atStart => exact ⟨0, Nat.zero_le _, rfl, by simpa using HO1.out, HB3.out⟩
  case round =>
    obtain ⟨k, hk, rfl, hor, hbr⟩ := hrel
    by_cases hlt : k < rs.length
    rotate_left
    · obtain rfl : k = rs.length := by omega
      have HOE := Lib.hid hor
      have HB := Lib.hid hbr
      clear hor hbr
      go_wp2
      go_ret2
      exact ⟨_, by rw [e.out.2] <;> rfl, by rw [e.out.1]; have := HOE.out; rw [List.take_of_length_le (by simp), List.drop_length, List.append_nil] at this; exact this.up, HB.out⟩
    obtain ⟨b, o, rfl, hb, hcell⟩ := HR.out (by intro h0; rw [h0] at hlt; simp at hlt)
    obtain ⟨_, c1, _, _⟩ := hcell k hlt
    replace c1 := (hbr.cell (p := ⟨b, o + k * 4 + 1, none⟩) hb).trans c1
    have hlen : ((mpL rs od).take k ++ rs.drop k).length = rs.length := by simp; omega
    rcases hor.form with ⟨hn, hz⟩ | ⟨g, gc', hv', hBg, hgT, _, _, hrow⟩
    · rw [hz] at hlen; simp at hlen; omega
    rw [hlen] at hv' hrow
    simp only [Value.slice.injEq] at hv'
    obtain ⟨rfl, _, rfl⟩ := hv'
    have hrgk := HRG.out k hlt
    obtain ⟨m, hm⟩ : ∃ m : Nat, (rs.getD k zIns).rg = (m : Int) := ⟨(rs.getD k zIns).rg.toNat, by omega⟩
    have hml : m < od.length := by omega
    obtain ⟨b2, o2, rfl, hb2, hcell2⟩ := HR2.out (by intro h0; rw [h0] at hml; simp at hml)
    have hc2 := (hbr.cell (p := ⟨b2, o2 + m, none⟩) hb2).trans (hcell2 m hml)
    have hstep := mp_step rs od k hlt { (rs.getD k zIns) with rg := od.getD m 0 } (by unfold mpI; rw [hm]; rfl)
    have hget := mp_get rs od k hlt
    obtain ⟨Z, hZ⟩ : ∃ Z, Z = (mpL rs od).take k ++ rs.drop k := ⟨_, rfl⟩
    rw [← hZ] at hor hrow hstep hget hlen
    rw [hm] at c1
    obtain ⟨y', hy'⟩ : ∃ y', y' = od.getD m 0 := ⟨_, rfl⟩
    rw [← hy'] at hc2 hstep
    obtain ⟨d0, d1, hs1, hg1⟩ := rowIns_set1 hrow (k := k) (by omega) y'
    rw [hget] at hs1
    rw [hstep] at hs1
    have hll : ((mpL rs od).take (k + 1) ++ rs.drop (k + 1)).length = rs.length := by simp; omega
    have HX : Hid (OwIns (wr.setCell ⟨g, k * 4 + 1, none⟩ (.int .i64 y')) w.heap.size w3.heap.size (.slice (some ⟨g, 0, none⟩) rs.length gc) ((mpL rs od).take (k + 1) ++ rs.drop (k + 1)) ∧ Below w.heap.size w (wr.setCell ⟨g, k * 4 + 1, none⟩ (.int .i64 y'))) := Lib.hid
      ⟨⟨by omega, fun q hq => by
        rcases List.mem_append.1 hq with hq | hq
        · exact HFM.out q (List.mem_of_mem_take hq)
        · exact HFP.out q (List.mem_of_mem_drop hq), by rw [hll]; exact hs1, hor.top, Nat.le_trans hor.size hg1.size, hor.base⟩, hbr.grown hg1 hbr.size (fun q hq => by cases hq; exact hBg)⟩
    have n0 : (0 : Int) ≤ (k : Int) := by omega
    have n1 : (k : Int) < (rs.length : Int) := by omega
    have m0 : (0 : Int) ≤ (m : Int) := by omega
    have m1 : (m : Int) < (od.length : Int) := by omega
    clear hcell hcell2 hor hbr hrow hstep hget hs1 hg1 hlen hll hZ hy' hm hrgk
    go_wp2
    go_roundw
    case rel => exact ⟨k + 1, by omega, by go_num, HX.out⟩
    case measure => simp [intOf]; omega
end Go.Proofs.Ytfcakadmiflcdaa.Ints
