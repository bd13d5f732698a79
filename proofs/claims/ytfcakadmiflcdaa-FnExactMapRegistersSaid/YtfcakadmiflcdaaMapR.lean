/- MapRegisters: the model's and the program's. -/
import Derived.Test.YtfcakadmiflcdaaOrdS
import Derived.Test.YtfcakadmiflcdaaPrgU
import Derived.Test.YtfcakadmiflcdaaPrgI
namespace Go.Proofs.Ytfcakadmiflcdaa.Ints
open Go.RowKit
set_option linter.unusedVariables false
set_option linter.unusedSimpArgs false
def mpI (od : List Int) (r : Ins) : Ins := ⟨r.kd, od.getD r.rg.toNat 0, r.th, r.el⟩
def mpL (rs : List Ins) (od : List Int) : List Ins := rs.map (mpI od)
@[simp] theorem mpL_length (rs : List Ins) (od : List Int) : (mpL rs od).length = rs.length := by simp [mpL]
theorem mpL_fit {rs : List Ins} {od : List Int} (h : FitIns rs) (k : Fit od) : FitIns (mpL rs od) := fun r hr => by
  simp only [mpL, List.mem_map] at hr
  obtain ⟨q, hq, rfl⟩ := hr
  have hf := h q hq
  exact ⟨hf.1, k.at _, hf.2.2.1, hf.2.2.2⟩
theorem mpL_snoc (rs : List Ins) (od : List Int) (k : Nat) (h : k < rs.length) : mpL (rs.take (k + 1)) od = mpL (rs.take k) od ++ [mpI od (rs.getD k zIns)] := by
  rw [List.take_succ_eq_append_getElem h, List.getD_eq_getElem?_getD, List.getElem?_eq_getElem h]
  unfold mpL
  rw [List.map_append]; rfl
noncomputable def mpR (rs : List Ins) (od : List Int) : List Ins := if progB rs = true ∧ ordB 24 od = true then mpL rs od else []
noncomputable def mpC (rs : List Ins) (od : List Int) : Int := if progB rs = true then (if ordB 24 od = true then 0 else 2) else 1
theorem mp_bad1 {rs : List Ins} {od : List Int} (h : progB rs = false) : mpR rs od = [] ∧ mpC rs od = 1 := by simp [mpR, mpC, h]
theorem mp_bad2 {rs : List Ins} {od : List Int} (h : progB rs = true) (k : ordB 24 od = false) : mpR rs od = [] ∧ mpC rs od = 2 := by simp [mpR, mpC, h, k]
theorem mp_good {rs : List Ins} {od : List Int} (h : progB rs = true) (k : ordB 24 od = true) : mpR rs od = mpL rs od ∧ mpC rs od = 0 := by simp [mpR, mpC, h, k]
theorem closOrd (x y' z u : Int) (m : Nat) (gp b o n c : Nat) (w : World) (k0 : w.cell? ⟨gp, 0, none⟩ = some (.slice (some ⟨b, o, none⟩) n c)) (k1 : w.cell? ⟨b, o + m, none⟩ = some (.int .i64 y')) (hm : m < n) :
    Calls Try.prog 73 #[.agg #[.int .i64 x, .int .i64 (m : Int), .int .i64 z, .int .i64 u], .pointer (some ⟨gp, 0, none⟩)] w fun e w' => e = .returned (.agg #[.int .i64 x, .int .i64 y', .int .i64 z, .int .i64 u]) ∧ Below w.heap.size w w' := by
  have HB : ∀ o1 o2 : Obj, Below w.heap.size w ((w.alloc o1).alloc o2) := fun o1 o2 => ((Below.refl w.heap.size w).alloc (Nat.le_refl _) _).alloc (by simp) _
  have l0 := World.block_lt_of_cell? w _ k0
  have l1 := World.block_lt_of_cell? w _ k1
  have q0 := (HB (Obj.cells #[.int .i64 x, .int .i64 (m : Int), .int .i64 z, .int .i64 u] 65) (Obj.cells #[.int .i64 0, .int .i64 0, .int .i64 0, .int .i64 0] 65)).cell (p := ⟨gp, 0, none⟩) l0
  have q1 := (HB (Obj.cells #[.int .i64 x, .int .i64 (m : Int), .int .i64 z, .int .i64 u] 65) (Obj.cells #[.int .i64 0, .int .i64 0, .int .i64 0, .int .i64 0] 65)).cell (p := ⟨b, o + m, none⟩) l1
  have r0 := q0.trans k0
  have r1 := q1.trans k1
  have m0 : (0 : Int) ≤ (m : Int) := by omega
  have m1 : (m : Int) < (n : Int) := by omega
  clear q0 q1 HB
  go_enter Try.func73, Try.ntmps73
  go_wp2
  refine bodyPost_ret (v := .agg #[.int .i64 x, .int .i64 y', .int .i64 z, .int .i64 u]) (by simp [results, Try.f73, go_sem]) rfl ⟨rfl, ?_⟩
  exact ((Below.refl w.heap.size w).alloc (Nat.le_refl _) _).alloc (by simp) _
set_option maxHeartbeats 2000000 in
theorem implMapOrd (v : Value) (rs : List Ins) (gp : Nat) (u0 : Value) (od : List Int) (w : World) (h : RdIns w v rs) (hu : Rd w u0 od) (k0 : w.cell? ⟨gp, 0, none⟩ = some u0) (hrg : ∀ i, i < rs.length → 0 ≤ (rs.getD i zIns).rg ∧ (rs.getD i zIns).rg < (od.length : Int)) (hl4 : rs.length ≤ 400) :
    Calls Try.prog 72 #[v, .func (Fn.func 73) #[] #[.pointer (some ⟨gp, 0, none⟩)]] w fun e w' => ∃ u, e = .returned u ∧ OwIns w' w.heap.size w'.heap.size u (mpL rs od) ∧ Below w.heap.size w w' := by
  have HFM := Lib.hid (mpL_fit h.fit hu.fit)
  obtain ⟨hl, hf, a, c, rfl, hcap, hr⟩ := h
  obtain ⟨_, hfo, a2, c2, rfl, _, hr2⟩ := hu
  have HR := Lib.hid hr
  have HR2 := Lib.hid hr2
  have HF := Lib.hid hf
  have HRG := Lib.hid hrg
  have l0 := World.block_lt_of_cell? w _ k0
  have HK : Hid (∀ W, Below w.heap.size w W → W.cell? ⟨gp, 0, none⟩ = some (.slice a2 od.length c2)) := Lib.hid (fun W hW => (hW.cell (p := ⟨gp, 0, none⟩) l0).trans k0)
  clear hr hf hr2 hfo hrg k0
  go_enter Try.func72, Try.ntmps72
  go_wp2
  go_loopw [5, 10] (fun q s wr => ∃ k : Nat, k ≤ rs.length ∧ s = .int .i64 k ∧ OwIns wr w.heap.size wr.heap.size q (mpL (rs.take k) od) ∧ Below w.heap.size w wr) (fun _ s _ => rs.length - (intOf s).toNat)
  case atStart => exact ⟨0, Nat.zero_le _, rfl, OwIns.emptyUp (Nat.le_refl _), Below.refl _ _⟩
  case round =>
    obtain ⟨k, hk, rfl, hor, hbr⟩ := hrel
    obtain ⟨gq, cq, hq⟩ := hor.shape
    subst hq
    by_cases hlt : k < rs.length
    · obtain ⟨b, o, rfl, hb, hcell⟩ := HR.out (by intro h0; rw [h0] at hlt; simp at hlt)
      obtain ⟨c0, c1, c2', c3⟩ := hcell k hlt
      replace c0 := (hbr.cell (p := ⟨b, o + k * 4, none⟩) hb).trans c0
      replace c1 := (hbr.cell (p := ⟨b, o + k * 4 + 1, none⟩) hb).trans c1
      replace c2' := (hbr.cell (p := ⟨b, o + k * 4 + 2, none⟩) hb).trans c2'
      replace c3 := (hbr.cell (p := ⟨b, o + k * 4 + 3, none⟩) hb).trans c3
      have HSN := Lib.hid (mpL_snoc rs od k hlt)
      have hrgk := HRG.out k hlt
      have hfk : (mpI od (rs.getD k zIns)).fit := HFM.out _ (by
        simp only [mpL, List.mem_map]; exact ⟨_, getIns_mem hlt, rfl⟩)
      obtain ⟨r, hr0⟩ : ∃ r, r = rs.getD k zIns := ⟨_, rfl⟩
      rw [← hr0] at c0 c1 c2' c3 HSN hrgk hfk
      obtain ⟨x, y, z, u⟩ := r
      dsimp only at hrgk c0 c1 c2' c3
      obtain ⟨m, rfl⟩ : ∃ m : Nat, y = (m : Int) := ⟨y.toNat, by omega⟩
      have hml : m < od.length := by omega
      obtain ⟨b2, o2, rfl, hb2, hcell2⟩ := HR2.out (by intro h0; rw [h0] at hml; simp at hml)
      have HCO : Hid (∀ W, Below w.heap.size w W → W.cell? ⟨b2, o2 + m, none⟩ = some (.int .i64 (od.getD m 0))) := Lib.hid (fun W hW => (hW.cell (p := ⟨b2, o2 + m, none⟩) hb2).trans (hcell2 m hml))
      obtain ⟨y', hy'⟩ : ∃ y', y' = od.getD m 0 := ⟨_, rfl⟩
      have HE : Hid (mpI od ⟨x, (m : Int), z, u⟩ = ⟨x, y', z, u⟩) := Lib.hid (by rw [hy']; simp [mpI])
      rw [← hy'] at HCO
      rw [HE.out] at HSN hfk
      have hlr : (mpL (rs.take k) od).length ≤ 400 := by simp; omega
      obtain ⟨Z, hZ⟩ : ∃ Z, Z = mpL (rs.take k) od := ⟨_, rfl⟩
      rw [← hZ] at hor hlr HSN ⊢
      have HFK := Lib.hid hfk
      have HOR := Lib.hid hor
      have HBR := Lib.hid hbr
      have hb0 : ∀ ob : Obj, Hid (Below wr.heap.size wr (wr.alloc ob)) := fun ob => Lib.hid ((Below.refl _ _).alloc (Nat.le_refl _) ob)
      have n0 : (0 : Int) ≤ (k : Int) := by omega
      have n1 : (k : Int) < (rs.length : Int) := by omega
      clear hcell hr0 hor hbr hZ hy' hfk hcell2
      go_wp2_with fail
      refine (closOrd x y' z u m gp b2 o2 od.length c2 _ (HK.out _ (HBR.out.trans ((hb0 _).out.mono HBR.out.size))) (HCO.out _ (HBR.out.trans ((hb0 _).out.mono HBR.out.size))) hml).mono ?_
      rintro e1 w1 ⟨rfl, hb1⟩
      have HBX := Lib.hid ((hb0 _).out.trans (hb1.mono (hb0 _).out.size))
      have HO1 := Lib.hid (HOR.out.below HBX.out (Nat.le_refl _)).up
      have HB1 := Lib.hid (HBR.out.trans (HBX.out.mono HBR.out.size))
      have hb6 : ∀ ob : Obj, Hid (Below w1.heap.size w1 (w1.alloc ob)) := fun ob => Lib.hid ((Below.refl _ _).alloc (Nat.le_refl _) ob)
      clear hb1
      go_wp2_with (at_builtin; refine wpList_append_Ins rfl _ _ rfl w.heap.size _ _ Z [⟨x, y', z, u⟩] rfl (HO1.out.below (hb6 _).out (Nat.le_refl _)).row rfl (rdIns_one (Cels.new _ _ _) HFK.out) (by simp; omega) (Nat.le_trans HO1.out.base (hb6 _).out.size) ?_)
      intro v5 w5 hown6 hgrow6
      have HX := Lib.hid (ow_joined (HO1.out.below (hb6 _).out (Nat.le_refl _)).up (fun q hq => by simp at hq; subst hq; exact HFK.out) (by simp; omega) hown6 hgrow6)
      have HB6 := Lib.hid ((HB1.out.trans ((hb6 _).out.mono HB1.out.size)).trans HX.out.2)
      clear hown6 hgrow6
      go_wp2
      go_roundw
      case rel => exact ⟨k + 1, by omega, by go_num, by rw [HSN.out]; exact HX.out.1, HB6.out⟩
      case measure => simp [intOf]; omega
    · obtain rfl : k = rs.length := by omega
      rw [List.take_length] at hor ⊢
      have HOR := Lib.hid hor
      have HBR := Lib.hid hbr
      clear hor hbr
      go_wp2
      go_ret
      exact ⟨_, rfl, HOR.out, HBR.out⟩
theorem rg_in {rs : List Ins} {od : List Int} (h : progB rs = true) (k : ordB 24 od = true) : ∀ i, i < rs.length → 0 ≤ (rs.getD i zIns).rg ∧ (rs.getD i zIns).rg < (od.length : Int) := fun i hi => by
  have h1 := ((progB_ok h).all i hi).1
  have h2 := (ordB_ok k).1
  exact ⟨h1.1, by omega⟩
set_option maxHeartbeats 2000000 in
theorem implMapRegisters (v : Value) (rs : List Ins) (u0 : Value) (od : List Int) (w : World) (h : RdIns w v rs) (hu : Rd w u0 od) :
    Calls Try.prog 37 #[v, u0] w fun e w' => ∃ u, e = .returned (.tuple #[u, .int .i64 (mpC rs od)]) ∧ OwIns w' w.heap.size w'.heap.size u (mpR rs od) ∧ Below w.heap.size w w' := by
  have H := Lib.hid h
  have HU := Lib.hid hu
  obtain ⟨_, _, a, c, rfl, _, _⟩ := h
  obtain ⟨_, _, a2, c2, rfl, _, _⟩ := hu
  have HB0 : Hid (Below w.heap.size w (w.alloc (Obj.cells #[.slice a2 od.length c2] 29))) := Lib.hid ((Below.refl _ _).alloc (Nat.le_refl _) _)
  have K0 := Lib.hid (Cels.new w 29 [.slice a2 od.length c2])
  obtain ⟨ba, hba⟩ : ∃ b, b = progB rs := ⟨_, rfl⟩
  have HA := Lib.hid hba
  obtain ⟨bo, hbo⟩ : ∃ b, b = ordB 24 od := ⟨_, rfl⟩
  have HO := Lib.hid hbo
  clear hba hbo
  go_enter Try.func37, Try.ntmps37
  go_wp2_with fail
  refine (implValidProgram _ rs _ (H.out.below HB0.out (Nat.le_refl _))).mono ?_
  rintro e w1 ⟨rfl, hb1⟩
  rw [← HA.out]
  have HB1 := Lib.hid (HB0.out.trans (hb1.mono HB0.out.size))
  have K1 := Lib.hid (K0.out.below hb1 K0.out.lt)
  clear hb1
  rcases eqOr ba with hb | hb
  · subst hb
    have e := Lib.hid (mp_bad1 (od := od) HA.out.symm)
    go_wp2_with fail
    go_ret2
    exact ⟨_, by rw [e.out.2] <;> rfl, by rw [e.out.1]; exact OwIns.emptyUp HB1.out.size, HB1.out⟩
  subst hb
  have z0 := K1.out.cell 0 rfl
  go_wp2_with fail
  refine (implIsOrder _ od 24 _ (HU.out.below HB1.out (Nat.le_refl _))).mono ?_
  rintro e w2 ⟨rfl, hb1⟩
  rw [← HO.out]
  have HB2 := Lib.hid (HB1.out.trans (hb1.mono HB1.out.size))
  have K2 := Lib.hid (K1.out.below hb1 K1.out.lt)
  clear hb1 z0
  rcases eqOr bo with hb | hb
  · subst hb
    have e := Lib.hid (mp_bad2 HA.out.symm HO.out.symm)
    go_wp2_with fail
    go_ret2
    exact ⟨_, by rw [e.out.2] <;> rfl, by rw [e.out.1]; exact OwIns.emptyUp HB2.out.size, HB2.out⟩
  subst hb
  have e := Lib.hid (mp_good HA.out.symm HO.out.symm)
  have HRG := Lib.hid (rg_in HA.out.symm HO.out.symm)
  have hl4 := (progB_ok HA.out.symm).len
  go_wp2_with fail
  refine (implMapOrd _ rs w.heap.size _ od _ (H.out.below HB2.out (Nat.le_refl _)) (HU.out.below HB2.out (Nat.le_refl _)) (K2.out.cell 0 rfl) HRG.out hl4).mono ?_
  rintro e1 w3 ⟨u, rfl, ho, hb⟩
  have HO3 := Lib.hid (ho.mono HB2.out.size (Nat.le_refl _) (Nat.le_refl _))
  have HB3 := Lib.hid (HB2.out.trans (hb.mono HB2.out.size))
  clear ho hb
  go_wp2_with fail
  go_ret2
  exact ⟨_, by rw [e.out.2] <;> rfl, by rw [e.out.1]; exact HO3.out, HB3.out⟩
end Go.Proofs.Ytfcakadmiflcdaa.Ints
