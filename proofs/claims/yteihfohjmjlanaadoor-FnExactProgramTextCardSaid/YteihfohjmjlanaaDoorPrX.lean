/- The text of a program of a register machine, of the model and of the program. -/
import Derived.Test.YteihfohjmjlanaaDoorMapD
import Derived.Test.YteihfohjmjlanaaDoorCtT
import Derived.Test.YteihfohjmjlanaaDoorPrgS
import Derived.Test.YteihfohjmjlanaaDoorPrgI
import Derived.Test.YteihfohjmjlanaaDoorPlc
import Derived.Deep.RegionHeld3
namespace Go.Proofs.YteihfohjmjlanaaDoor.Ints
open Go.RowKit
set_option linter.unusedVariables false
set_option linter.unusedSimpArgs false

/-- An instruction's text. -/
def insT (i : Ins) : List UInt8 := [if i.kd = 0 then 43 else 45] ++ Lib.itoa i.rg ++ [62] ++ Lib.itoa i.th ++ (if i.kd = 1 then [58] ++ Lib.itoa i.el else [])
def prX (rs : List Ins) : List UInt8 := if rs = [] then [46] else Lib.join (rs.map insT) [59]
noncomputable def prV (rs : List Ins) : List UInt8 := if progB rs = true then prX rs else []
def PrR (rs : List Ins) : Prop := rs.length ≤ 400 ∧ ∀ r ∈ rs, r.fit ∧ (r.kd = 0 ∨ r.kd = 1)
theorem prR_of {rs : List Ins} (hf : FitIns rs) (h : progB rs = true) : PrR rs := by
  have h1 := progB_ok h
  refine ⟨h1.len, fun r hr => ⟨hf r hr, ?_⟩⟩
  obtain ⟨i, hi, rfl⟩ := List.getElem_of_mem hr
  have h2 := (h1.all i hi).2.2
  rw [List.getD_eq_getElem?_getD, List.getElem?_eq_getElem hi] at h2
  simp only [Option.getD_some] at h2
  omega
theorem PrR.one {rs : List Ins} (h : PrR rs) (k : Nat) (hk : k < rs.length) : (rs.getD k zIns).fit ∧ ((rs.getD k zIns).kd = 0 ∨ (rs.getD k zIns).kd = 1) := by
  rw [List.getD_eq_getElem?_getD, List.getElem?_eq_getElem hk]
  exact h.2 _ (List.getElem_mem hk)
theorem insT_small {r : Ins} (h : r.fit) : (insT r).length ≤ 66 := by
  obtain ⟨_, h1, h2, h3⟩ := h
  have a1 := Lib.itoa_length_le r.rg h1.1 h1.2
  have a2 := Lib.itoa_length_le r.th h2.1 h2.2
  have a3 := Lib.itoa_length_le r.el h3.1 h3.2
  have a4 : (if r.kd = 1 then [58] ++ Lib.itoa r.el else []).length ≤ 22 := by split <;> simp <;> omega
  simp only [insT, List.length_append, List.length_singleton] at a4 ⊢
  omega
theorem PrR.small {rs : List Ins} (h : PrR rs) : (Lib.join (rs.map insT) [59]).length ≤ 100000 := by
  have h1 := join_small (rs.map insT) [59] 66 (fun y hy => by
    obtain ⟨f, hf, rfl⟩ := List.mem_map.1 hy
    exact insT_small (h.2 f hf).1)
  simp only [List.length_map, List.length_singleton] at h1
  have h2 := h.1
  omega
theorem PrR.take {rs : List Ins} (h : PrR rs) (k : Nat) : PrR (rs.take k) := ⟨by have := h.1; rw [List.length_take]; omega, fun f hf => h.2 f (List.mem_of_mem_take hf)⟩
theorem mapI_succ (rs : List Ins) (k : Nat) (h : k < rs.length) : (rs.take (k + 1)).map insT = (rs.take k).map insT ++ [insT (rs.getD k zIns)] := by
  rw [List.take_succ_eq_append_getElem h, List.map_append, List.getD_eq_getElem?_getD, List.getElem?_eq_getElem h]; rfl
set_option maxHeartbeats 16000000 in
theorem specPrT (v : Value) (rs : List Ins) (w : World) (h : RdIns w v rs) (hg : PrR rs) :
    Calls Tryd.prog 33 #[v] w fun e w' => e = .returned (.string (bs (prX rs))) ∧ Below w.heap.size w w' := by
  have HG := Lib.hid hg
  have hl8 := hg.1
  obtain ⟨hl, hf, a, c, rfl, hcap, hr⟩ := h
  have HC := Lib.hid hr
  clear hr hg hf
  by_cases h0 : rs = []
  · subst h0
    go_enter Tryd.func33, Tryd.ntmps33
    go_wp2
    go_ret
    exact ⟨rfl, Below.refl _ _⟩
  have hpos : 0 < rs.length := List.length_pos_iff.2 h0
  have hzb : ((rs.length : Int) == 0) = false := by simpa using h0
  have HPX : Hid (prX rs = Lib.join (rs.map insT) [59]) := Lib.hid (if_neg h0)
  clear h0
  go_enter Tryd.func33, Tryd.ntmps33
  go_wp2
  go_loopw [3, 4] (fun s i wr => ∃ k : Nat, k ≤ rs.length ∧ i = .int .i64 k ∧ s = .string (bs (Lib.join ((rs.take k).map insT) [59])) ∧ Below w.heap.size w wr) (fun _ i _ => rs.length - (intOf i).toNat)
  case atStart => exact ⟨0, Nat.zero_le _, rfl, rfl, Below.refl _ _⟩
  case round =>
    obtain ⟨k, hk, rfl, hs, hbel⟩ := hrel
    have HW := Lib.hid hbel
    by_cases hlt : k < rs.length
    · obtain ⟨b, o, rfl, hb, hcell⟩ := HC.out (by intro h0; rw [h0] at hlt; simp at hlt)
      obtain ⟨c0, c1, c2, c3⟩ := hcell k hlt
      obtain ⟨⟨_, ⟨x10, x11⟩, ⟨x20, x21⟩, ⟨x30, x31⟩⟩, hkd⟩ := HG.out.one k hlt
      obtain ⟨r, hr0⟩ : ∃ r, r = rs.getD k zIns := ⟨_, rfl⟩
      have hm := mapI_succ rs k hlt
      rw [← hr0] at c0 c1 c2 c3 x10 x11 x20 x21 x30 x31 hkd hm
      obtain ⟨y0, y1, y2, y3⟩ := r
      dsimp only at c0 c1 c2 c3 x10 x11 x20 x21 x30 x31 hkd
      have i0' : (0 : Int) ≤ (k : Int) := by omega
      have i1 : (k : Int) < (rs.length : Int) := by omega
      obtain ⟨s0, hs0⟩ : ∃ s, s = bs (Lib.join ((rs.take k).map insT) [59]) := ⟨_, rfl⟩
      obtain ⟨tx, htx⟩ : ∃ t, t = bs (Lib.itoa y1) := ⟨_, rfl⟩
      obtain ⟨ty, hty⟩ : ∃ t, t = bs (Lib.itoa y2) := ⟨_, rfl⟩
      obtain ⟨tz, htz⟩ : ∃ t, t = bs (Lib.itoa y3) := ⟨_, rfl⟩
      have HE : Hid (bs (Lib.join ((rs.take (k + 1)).map insT) [59]) = if k = 0 then s0 ++ bs (insT ⟨y0, y1, y2, y3⟩) else s0 ++ bs [59] ++ bs (insT ⟨y0, y1, y2, y3⟩)) := Lib.hid (by
        rw [hs0, hm]
        by_cases hk0 : k = 0
        · subst hk0; rw [if_pos rfl, bs_append]; simp [Lib.join_one, Lib.join_nil]
        · rw [if_neg hk0, bs_append, bs_append, join_snoc _ _ _ (by intro hn; have h1 := congrArg List.length hn; rw [List.length_map, List.length_take, List.length_nil] at h1; omega)])
      have hss : s0.size ≤ 100000 := by rw [hs0, bs_size]; exact (HG.out.take k).small
      have sx : tx.size ≤ 21 := by rw [htx, bs_size]; exact Lib.itoa_length_le y1 (by omega) (by omega)
      have sy : ty.size ≤ 21 := by rw [hty, bs_size]; exact Lib.itoa_length_le y2 (by omega) (by omega)
      have sz : tz.size ≤ 21 := by rw [htz, bs_size]; exact Lib.itoa_length_le y3 (by omega) (by omega)
      rw [← hs0] at hs
      subst hs
      have HX := Lib.hid htx
      have HY := Lib.hid hty
      have HZ := Lib.hid htz
      have HS : Hid (∀ W, Below wr.heap.size wr W → W.cell? ⟨b, o + k * 4, none⟩ = some (.int .i64 y0) ∧ W.cell? ⟨b, o + k * 4 + 1, none⟩ = some (.int .i64 y1) ∧ W.cell? ⟨b, o + k * 4 + 2, none⟩ = some (.int .i64 y2) ∧ W.cell? ⟨b, o + k * 4 + 3, none⟩ = some (.int .i64 y3)) := Lib.hid (fun W hW => by
        have hbb : b < wr.heap.size := Nat.lt_of_lt_of_le hb hbel.size
        exact ⟨(hW.cell (p := ⟨b, o + k * 4, none⟩) hbb).trans ((hbel.cell (p := ⟨b, o + k * 4, none⟩) hb).trans c0), (hW.cell (p := ⟨b, o + k * 4 + 1, none⟩) hbb).trans ((hbel.cell (p := ⟨b, o + k * 4 + 1, none⟩) hb).trans c1),
          (hW.cell (p := ⟨b, o + k * 4 + 2, none⟩) hbb).trans ((hbel.cell (p := ⟨b, o + k * 4 + 2, none⟩) hb).trans c2), (hW.cell (p := ⟨b, o + k * 4 + 3, none⟩) hbb).trans ((hbel.cell (p := ⟨b, o + k * 4 + 3, none⟩) hb).trans c3)⟩)
      have HD : Hid (Below wr.heap.size wr wr.drew) := Lib.hid (Below.refl _ _).drew
      have q1 : ¬ (9223372036854775807 < tx.size + 1) := by omega
      have q2 : ¬ (9223372036854775807 < tx.size + 1 + ty.size) := by omega
      have q5 : ¬ (9223372036854775807 ≤ tx.size) := by omega
      clear hbel hcell c0 c1 c2 c3 hs0 hm hr0 hb
      rcases hkd with hkd | hkd
      · subst hkd
        have HI : Hid (bs (insT ⟨0, y1, y2, y3⟩) = bs [43] ++ (tx ++ bs [62] ++ ty)) := Lib.hid (by rw [htx, hty]; simp only [bs_append]; congr 1; simp [insT])
        clear htx hty htz
        by_cases hk0 : k = 0
        · 
          have HE2 : Hid (bs (Lib.join ((rs.take (k + 1)).map insT) [59]) = s0 ++ (bs [43] ++ (tx ++ bs [62] ++ ty))) := Lib.hid (by rw [HE.out, if_pos hk0, HI.out])
          have hk1 : ¬ (0 : Int) < (k : Int) := by omega
          clear hk0
          go_wp2
          go_region_held3 (fun W => W.cell? ⟨b, o + k * 4 + 1, none⟩ = some (.int .i64 y1) ∧ W.cell? ⟨b, o + k * 4 + 2, none⟩ = some (.int .i64 y2))
            (exact ⟨(HS.out _ HD.out).2.1, (HS.out _ HD.out).2.2.1⟩)
            (first | (go_at_call 73; with_reducible refine (specDecT _ _ (by omega) (by omega) (by first | exact HX.out | exact HY.out) _).mono ?_; rintro e1 w1 ⟨rfl, bq⟩; replace HD := Lib.hid (HD.out.trans (bq.mono HD.out.size)); clear bq))
          all_goals
            have hcc := HS.out _ HD.out
            obtain ⟨d0, d1, d2, d3⟩ := hcc
            go_wp2
            go_roundw
            case rel => exact ⟨k + 1, by omega, by go_num, by rw [HE2.out], HW.out.trans (HD.out.mono HW.out.size)⟩
            case measure => simp [intOf]; omega
        · 
          have HE2 : Hid (bs (Lib.join ((rs.take (k + 1)).map insT) [59]) = s0 ++ bs [59] ++ (bs [43] ++ (tx ++ bs [62] ++ ty))) := Lib.hid (by rw [HE.out, if_neg hk0, HI.out])
          have hk1 : (0 : Int) < (k : Int) := by omega
          clear hk0
          go_wp2
          go_region_held3 (fun W => W.cell? ⟨b, o + k * 4 + 1, none⟩ = some (.int .i64 y1) ∧ W.cell? ⟨b, o + k * 4 + 2, none⟩ = some (.int .i64 y2))
            (exact ⟨(HS.out _ HD.out).2.1, (HS.out _ HD.out).2.2.1⟩)
            (first | (go_at_call 73; with_reducible refine (specDecT _ _ (by omega) (by omega) (by first | exact HX.out | exact HY.out) _).mono ?_; rintro e1 w1 ⟨rfl, bq⟩; replace HD := Lib.hid (HD.out.trans (bq.mono HD.out.size)); clear bq))
          all_goals
            have hcc := HS.out _ HD.out
            obtain ⟨d0, d1, d2, d3⟩ := hcc
            go_wp2
            go_roundw
            case rel => exact ⟨k + 1, by omega, by go_num, by rw [HE2.out], HW.out.trans (HD.out.mono HW.out.size)⟩
            case measure => simp [intOf]; omega
      · subst hkd
        have HI : Hid (bs (insT ⟨1, y1, y2, y3⟩) = bs [45] ++ (tx ++ bs [62] ++ ty) ++ bs [58] ++ tz) := Lib.hid (by rw [htx, hty, htz]; simp only [bs_append]; congr 1; simp [insT])
        clear htx hty htz
        by_cases hk0 : k = 0
        · 
          have HE2 : Hid (bs (Lib.join ((rs.take (k + 1)).map insT) [59]) = s0 ++ (bs [45] ++ (tx ++ bs [62] ++ ty) ++ bs [58] ++ tz)) := Lib.hid (by rw [HE.out, if_pos hk0, HI.out])
          have hk1 : ¬ (0 : Int) < (k : Int) := by omega
          clear hk0
          go_wp2
          go_region_held3 (fun W => W.cell? ⟨b, o + k * 4 + 1, none⟩ = some (.int .i64 y1) ∧ W.cell? ⟨b, o + k * 4 + 2, none⟩ = some (.int .i64 y2))
            (exact ⟨(HS.out _ HD.out).2.1, (HS.out _ HD.out).2.2.1⟩)
            (first | (go_at_call 73; with_reducible refine (specDecT _ _ (by omega) (by omega) (by first | exact HX.out | exact HY.out) _).mono ?_; rintro e1 w1 ⟨rfl, bq⟩; replace HD := Lib.hid (HD.out.trans (bq.mono HD.out.size)); clear bq))
          all_goals
            have hcc := HS.out _ HD.out
            obtain ⟨d0, d1, d2, d3⟩ := hcc
            go_wp2_with fail
            refine (specDecT _ tz (by omega) (by omega) HZ.out _).mono ?_
            rintro e2 w2 ⟨rfl, bq⟩
            replace HD := Lib.hid (HD.out.trans (bq.mono HD.out.size))
            clear bq d0 d1 d2 d3
            go_wp2
            go_roundw
            case rel => exact ⟨k + 1, by omega, by go_num, by rw [HE2.out], HW.out.trans (HD.out.mono HW.out.size)⟩
            case measure => simp [intOf]; omega
        · 
          have HE2 : Hid (bs (Lib.join ((rs.take (k + 1)).map insT) [59]) = s0 ++ bs [59] ++ (bs [45] ++ (tx ++ bs [62] ++ ty) ++ bs [58] ++ tz)) := Lib.hid (by rw [HE.out, if_neg hk0, HI.out])
          have hk1 : (0 : Int) < (k : Int) := by omega
          clear hk0
          go_wp2
          go_region_held3 (fun W => W.cell? ⟨b, o + k * 4 + 1, none⟩ = some (.int .i64 y1) ∧ W.cell? ⟨b, o + k * 4 + 2, none⟩ = some (.int .i64 y2))
            (exact ⟨(HS.out _ HD.out).2.1, (HS.out _ HD.out).2.2.1⟩)
            (first | (go_at_call 73; with_reducible refine (specDecT _ _ (by omega) (by omega) (by first | exact HX.out | exact HY.out) _).mono ?_; rintro e1 w1 ⟨rfl, bq⟩; replace HD := Lib.hid (HD.out.trans (bq.mono HD.out.size)); clear bq))
          all_goals
            have hcc := HS.out _ HD.out
            obtain ⟨d0, d1, d2, d3⟩ := hcc
            go_wp2_with fail
            refine (specDecT _ tz (by omega) (by omega) HZ.out _).mono ?_
            rintro e2 w2 ⟨rfl, bq⟩
            replace HD := Lib.hid (HD.out.trans (bq.mono HD.out.size))
            clear bq d0 d1 d2 d3
            go_wp2
            go_roundw
            case rel => exact ⟨k + 1, by omega, by go_num, by rw [HE2.out], HW.out.trans (HD.out.mono HW.out.size)⟩
            case measure => simp [intOf]; omega
    · obtain rfl : k = rs.length := by omega
      have hnlt : ¬ ((rs.length : Int) < (rs.length : Int)) := by omega
      rw [List.take_length] at hs
      subst hs
      clear hbel hlt
      go_wp2
      go_ret
      exact ⟨by rw [HPX.out]; rfl, HW.out⟩
theorem specPrText (v : Value) (rs : List Ins) (w : World) (h : RdIns w v rs) :
    Calls Tryd.prog 9 #[v] w fun e w' => e = .returned (.string (bs (prV rs))) ∧ Below w.heap.size w w' := by
  have H := Lib.hid h
  clear h
  obtain ⟨ok, hok⟩ : ∃ b, b = progB rs := ⟨_, rfl⟩
  have HOK := Lib.hid hok
  clear hok
  go_enter Tryd.func9, Tryd.ntmps9
  go_wp2_with fail
  refine (specPIs _ rs _ H.out).mono ?_
  rintro e w1 ⟨rfl, hb1⟩
  rw [← HOK.out]
  have HB1 := Lib.hid hb1
  clear hb1
  rcases eqOr ok with hb | hb
  · subst hb
    go_wp2
    go_ret
    exact ⟨by rw [prV, ← HOK.out]; rfl, HB1.out⟩
  subst hb
  go_wp2_with fail
  refine (specPrT _ rs _ (H.out.below HB1.out (Nat.le_refl _)) (prR_of H.out.fit HOK.out.symm)).mono ?_
  rintro e w2 ⟨rfl, hb2⟩
  have HB2 := Lib.hid (HB1.out.trans (hb2.mono HB1.out.size))
  clear hb2
  go_wp2
  go_ret
  exact ⟨by rw [prV, ← HOK.out]; rfl, HB2.out⟩
theorem implDecP (n : Int) (t : ByteArray) (w : World) (n0 : -9223372036854775808 ≤ n) (n1 : n ≤ 9223372036854775807) (htb : TabV w) (ht : t = bs (Lib.itoa n)) :
    Calls Tryd.prog 49 #[.int .i64 n] w fun e w' => e = .returned (.string t) ∧ Below w.heap.size w w' := by
  subst ht; exact implDec n n0 n1 w htb
theorem sg0 : (ByteArray.mk #[43, 45]).extract 0 1 = bs [43] := by decide
theorem sg1 : (ByteArray.mk #[43, 45]).extract 1 2 = bs [45] := by decide
theorem sl0 : ∀ W : World, (Instr.slice 9 (.string ⟨#[43, 45]⟩) (some (.int .i64 0)) (some (.int .i64 1)) none).run Tryd.prog W = .ok (.string (bs [43])) W := fun W =>
  (run_slice_string W 9 ⟨#[43, 45]⟩ .i64 .i64 0 1 Tryd.underlying9 (by omega) (by omega) (by decide)).trans (congrArg (fun s => Result.ok (Value.string s) W) sg0)
theorem sl1 : ∀ W : World, (Instr.slice 9 (.string ⟨#[43, 45]⟩) (some (.int .i64 1)) (some (.int .i64 2)) none).run Tryd.prog W = .ok (.string (bs [45])) W := fun W =>
  (run_slice_string W 9 ⟨#[43, 45]⟩ .i64 .i64 1 2 Tryd.underlying9 (by omega) (by omega) (by decide)).trans (congrArg (fun s => Result.ok (Value.string s) W) sg1)
theorem nxI_len (r : Ins) : (nxI r).length ≤ 2 := by unfold nxI; split <;> simp
theorem nxJ_small {r : Ins} (h : r.fit) : (Lib.join ((nxI r).map Lib.itoa) [58]).length ≤ 44 := by
  have h1 := join_small ((nxI r).map Lib.itoa) [58] 21 (fun y hy => by
    obtain ⟨z, hz, rfl⟩ := List.mem_map.1 hy
    have := nxI_fit h z hz
    exact Lib.itoa_length_le z this.1 this.2)
  simp only [List.length_map, List.length_singleton] at h1
  have := nxI_len r
  omega
set_option maxHeartbeats 8000000 in
set_option maxRecDepth 100000 in
theorem implInsText (y0 y1 y2 y3 : Int) (w : World) (hf : Ins.fit ⟨y0, y1, y2, y3⟩) (hkd : y0 = 0 ∨ y0 = 1) (ht : TabV w) :
    Calls Tryd.prog 38 #[.agg #[.int .i64 y0, .int .i64 y1, .int .i64 y2, .int .i64 y3]] w fun e w' => e = .returned (.string (bs (insT ⟨y0, y1, y2, y3⟩))) ∧ Below w.heap.size w w' := by
  obtain ⟨W0, hW0⟩ : ∃ W, W = w.alloc (Obj.cells #[.int .i64 y0, .int .i64 y1, .int .i64 y2, .int .i64 y3] 66) := ⟨_, rfl⟩
  have HB : Hid (Below w.heap.size w W0) := Lib.hid (by rw [hW0]; exact (Below.refl w.heap.size w).alloc (Nat.le_refl _) _)
  have K1 : Hid (Cels W0 w.heap.size 66 [.int .i64 y0, .int .i64 y1, .int .i64 y2, .int .i64 y3]) := Lib.hid (by rw [hW0]; exact Cels.new _ _ _)
  have HTb : Hid (TabV W0) := Lib.hid (ht.below HB.out (Nat.le_refl _))
  have HW0 := Lib.hid hW0.symm
  have HFt := Lib.hid hf
  obtain ⟨x10, x11⟩ := hf.2.1
  obtain ⟨tx, htx⟩ : ∃ t, t = bs (Lib.itoa y1) := ⟨_, rfl⟩
  obtain ⟨tp, htp⟩ : ∃ t, t = bs (Lib.join ((nxI ⟨y0, y1, y2, y3⟩).map Lib.itoa) [58]) := ⟨_, rfl⟩
  have sx : tx.size ≤ 21 := by rw [htx, bs_size]; exact Lib.itoa_length_le y1 (by omega) (by omega)
  have sp : tp.size ≤ 44 := by rw [htp, bs_size]; exact nxJ_small hf
  have HX := Lib.hid htx
  have HP := Lib.hid htp
  have HN : Hid ((nxI ⟨y0, y1, y2, y3⟩).length ≤ 2) := Lib.hid (nxI_len _)
  have HJ : Hid ((Lib.join ((nxI ⟨y0, y1, y2, y3⟩).map Lib.itoa) [58]).length ≤ 100000000) := Lib.hid (by have := nxJ_small hf; omega)
  have w1' : IntKind.i64.wrap 1 = 1 := by decide
  have w2' : IntKind.i64.wrap 2 = 2 := by decide
  have g0 := sl0
  have g1 := sl1
  have q1 : ¬ (9223372036854775807 < 1 + tx.size) := by omega
  have q2 : ¬ (9223372036854775807 < 1 + tx.size + 1) := by omega
  have q3 : ¬ (9223372036854775807 < 1 + tx.size + 1 + tp.size) := by omega
  have q4 : ¬ (9223372036854775807 ≤ 1 + tx.size) := by omega
  have q5 : ¬ (9223372036854775806 < tx.size) := by omega
  clear hW0 hf ht
  rcases hkd with hkd | hkd
  · subst hkd
    have HE : Hid (bs [43] ++ tx ++ bs [62] ++ tp = bs (insT ⟨0, y1, y2, y3⟩)) := Lib.hid (by rw [htx, htp, bs_append, bs_append, bs_append]; congr 1; simp [insT, nxI, Lib.join_one, Lib.join_cons, Lib.joinTail])
    clear htx htp
    have k0 := K1.out.cell 0 rfl
    have k1 := K1.out.cell 1 rfl
    have k2 := K1.out.cell 2 rfl
    have k3 := K1.out.cell 3 rfl
    go_enter Tryd.func38, Tryd.ntmps38
    go_wp2_with fail
    rw [HW0.out]
    go_wp2_with fail
    refine (implPlaces _ _ _ _ _ HFt.out).mono ?_
    rintro e w1 ⟨u, rfl, ho, hb1⟩
    have HO := Lib.hid ho.rd
    replace K1 := Lib.hid (K1.out.below hb1 K1.out.lt)
    have HB1 := Lib.hid hb1
    clear hb1 ho k0 k1 k2 k3
    go_wp2_with fail
    refine (mapDec _ _ _ HO.out (HTb.out.below HB1.out (Nat.le_refl _)) (by have := HN.out; omega)).mono ?_
    rintro e w2 ⟨u2, rfl, hr2, hb2⟩
    have HR2 : Hid (w2.ownsRow w1.heap.size 9 1 u2 ((nxI ⟨0, y1, y2, y3⟩).map Lib.itoa).length (strs ((nxI ⟨0, y1, y2, y3⟩).map Lib.itoa))) := Lib.hid (by rw [List.length_map]; exact hr2)
    replace K1 := Lib.hid (K1.out.below hb2 K1.out.lt)
    have HB2 := Lib.hid (HB1.out.trans (hb2.mono HB1.out.size))
    clear hb2 hr2
    go_wp2_with fail
    refine (joinRow _ _ _ [58] _ HR2.out (by rw [List.length_map]; have := HN.out; omega) HJ.out).mono ?_
    rintro e w3 ⟨rfl, hb3⟩
    rw [← HP.out]
    replace K1 := Lib.hid (K1.out.below hb3 K1.out.lt)
    have HB3 := Lib.hid (HB2.out.trans (hb3.mono HB2.out.size))
    clear hb3
    have HS : Hid (∀ W, Below w3.heap.size w3 W → W.cell? ⟨w.heap.size, 0, none⟩ = some (.int .i64 0) ∧ W.cell? ⟨w.heap.size, 1, none⟩ = some (.int .i64 y1)) := Lib.hid (fun W hW => by
      have h := K1.out.below hW K1.out.lt
      exact ⟨h.cell 0 rfl, h.cell 1 rfl⟩)
    have HD : Hid (Below w3.heap.size w3 w3.drew) := Lib.hid (Below.refl _ _).drew
    have HLT : Hid (W0.heap.size ≤ w3.heap.size) := Lib.hid HB3.out.size
    have HLT0 : Hid (w.heap.size ≤ W0.heap.size) := Lib.hid HB.out.size
    have HT3 : Hid (TabV w3) := Lib.hid (HTb.out.below HB3.out (Nat.le_refl _))
    go_wp2
    go_region_held3 (fun W => W.cell? ⟨w.heap.size, 0, none⟩ = some (.int .i64 0) ∧ W.cell? ⟨w.heap.size, 1, none⟩ = some (.int .i64 y1))
      (exact HS.out _ HD.out)
      (first | (go_at_call 49; with_reducible refine (implDecP _ tx _ (by omega) (by omega) (HT3.out.below HD.out (Nat.le_refl _)) HX.out).mono ?_; rintro e1 w4 ⟨rfl, bq⟩; replace HD := Lib.hid (HD.out.trans (bq.mono HD.out.size)); clear bq))
    all_goals
      go_wp2
      go_ret
      exact ⟨by rw [← HE.out]; rfl, HB.out.trans ((HB3.out.trans (HD.out.mono HLT.out)).mono HLT0.out)⟩
  · subst hkd
    have HE : Hid (bs [45] ++ tx ++ bs [62] ++ tp = bs (insT ⟨1, y1, y2, y3⟩)) := Lib.hid (by rw [htx, htp, bs_append, bs_append, bs_append]; congr 1; simp [insT, nxI, Lib.join_one, Lib.join_cons, Lib.joinTail])
    clear htx htp
    have k0 := K1.out.cell 0 rfl
    have k1 := K1.out.cell 1 rfl
    have k2 := K1.out.cell 2 rfl
    have k3 := K1.out.cell 3 rfl
    go_enter Tryd.func38, Tryd.ntmps38
    go_wp2_with fail
    rw [HW0.out]
    go_wp2_with fail
    refine (implPlaces _ _ _ _ _ HFt.out).mono ?_
    rintro e w1 ⟨u, rfl, ho, hb1⟩
    have HO := Lib.hid ho.rd
    replace K1 := Lib.hid (K1.out.below hb1 K1.out.lt)
    have HB1 := Lib.hid hb1
    clear hb1 ho k0 k1 k2 k3
    go_wp2_with fail
    refine (mapDec _ _ _ HO.out (HTb.out.below HB1.out (Nat.le_refl _)) (by have := HN.out; omega)).mono ?_
    rintro e w2 ⟨u2, rfl, hr2, hb2⟩
    have HR2 : Hid (w2.ownsRow w1.heap.size 9 1 u2 ((nxI ⟨1, y1, y2, y3⟩).map Lib.itoa).length (strs ((nxI ⟨1, y1, y2, y3⟩).map Lib.itoa))) := Lib.hid (by rw [List.length_map]; exact hr2)
    replace K1 := Lib.hid (K1.out.below hb2 K1.out.lt)
    have HB2 := Lib.hid (HB1.out.trans (hb2.mono HB1.out.size))
    clear hb2 hr2
    go_wp2_with fail
    refine (joinRow _ _ _ [58] _ HR2.out (by rw [List.length_map]; have := HN.out; omega) HJ.out).mono ?_
    rintro e w3 ⟨rfl, hb3⟩
    rw [← HP.out]
    replace K1 := Lib.hid (K1.out.below hb3 K1.out.lt)
    have HB3 := Lib.hid (HB2.out.trans (hb3.mono HB2.out.size))
    clear hb3
    have HS : Hid (∀ W, Below w3.heap.size w3 W → W.cell? ⟨w.heap.size, 0, none⟩ = some (.int .i64 1) ∧ W.cell? ⟨w.heap.size, 1, none⟩ = some (.int .i64 y1)) := Lib.hid (fun W hW => by
      have h := K1.out.below hW K1.out.lt
      exact ⟨h.cell 0 rfl, h.cell 1 rfl⟩)
    have HD : Hid (Below w3.heap.size w3 w3.drew) := Lib.hid (Below.refl _ _).drew
    have HLT : Hid (W0.heap.size ≤ w3.heap.size) := Lib.hid HB3.out.size
    have HLT0 : Hid (w.heap.size ≤ W0.heap.size) := Lib.hid HB.out.size
    have HT3 : Hid (TabV w3) := Lib.hid (HTb.out.below HB3.out (Nat.le_refl _))
    go_wp2
    go_region_held3 (fun W => W.cell? ⟨w.heap.size, 0, none⟩ = some (.int .i64 1) ∧ W.cell? ⟨w.heap.size, 1, none⟩ = some (.int .i64 y1))
      (exact HS.out _ HD.out)
      (first | (go_at_call 49; with_reducible refine (implDecP _ tx _ (by omega) (by omega) (HT3.out.below HD.out (Nat.le_refl _)) HX.out).mono ?_; rintro e1 w4 ⟨rfl, bq⟩; replace HD := Lib.hid (HD.out.trans (bq.mono HD.out.size)); clear bq))
    all_goals
      go_wp2
      go_ret
      exact ⟨by rw [← HE.out]; rfl, HB.out.trans ((HB3.out.trans (HD.out.mono HLT.out)).mono HLT0.out)⟩

set_option maxHeartbeats 4000000 in
theorem mapIns (v : Value) (rs : List Ins) (w : World) (h : RdIns w v rs) (ht : TabV w) (hg : PrR rs) :
    Calls Tryd.prog 37 #[v, .func (Fn.func 38) #[] #[]] w fun e w' => ∃ u, e = .returned u ∧ w'.ownsRow w.heap.size 9 1 u rs.length (strs (rs.map insT)) ∧ Below w.heap.size w w' := by
  have HG := Lib.hid hg
  have hl8 := hg.1
  have HT := Lib.hid ht
  obtain ⟨hl, hf, a, c, rfl, hcap, hr⟩ := h
  have HC := Lib.hid hr
  obtain ⟨i0, hi, hz0, hz1, hz2⟩ := info_parts infoS
  clear ht hf hr hg
  go_enter Tryd.func37, Tryd.ntmps37
  go_wp2
  go_loopw [5, 10] (fun o s wr => ∃ (k : Nat) (ov : Value), o = ov ∧ k ≤ rs.length ∧ s = .int .i64 k ∧ wr.ownsRow w.heap.size 9 1 ov k (strs ((rs.take k).map insT)) ∧ Below w.heap.size w wr) (fun _ s _ => rs.length - (intOf s).toNat)
  case atStart => exact ⟨0, _, rfl, Nat.zero_le _, rfl, by simpa [strs] using World.ownsRow_nil w w.heap.size 9 1, Below.refl _ _⟩
  case round =>
    obtain ⟨k, ov, hov, hk, rfl, hown, hbel⟩ := hrel
    obtain rfl := hov.symm
    have HW := Lib.hid hbel
    by_cases hlt : k < rs.length
    · obtain ⟨b, o, rfl, hb, hcell⟩ := HC.out (by intro h0; rw [h0] at hlt; simp at hlt)
      obtain ⟨c0, c1, c2, c3⟩ := hcell k hlt
      have HXY := Lib.hid (HG.out.one k hlt)
      have hm := mapI_succ rs k hlt
      obtain ⟨r, hr0⟩ : ∃ r, r = rs.getD k zIns := ⟨_, rfl⟩
      rw [← hr0] at c0 c1 c2 c3 HXY hm
      obtain ⟨y0, y1, y2, y3⟩ := r
      dsimp only at c0 c1 c2 c3 HXY
      replace c0 := (hbel.cell (p := ⟨b, o + k * 4, none⟩) hb).trans c0
      replace c1 := (hbel.cell (p := ⟨b, o + k * 4 + 1, none⟩) hb).trans c1
      replace c2 := (hbel.cell (p := ⟨b, o + k * 4 + 2, none⟩) hb).trans c2
      replace c3 := (hbel.cell (p := ⟨b, o + k * 4 + 3, none⟩) hb).trans c3
      have i0' : (0 : Int) ≤ (k : Int) := by omega
      have i1 : (k : Int) < (rs.length : Int) := by omega
      have HS := Lib.hid hm
      have hb0 : ∀ ob : Obj, Hid (Below w.heap.size w (wr.alloc ob)) := fun ob => Lib.hid (hbel.alloc hbel.size ob)
      have hown0 : ∀ ob : Obj, Hid ((wr.alloc ob).ownsRow w.heap.size 9 1 ov k (strs ((rs.take k).map insT))) := fun ob => Lib.hid (hown.alloc ob)
      clear hbel hcell hm hr0 hown
      go_wp2_with fail
      refine (implInsText y0 y1 y2 y3 _ HXY.out.1 HXY.out.2 (HT.out.below (hb0 _).out (Nat.le_refl _))).mono ?_
      rintro e w1 ⟨rfl, hb1⟩
      have HO1 : Hid (w1.ownsRow w.heap.size 9 1 ov k (strs ((rs.take k).map insT))) := Lib.hid (ownB_below (hown0 _).out hb1 (Nat.le_refl _))
      replace HW := Lib.hid ((hb0 _).out.trans (hb1.mono (hb0 _).out.size))
      have hsz := HW.out.size
      have hown1 := HO1.out
      obtain ⟨t, ht⟩ : ∃ t, t = bs (insT ⟨y0, y1, y2, y3⟩) := ⟨_, rfl⟩
      have HTt := Lib.hid ht
      rw [← ht]
      clear hb1 ht c0 c1 c2 c3 hb0 hown0
      go_wp2_with (at_builtin; refine wpList_append_own _ rfl _ _ 70 rfl w.heap.size 9 i0 (.string ⟨#[]⟩) 1 16 Tryd.underlying70 hi hz0 hz1 hz2 rfl (by decide) _ _ _ rfl (hown1.alloc _) ⟨_, 0, none⟩ 1 1 [.string t] rfl rfl ?c1 ?c2 ?c3 ?c4 ?c5 ?_)
      try (case c1 => exact cellNewB _)
      case c2 => first | rfl | (intro u hu; simp at hu; subst hu; rfl)
      case c3 => unfold maxLen; omega
      case c4 => omega
      case c5 => first | omega | (simp; omega)
      intro v' w2 hown2 hgrow _
      have HO : Hid (w2.ownsRow w.heap.size 9 1 v' (k + 1) (strs ((rs.take (k + 1)).map insT))) := Lib.hid (by rw [HS.out, strs_snoc, ← HTt.out]; first | exact hown2 | (rw [List.map_take]; exact hown2))
      have HQ := Lib.hid ((HW.out.alloc hsz (Obj.cells #[Value.string t] 9)).grown hgrow (by simp; omega) (fun q hq => (hown1.lt q hq).1))
      clear hown2 hgrow hown1 HO1
      go_wp2
      go_roundw
      case rel => exact ⟨k + 1, v', rfl, by omega, by go_num, HO.out, HQ.out⟩
      case measure => simp [intOf]; omega
    · obtain rfl : k = rs.length := by omega
      have HO : Hid (wr.ownsRow w.heap.size 9 1 ov rs.length (strs (rs.map insT))) := Lib.hid (by rw [List.take_length] at hown; exact hown)
      have hnlt : ¬ ((rs.length : Int) < (rs.length : Int)) := by omega
      clear hown hbel hlt
      go_wp2
      go_ret
      exact ⟨_, rfl, HO.out, HW.out⟩
theorem implPrText (v : Value) (rs : List Ins) (w : World) (h : RdIns w v rs) (ht : TabV w) :
    Calls Tryd.prog 11 #[v] w fun e w' => e = .returned (.string (bs (prV rs))) ∧ Below w.heap.size w w' := by
  have H := Lib.hid h
  have HT := Lib.hid ht
  obtain ⟨_, _, a, c, rfl, _, _⟩ := h
  clear ht
  obtain ⟨ok, hok⟩ : ∃ b, b = progB rs := ⟨_, rfl⟩
  have HOK := Lib.hid hok
  clear hok
  go_enter Tryd.func11, Tryd.ntmps11
  go_wp2_with fail
  refine (implValidProgram _ rs _ H.out).mono ?_
  rintro e w1 ⟨rfl, hb1⟩
  rw [← HOK.out]
  have HB1 := Lib.hid hb1
  clear hb1
  rcases eqOr ok with hb | hb
  · subst hb
    go_wp2
    go_ret
    exact ⟨by rw [prV, ← HOK.out]; rfl, HB1.out⟩
  subst hb
  have HG := Lib.hid (prR_of H.out.fit HOK.out.symm)
  by_cases h0 : rs = []
  · subst h0
    have hzb : ((0 : Int) == 0) = true := rfl
    go_wp2
    go_ret
    exact ⟨by rw [prV, ← HOK.out]; rfl, HB1.out⟩
  have hpos : 0 < rs.length := List.length_pos_iff.2 h0
  have hzb : ((rs.length : Int) == 0) = false := by simpa using h0
  have HPX : Hid (prX rs = Lib.join (rs.map insT) [59]) := Lib.hid (if_neg h0)
  have hl8 := HG.out.1
  have HJ : Hid ((Lib.join (rs.map insT) [59]).length ≤ 100000000) := Lib.hid (by have := HG.out.small; omega)
  clear h0
  go_wp2_with fail
  refine (mapIns _ rs _ (H.out.below HB1.out (Nat.le_refl _)) (HT.out.below HB1.out (Nat.le_refl _)) HG.out).mono ?_
  rintro e w2 ⟨u, rfl, hr2, hb2⟩
  have HR2 : Hid (w2.ownsRow w1.heap.size 9 1 u (rs.map insT).length (strs (rs.map insT))) := Lib.hid (by rw [List.length_map]; exact hr2)
  have HB2 := Lib.hid (HB1.out.trans (hb2.mono HB1.out.size))
  clear hb2 hr2
  go_wp2_with fail
  refine (joinRow _ _ (rs.map insT) [59] _ HR2.out (by rw [List.length_map]; omega) HJ.out).mono ?_
  rintro e w3 ⟨rfl, hb3⟩
  have HB3 := Lib.hid (HB2.out.trans (hb3.mono HB2.out.size))
  clear hb3
  go_wp2
  go_ret
  exact ⟨by rw [prV, ← HOK.out, if_pos rfl, HPX.out]; rfl, HB3.out⟩
end Go.Proofs.YteihfohjmjlanaaDoor.Ints
