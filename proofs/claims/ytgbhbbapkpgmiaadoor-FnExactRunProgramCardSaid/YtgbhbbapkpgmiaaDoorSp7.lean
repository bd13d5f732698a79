/- StepProgram: a step of the model's. -/
import Derived.Test.YtgbhbbapkpgmiaaDoorSpI
import Derived.Test.YtgbhbbapkpgmiaaDoorCelD
import Derived.Deep.DeepCutAuto
namespace Go.Proofs.YtgbhbbapkpgmiaaDoor.Ints
open Go.RowKit
set_option linter.unusedVariables false
set_option linter.unusedSimpArgs false
theorem Ow.storeAt {w : World} {B gb c0 : Nat} {cs : List Int} (h : Ow w B w.heap.size (.slice (some ⟨gb, 0, none⟩) cs.length c0) cs) (m : Nat) (hm : m < cs.length) (x : Int) (h0 : fit64 x) :
    w.cell? ⟨gb, m, none⟩ = some (.int .i64 (cs.getD m 0)) ∧ w.frozen? ⟨gb, m, none⟩ = false ∧
    Ow (w.setCell ⟨gb, m, none⟩ (.int .i64 x)) B (w.setCell ⟨gb, m, none⟩ (.int .i64 x)).heap.size (.slice (some ⟨gb, 0, none⟩) cs.length c0) (cs.set m x) := by
  have hr := h.row
  have hst := hr.stored m (.int .i64 x)
  have hs := hst.2.size
  have hgb := h.top gb rfl
  refine ⟨?_, hr.frozenAt m, ?_⟩
  · rw [hr.cellAt m (by omega)]; simp [List.getD_eq_getElem?_getD, List.getElem?_eq_getElem hm]
  · refine ⟨by simpa using h.len, h.fit.set m h0, ?_, fun q hq => by cases hq; exact Nat.lt_of_lt_of_le hgb hs, Nat.le_refl _, Nat.le_trans h.base hs⟩
    have := hst.1
    simpa [List.map_set] using this
theorem Ow.apartRow {w : World} {B q c0 : Nat} {v : Nat} {cs : List Int} (h : Ow w B w.heap.size (.slice (some ⟨q, 0, none⟩) v c0) cs) {g : Nat} (hg : g ≠ q) (j : Nat) (x : Value) : Ow (w.setCell ⟨g, j, none⟩ x) B (w.setCell ⟨g, j, none⟩ x).heap.size (.slice (some ⟨q, 0, none⟩) v c0) cs :=
  (h.grown (put1g w g j x) (.inr (by simp [Value.ownBlock]; omega))).mono (Nat.le_refl _) (by simp) (Nat.le_refl _)
/-- A region's end: a struct of two cells made behind the call, or ahead of it. -/
theorem own7a {w0 w1 : World} {t : TypeId} {th : Int} {r : Value} {cs : List Int} (hb : Below w0.heap.size w0 w1) (ho : Ow w1 w0.heap.size w1.heap.size r cs) :
    Ow (w1.alloc (.cells #[.int .i64 th, r] t)) w0.heap.size (w1.alloc (.cells #[.int .i64 th, r] t)).heap.size r cs :=
  (ho.below ((Below.refl w1.heap.size w1).alloc (Nat.le_refl _) (.cells #[.int .i64 th, r] t)) (Nat.le_refl _)).mono (Nat.le_refl _) (by simp) (Nat.le_refl _)
theorem ow_preD {w w1 : World} {o : Obj} {r : Value} {cs : List Int} (h : Ow w1 (w.alloc o).drew.heap.size w1.heap.size r cs) : Ow w1 (w.heap.size + 1) w1.heap.size r cs := h.mono (by simp) (Nat.le_refl _) (Nat.le_refl _)
theorem ow_pre {w w1 : World} {o : Obj} {r : Value} {cs : List Int} (h : Ow w1 (w.alloc o).heap.size w1.heap.size r cs) : Ow w1 (w.heap.size + 1) w1.heap.size r cs := h.mono (by simp) (Nat.le_refl _) (Nat.le_refl _)
set_option maxHeartbeats 4000000 in
set_option maxRecDepth 100000 in
theorem specPStep (v : Value) (rs : List Ins) (k : Nat) (u : Value) (cs : List Int) (gx : Nat) (w : World) (hv : RdIns w v rs) (hu : Rd w u cs) (hx : Cels w gx 39 [.int .i64 (k : Int), u]) (hk : k < rs.length) (hp : Pok rs) (hl : cs.length = 24) (hd : Dig 1000001 cs) (bo : Bool) (hbo : bo = false ↔ fullP rs k cs) :
    Calls Tryd.prog 91 #[v, .pointer (some ⟨gx, 0, none⟩)] w fun e w' => ∃ r, e = .returned (.tuple #[.agg #[.int .i64 (stAt rs k cs), r], .bool bo]) ∧ Ow w' w.heap.size w'.heap.size r (stCs rs k cs) ∧ Below w.heap.size w w' := by
  have HBO := Lib.hid hbo
  clear hbo
  obtain ⟨_, _, au, cu, rfl, _, _⟩ := id hu
  obtain ⟨hlv, hf, a1, c1, rfl, _, hrd⟩ := hv
  obtain ⟨bb, o, rfl, hbb, hcell⟩ := hrd (by intro h0; rw [h0] at hk; simp at hk)
  obtain ⟨d0, d1, d2, d3⟩ := hcell k hk
  have hin := hp.all k hk
  have hrg := rg_lt hp hl hk
  have HFU : Hid (fullP rs k cs ↔ ((rs.getD k zIns).kd = 0 ∧ cs.getD (rs.getD k zIns).rg.toNat 0 = 1000000)) := Lib.hid Iff.rfl
  have HAT : Hid (stAt rs k cs = if (rs.getD k zIns).kd = 0 then (rs.getD k zIns).th else if 0 < cs.getD (rs.getD k zIns).rg.toNat 0 then (rs.getD k zIns).th else (rs.getD k zIns).el) := Lib.hid rfl
  have HCS : Hid (stCs rs k cs = if (rs.getD k zIns).kd = 0 then cs.set (rs.getD k zIns).rg.toNat (cs.getD (rs.getD k zIns).rg.toNat 0 + 1)
      else if 0 < cs.getD (rs.getD k zIns).rg.toNat 0 then cs.set (rs.getD k zIns).rg.toNat (cs.getD (rs.getD k zIns).rg.toNat 0 - 1) else cs) := Lib.hid rfl
  obtain ⟨r, hr⟩ : ∃ r, r = rs.getD k zIns := ⟨_, rfl⟩
  rw [← hr] at d0 d1 d2 d3 hin hrg HFU HAT HCS
  obtain ⟨x, y, th, el⟩ := r
  obtain ⟨_, _, hkd⟩ := hin
  dsimp only at d0 d1 d2 d3 hkd hrg HFU HAT HCS
  obtain ⟨m, rfl⟩ : ∃ m : Nat, y = (m : Int) := ⟨y.toNat, by omega⟩
  have hmc : m < cs.length := by omega
  obtain ⟨c, hc⟩ : ∃ c, c = cs.getD m 0 := ⟨_, rfl⟩
  have hcb := dig_all hd m
  rw [show ((m : Int)).toNat = m from rfl, ← hc] at HFU HAT HCS
  rw [← hc] at hcb
  have HL := Lib.hid hl
  have HC := Lib.hid hc
  have HM := Lib.hid hmc
  have HU := Lib.hid hu
  have HXX := Lib.hid hx
  have q0 : ∀ o1 : Obj, Below w.heap.size w (w.alloc o1) := fun o1 => (Below.refl _ _).alloc (Nat.le_refl _) _
  have x0 := fun o1 => (hx.below (q0 o1) hx.lt).cell 0 rfl
  have e0 := fun o1 => ((q0 o1).cell (p := ⟨bb, o + k * 4, none⟩) hbb).trans d0
  have e1 := fun o1 => ((q0 o1).cell (p := ⟨bb, o + k * 4 + 1, none⟩) hbb).trans d1
  have e2 := fun o1 => ((q0 o1).cell (p := ⟨bb, o + k * 4 + 2, none⟩) hbb).trans d2
  have e3 := fun o1 => ((q0 o1).cell (p := ⟨bb, o + k * 4 + 3, none⟩) hbb).trans d3
  have i0 : (0 : Int) ≤ (k : Int) := by omega
  have i1 : (k : Int) < (rs.length : Int) := by omega
  obtain ⟨W2, hW2⟩ : ∃ W, W = (w.alloc (Obj.cells #[.int .i64 0, .slice none 0 0] 39)).alloc (Obj.cells #[.int .i64 x, .int .i64 (m : Int), .int .i64 th, .int .i64 el] 103) := ⟨_, rfl⟩
  have hB2 : Below w.heap.size w W2 := by rw [hW2]; exact ((Below.refl _ _).alloc (Nat.le_refl _) _).alloc (by simp) _
  have k4 : Cels W2 w.heap.size 39 [.int .i64 0, .slice none 0 0] := by rw [hW2]; exact (Cels.new _ _ _).alloc _
  have k6 : Cels W2 (w.heap.size + 1) 103 [.int .i64 x, .int .i64 (m : Int), .int .i64 th, .int .i64 el] := by
    rw [hW2]
    have := Cels.new (w.alloc (Obj.cells #[.int .i64 0, .slice none 0 0] 39)) 103 [.int .i64 x, .int .i64 (m : Int), .int .i64 th, .int .i64 el]
    rwa [World.size_alloc] at this
  have HB2 := Lib.hid hB2
  have K4 := Lib.hid k4
  have K6 := Lib.hid k6
  have HX2 := Lib.hid (hx.below hB2 hx.lt)
  have HU2 := Lib.hid (hu.below hB2 (Nat.le_refl _))
  have HW2 := Lib.hid hW2.symm
  have HSZ : Hid (W2.heap.size = w.heap.size + 2) := Lib.hid (by rw [hW2]; simp)
  have HKD := Lib.hid hkd
  have HCB := Lib.hid hcb
  have HRG := Lib.hid hrg
  clear hl hcell hrd d0 d1 d2 d3 q0 hr hp hW2 k4 k6 hB2 hkd hu hx hd hc hcb hrg hmc
  go_enter Tryd.func91, Tryd.ntmps91
  go_upto_region 2 with fail
  rw [HW2.out]
  clear e0 e1 e2 e3 x0
  go_cut [7] (fun s7 wx => ∃ (b7 : Nat) (r : Value), s7 = .pointer (some ⟨b7, 0, none⟩) ∧ w.heap.size + 1 < b7 ∧ Cels wx b7 39 [.int .i64 th, r] ∧ Ow wx W2.heap.size wx.heap.size r cs ∧ Below W2.heap.size W2 wx)
  case first =>
    have HS1 : Hid (∀ W', Below W2.heap.size W2 W' → W'.cell? ⟨w.heap.size + 1, 2, none⟩ = some (.int .i64 th) ∧ W'.cell? ⟨gx, 1, none⟩ = some (.slice au cs.length cu)) := Lib.hid (fun W' h => ⟨(K6.out.below h K6.out.lt).cell 2 rfl, (HX2.out.below h HX2.out.lt).cell 1 rfl⟩)
    have HD : Hid (Below W2.heap.size W2 W2.drew) := Lib.hid (Below.refl _ _).drew
    go_region_held3 (fun w' => w'.cell? ⟨w.heap.size + 1, 2, none⟩ = some (.int .i64 th) ∧ w'.cell? ⟨gx, 1, none⟩ = some (.slice au cs.length cu)) (first | exact HS1.out _ HD.out | exact HS1.out _ (HD.out.alloc HD.out.size _) | exact HS1.out _ (((Below.refl _ _).alloc (Nat.le_refl _) _).drew) | exact HS1.out _ (below_set (below_set HD.out HZb.out _ _) HZb.out _ _) | exact HS1.out _ (below_set (below_set (HD.out.alloc HD.out.size _) HD.out.size _ _) HD.out.size _ _)) (first | (go_at_call 89; with_reducible refine (specOwn _ cs _ (by first | exact HU2.out.below HD.out (Nat.le_refl _) | exact HU2.out.below (HD.out.alloc HD.out.size _) (Nat.le_refl _) | exact HU2.out.below (((Below.refl _ _).alloc (Nat.le_refl _) _).drew) (Nat.le_refl _))).mono ?_; rintro e w1 ⟨r, rfl, or, bq⟩; (try (with_reducible have KZ := Lib.hid (cels_pre bq); have HZb := Lib.hid HD.out.size)); (try (with_reducible have KZ := Lib.hid (cels_preD bq); have HZb := Lib.hid (Nat.le_refl W2.heap.size))); have HO := Lib.hid (or.mono (B' := W2.heap.size) (by first | exact HD.out.size | exact (HD.out.alloc HD.out.size _).size | exact (((Below.refl _ _).alloc (Nat.le_refl _) _).drew).size) (Nat.le_refl _) (Nat.le_refl _)); obtain ⟨ga, gc, hu⟩ := or.shape; subst hu; (try (with_reducible have HOz := Lib.hid (ow_pre or))); (try (with_reducible have HOz := Lib.hid (ow_preD or))); clear or; (try with_reducible replace bq := below_pre bq); (try with_reducible replace bq := below_preD bq); replace HD := Lib.hid (HD.out.trans (bq.mono HD.out.size)); clear bq; (try (have HF := Lib.hid (put2s KZ.out (.int .i64 th) (.slice ga cs.length gc)); obtain ⟨f1, f2, f3, f4, f7⟩ := HF.out; have HF7 := Lib.hid f7; clear f7))))
    all_goals (go_wp2_with fail; go_meet)
    all_goals first
      | exact ⟨_, _, rfl, by have := HSZ.out; have := HD.out.size; omega, Cels.new _ _ _, own7a HD.out HO.out, HD.out.alloc HD.out.size _⟩
      | exact ⟨_, _, rfl, by have := HSZ.out; have := HZb.out; omega, HF7.out, (((HOz.out.apartCell (Nat.lt_succ_self _) 0 (.int .i64 th)).apartCell (Nat.lt_succ_self _) 1 _).mono (Nat.le_succ_of_le HZb.out) (by simp) (Nat.le_refl _)), below_set (below_set HD.out HZb.out _ _) HZb.out _ _⟩
  obtain ⟨b7, r, rfl, hb7, k7, ho, hb⟩ := hcut
  obtain ⟨W3, hW3⟩ : ∃ x, x = wc := ⟨_, rfl⟩
  subst hW3
  have hl := HL.out
  obtain ⟨q, gc, rfl, hq, hqt⟩ : ∃ q gc, r = .slice (some ⟨q, 0, none⟩) cs.length gc ∧ W2.heap.size ≤ q ∧ q < W3.heap.size := by
    rcases ho.form with ⟨_, h⟩ | ⟨q, gc, h, h1, h2, _⟩
    · rw [h] at hl; simp at hl
    · exact ⟨q, gc, h, h1, h2⟩
  have hsz := HSZ.out
  have hq7 : q ≠ b7 := fun e => ho.nblk k7 (by decide) (by simp [Value.ownBlock, e])
  have HQ : Hid (w.heap.size + 1 < q ∧ w.heap.size + 1 < b7 ∧ q ≠ b7) := Lib.hid ⟨by omega, hb7, hq7⟩
  have HO := Lib.hid (ho.mono (B' := w.heap.size) (by omega) (Nat.le_refl _) (Nat.le_refl _))
  have HB3 := Lib.hid (HB2.out.trans (hb.mono (by omega)))
  have K7 := Lib.hid k7
  have K43 := Lib.hid (K4.out.below hb K4.out.lt)
  have K63 := Lib.hid (K6.out.below hb K6.out.lt)
  clear k7 ho hb hl hq hqt hsz hq7 hb7
  have a0 := K63.out.cell 0 rfl
  have a1 := K63.out.cell 1 rfl
  have z70 := K7.out.cell 0 rfl
  have z71 := K7.out.cell 1 rfl
  have hcb := HCB.out
  have i0 : (0 : Int) ≤ (m : Int) := by omega
  have i1 : (m : Int) < (cs.length : Int) := by have := HM.out; omega
  have i2 : m < cs.length := HM.out
  rcases HKD.out with ⟨rfl, rfl⟩ | ⟨rfl, u0, u1⟩
  · have k1 : ((0 : Int) == 0) = true := rfl
    obtain ⟨f0, f1, f2⟩ := HO.out.storeAt m HM.out (c + 1) ⟨by omega, by omega⟩
    rw [← HC.out] at f0
    have HF2 := Lib.hid f2
    have ew : IntKind.i64.wrap (c + 1) = c + 1 := by rw [IntKind.wrap_i64]; omega
    have HAT1 : Hid (stAt rs k cs = th) := Lib.hid (by rw [HAT.out, if_pos rfl])
    have HCS1 : Hid (stCs rs k cs = cs.set m (c + 1)) := Lib.hid (by rw [HCS.out, if_pos rfl])
    have HBE : Hid (decide (c + 1 ≤ 1000000) = bo) := Lib.hid (by
      have h := HBO.out
      rw [HFU.out] at h
      by_cases hh : c + 1 ≤ 1000000
      · rw [decide_eq_true hh]
        cases bo with
        | true => rfl
        | false => exfalso; have := (h.1 rfl).2; omega
      · rw [decide_eq_false hh]; exact (h.2 ⟨rfl, by omega⟩).symm)
    clear f2
    go_upto_region 5 with fail
    obtain ⟨W4, hW4⟩ : ∃ x, x = W3.setCell ⟨q, m, none⟩ (.int .i64 (c + 1)) := ⟨_, rfl⟩
    have h2 := HF2.out
    rw [← hW4] at h2 ⊢
    have HB4 : Hid (Below w.heap.size w W4) := Lib.hid (by rw [hW4]; exact below_set HB3.out (by have := HQ.out; omega) _ _)
    have K74 : Hid (Cels W4 b7 39 [.int .i64 th, .slice (some ⟨q, 0, none⟩) cs.length gc]) := Lib.hid (by rw [hW4]; exact K7.out.other (p := ⟨q, m, none⟩) (by show b7 ≠ q; have := HQ.out; omega) _)
    have K64 : Hid (Cels W4 (w.heap.size + 1) 103 [.int .i64 0, .int .i64 (m : Int), .int .i64 th, .int .i64 0]) := Lib.hid (by rw [hW4]; exact K63.out.other (p := ⟨q, m, none⟩) (by show w.heap.size + 1 ≠ q; have := HQ.out; omega) _)
    have K44 : Hid (Cels W4 w.heap.size 39 [.int .i64 0, .slice none 0 0]) := Lib.hid (by rw [hW4]; exact K43.out.other (p := ⟨q, m, none⟩) (by show w.heap.size ≠ q; have := HQ.out; omega) _)
    have HO4 := Lib.hid h2
    clear hW4 h2 f0 f1 a0 a1 z70 z71
    have hlen : (cs.set m (c + 1)).length = cs.length := by simp
    have gm : (cs.set m (c + 1)).getD m 0 = c + 1 := by simp [List.getD, HM.out]
    have o5 : Ow W4 w.heap.size W4.heap.size (.slice (some ⟨q, 0, none⟩) (cs.set m (c + 1)).length gc) (cs.set m (c + 1)) := by
      rw [hlen]
      exact HO4.out
    have g0 := (o5.storeAt m (by rw [hlen]; exact HM.out) 0 ⟨by omega, by omega⟩).1
    rw [gm] at g0
    have ne7 : b7 ≠ w.heap.size := by have := HQ.out; omega
    have ne6 : w.heap.size + 1 ≠ w.heap.size := by omega
    have neq : q ≠ w.heap.size := by have := HQ.out; omega
    obtain ⟨p0, p1, p2, p3, p4⟩ := put2s K44.out (.int .i64 th) (.slice (some ⟨q, 0, none⟩) cs.length gc)
    have s70 := K74.out.cell 0 rfl
    have s71 := K74.out.cell 1 rfl
    have s61 := K64.out.cell 1 rfl
    have t71 := ((K74.out.other (p := ⟨w.heap.size, 0, none⟩) ne7 (.int .i64 th)).other (p := ⟨w.heap.size, 1, none⟩) ne7 (.slice (some ⟨q, 0, none⟩) cs.length gc)).cell 1 rfl
    have t61 := ((K64.out.other (p := ⟨w.heap.size, 0, none⟩) ne6 (.int .i64 th)).other (p := ⟨w.heap.size, 1, none⟩) ne6 (.slice (some ⟨q, 0, none⟩) cs.length gc)).cell 1 rfl
    have o6 := (o5.apartRow neq.symm 0 (.int .i64 th)).apartRow neq.symm 1 (.slice (some ⟨q, 0, none⟩) cs.length gc)
    have g6 := (o6.storeAt m (by rw [hlen]; exact HM.out) 0 ⟨by omega, by omega⟩).1
    rw [gm] at g6
    have HP4 := Lib.hid (p4.below (Below.refl _ _).drew p4.lt)
    have HO6 := Lib.hid ((o6.below (Below.refl _ _).drew (Nat.le_refl _)).mono (Nat.le_refl _) (Below.refl 0 _).drew.size (Nat.le_refl _))
    have HLEN := Lib.hid hlen
    have HB6 := Lib.hid (below_set (below_set HB4.out (Nat.le_refl _) 0 (.int .i64 th)) (Nat.le_refl _) 1 (.slice (some ⟨q, 0, none⟩) cs.length gc)).drew
    clear p4 o5 o6 gm hlen
    go_region
    all_goals
      go_wp2
      obtain ⟨W, hW⟩ : ∃ W, W = ((W4.setCell ⟨w.heap.size, 0, none⟩ (.int .i64 th)).setCell ⟨w.heap.size, 1, none⟩ (.slice (some ⟨q, 0, none⟩) cs.length gc)).drew := ⟨_, rfl⟩
      have hp := HP4.out
      have hO := HO6.out
      have hB := HB6.out
      rw [HLEN.out] at hO
      rw [← hW] at hp hO hB ⊢
      have z0 := hp.cell 0 rfl
      have z1 := hp.cell 1 rfl
      refine bodyPost_ret (v := .tuple #[.agg #[.int .i64 th, .slice (some ⟨q, 0, none⟩) cs.length gc], .bool (decide (c + 1 ≤ 1000000))]) (by simp [results, Tryd.f91, go_sem, z0, z1]) rfl ⟨_, by rw [HAT1.out, HBE.out], by rw [HCS1.out]; exact hO, hB⟩
  have k1 : ((1 : Int) == 0) = false := rfl
  have HBT : Hid (true = bo) := Lib.hid (by
    have h := HBO.out
    rw [HFU.out] at h
    cases bo with
    | true => rfl
    | false => have := (h.1 rfl).1; exact absurd this (by decide))
  by_cases hz : c = 0
  · have k3 : (c == 0) = true := by simp [hz]
    have HAT2 : Hid (stAt rs k cs = el) := Lib.hid (by rw [HAT.out, if_neg (by decide), if_neg (by omega)])
    have HCS2 : Hid (stCs rs k cs = cs) := Lib.hid (by rw [HCS.out, if_neg (by decide), if_neg (by omega)])
    obtain ⟨f0, _, _⟩ := HO.out.storeAt m HM.out 0 ⟨by omega, by omega⟩
    rw [← HC.out] at f0
    have a3 := K63.out.cell 3 rfl
    have ne7 : w.heap.size ≠ b7 := by have := HQ.out; omega
    have neq : b7 ≠ q := by have := HQ.out; omega
    obtain ⟨v0, v1, v2, v3, v4⟩ := put2s K7.out (.int .i64 el) (.slice (some ⟨q, 0, none⟩) cs.length gc)
    have kx := K7.out.set 0 (.int .i64 el)
    have k45 := K43.out.other (p := ⟨b7, 0, none⟩) ne7 (.int .i64 el)
    have y0 := kx.cell 0 rfl
    have y1 := kx.cell 1 rfl
    obtain ⟨p0, p1, p2, p3, p4⟩ := put2s k45 (.int .i64 el) (.slice (some ⟨q, 0, none⟩) cs.length gc)
    have o5 := (HO.out.apartRow neq 0 (.int .i64 el))
    have o6 := (o5.apartRow (g := w.heap.size) (by have := HQ.out; omega) 0 (.int .i64 el)).apartRow (g := w.heap.size) (by have := HQ.out; omega) 1 (.slice (some ⟨q, 0, none⟩) cs.length gc)
    have HP4 := Lib.hid p4
    have HO6 := Lib.hid o6
    have HB6 := Lib.hid (below_set (below_set (below_set HB3.out (g := b7) (by have := HQ.out; omega) 0 (.int .i64 el)) (Nat.le_refl _) 0 (.int .i64 el)) (Nat.le_refl _) 1 (.slice (some ⟨q, 0, none⟩) cs.length gc))
    have HZ := Lib.hid hz
    clear p4 v4 v2 v3 kx k45 o5 o6 hz ne7 neq
    go_wp2
    obtain ⟨W, hW⟩ : ∃ W, W = ((W3.setCell ⟨b7, 0, none⟩ (.int .i64 el)).setCell ⟨w.heap.size, 0, none⟩ (.int .i64 el)).setCell ⟨w.heap.size, 1, none⟩ (.slice (some ⟨q, 0, none⟩) cs.length gc) := ⟨_, rfl⟩
    have hp := HP4.out
    have hO := HO6.out
    have hB := HB6.out
    rw [← hW] at hp hO hB ⊢
    have z0 := hp.cell 0 rfl
    have z1 := hp.cell 1 rfl
    refine bodyPost_ret (v := .tuple #[.agg #[.int .i64 el, .slice (some ⟨q, 0, none⟩) cs.length gc], .bool true]) (by simp [results, Tryd.f91, go_sem, z0, z1]) rfl ⟨_, by rw [HAT2.out, HBT.out], by rw [HCS2.out]; exact hO, hB⟩
  · have k3 : (c == 0) = false := by simp [hz]
    have HAT2 : Hid (stAt rs k cs = th) := Lib.hid (by rw [HAT.out, if_neg (by decide), if_pos (by omega)])
    have HCS2 : Hid (stCs rs k cs = cs.set m (c - 1)) := Lib.hid (by rw [HCS.out, if_neg (by decide), if_pos (by omega)])
    obtain ⟨f0, f1, f2⟩ := HO.out.storeAt m HM.out (c - 1) ⟨by omega, by omega⟩
    rw [← HC.out] at f0
    have hlen : (cs.set m (c - 1)).length = cs.length := by simp
    have neq : w.heap.size ≠ q := by have := HQ.out; omega
    have ne7 : b7 ≠ q := by have := HQ.out; omega
    have ew : IntKind.i64.wrap (c - 1) = c - 1 := by rw [IntKind.wrap_i64]; omega
    have k75 := K7.out.other (p := ⟨q, m, none⟩) ne7 (.int .i64 (c - 1))
    have k45 := K43.out.other (p := ⟨q, m, none⟩) neq (.int .i64 (c - 1))
    have y0 := k75.cell 0 rfl
    have y1 := k75.cell 1 rfl
    obtain ⟨p0, p1, p2, p3, p4⟩ := put2s k45 (.int .i64 th) (.slice (some ⟨q, 0, none⟩) cs.length gc)
    have o6 := (f2.apartRow (g := w.heap.size) neq 0 (.int .i64 th)).apartRow (g := w.heap.size) neq 1 (.slice (some ⟨q, 0, none⟩) cs.length gc)
    have HP4 := Lib.hid p4
    have HO6 := Lib.hid o6
    have HB6 := Lib.hid (below_set (below_set (below_set HB3.out (g := q) (by have := HQ.out; omega) m (.int .i64 (c - 1))) (Nat.le_refl _) 0 (.int .i64 th)) (Nat.le_refl _) 1 (.slice (some ⟨q, 0, none⟩) cs.length gc))
    have HZ := Lib.hid hz
    clear p4 k75 k45 f2 o6 hz ne7 neq hlen
    go_wp2
    obtain ⟨W, hW⟩ : ∃ W, W = ((W3.setCell ⟨q, m, none⟩ (.int .i64 (c - 1))).setCell ⟨w.heap.size, 0, none⟩ (.int .i64 th)).setCell ⟨w.heap.size, 1, none⟩ (.slice (some ⟨q, 0, none⟩) cs.length gc) := ⟨_, rfl⟩
    have hp := HP4.out
    have hO := HO6.out
    have hB := HB6.out
    rw [← hW] at hp hO hB ⊢
    have z0 := hp.cell 0 rfl
    have z1 := hp.cell 1 rfl
    refine bodyPost_ret (v := .tuple #[.agg #[.int .i64 th, .slice (some ⟨q, 0, none⟩) cs.length gc], .bool true]) (by simp [results, Tryd.f91, go_sem, z0, z1]) rfl ⟨_, by rw [HAT2.out, HBT.out], by rw [HCS2.out]; exact hO, hB⟩
end Go.Proofs.YtgbhbbapkpgmiaaDoor.Ints
