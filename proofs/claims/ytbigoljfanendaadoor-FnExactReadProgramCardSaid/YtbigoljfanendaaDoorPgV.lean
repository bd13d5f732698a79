/- A program read from a text, of the model. -/
import Derived.Test.YtbigoljfanendaaDoorPgP
import Derived.Test.YtbigoljfanendaaDoorRlS
import Derived.Test.YtbigoljfanendaaDoorPrgS
namespace Go.Proofs.YtbigoljfanendaaDoor.Ints
open Go.RowKit
set_option linter.unusedVariables false
set_option linter.unusedSimpArgs false
set_option maxHeartbeats 4000000 in
theorem specPair (s : ByteArray) (c : UInt8) (b' : Int) (hb : b' = (c.toNat : Int)) (w : World) (hs : s.size ≤ 1048576) :
    Calls Tryd.prog 126 #[.string s, .int .u8 b'] w fun e w' => ∃ (x y : Int) (q : Bool), e = .returned (.tuple #[.int .i64 x, .int .i64 y, .bool q]) ∧ (q = true → prOk c s.data.toList ∧ x = prA c s.data.toList ∧ y = prB c s.data.toList) ∧ (q = false → ¬ prOk c s.data.toList) ∧ Below w.heap.size w w' := by
  obtain ⟨l, hl⟩ : ∃ l, l = s.data.toList := ⟨_, rfl⟩
  rw [← hl]
  have HL := Lib.hid hl
  obtain ⟨ts, hts⟩ : ∃ ts, ts = pcs c l := ⟨_, rfl⟩
  have HTs := Lib.hid hts
  have HPz : Hid (∀ q ∈ ts, q.length ≤ 1048576) := Lib.hid (fun q hq => by
    have := pcs_piece c l q (by rw [← hts]; exact hq)
    have h2 := Lib.size_eq s
    rw [hl] at this
    omega)
  have HSp := Lib.hid (specSplit s c b' hb w hs)
  clear hl hts hb hs
  go_enter Tryd.func126, Tryd.ntmps126
  go_wp2_with fail
  refine HSp.out.mono ?_
  rintro e w1 ⟨u, rfl, hr, hb1⟩
  rw [← HL.out, ← HTs.out] at hr
  obtain ⟨b, c1, rfl, hcap, hbl, hcell⟩ := hr
  have HC := Lib.hid hcell
  have HB1 := Lib.hid hb1
  clear hcell hb1
  by_cases h2 : ts.length = 2
  rotate_left
  · have e3 : ((ts.length : Int) == 2) = false := by rw [beq_eq_false_iff_ne]; omega
    have e3' : ¬ (ts.length : Int) = 2 := by omega
    have HN2 := Lib.hid h2
    clear h2
    go_wp2
    refine bodyPost_ret (v := .tuple #[.int .i64 0, .int .i64 0, .bool false]) (by simp [results, Tryd.f126, go_sem]) rfl ?_
    exact ⟨0, 0, false, rfl, (fun h => by cases h), fun _ h => HN2.out (by rw [HTs.out]; exact h.1), HB1.out⟩
  obtain ⟨t0, t1, rfl⟩ : ∃ a b, ts = [a, b] := by
    match ts, h2 with
    | [a, b], _ => exact ⟨a, b, rfl⟩
  have hcc := HC.out
  have H0 : Hid (∀ W, Below w1.heap.size w1 W → W.cell? ⟨b, 0, none⟩ = some (.string (bs t0))) := Lib.hid (fun W hW => (hW.cell hbl).trans (hcc 0 (by simp)))
  have H1 : Hid (∀ W, Below w1.heap.size w1 W → W.cell? ⟨b, 1, none⟩ = some (.string (bs t1))) := Lib.hid (fun W hW => (hW.cell hbl).trans (hcc 1 (by simp)))
  have HS0 : Hid ((bs t0).size ≤ 1048576) := Lib.hid (by rw [bs_size]; exact HPz.out t0 (by simp))
  have HS1 : Hid ((bs t1).size ≤ 1048576) := Lib.hid (by rw [bs_size]; exact HPz.out t1 (by simp))
  have HNo : Hid (prOk c l → NumOk t0 ∧ NumOk t1) := Lib.hid (fun h => by
    obtain ⟨a, b, e, ha, hb, _⟩ := h.parts
    rw [← HTs.out] at e
    simp at e
    obtain ⟨rfl, rfl⟩ := e
    exact ⟨ha, hb⟩)
  have HYs : Hid (NumOk t0 → NumOk t1 → prOk c l ∧ prA c l = valL t0 ∧ prB c l = valL t1) := Lib.hid (fun h0 h1 => prOk_of HTs.out.symm h0 h1)
  clear hcc h2
  obtain ⟨n0, hn0⟩ : ∃ n, n = numV (bs t0).data.toList := ⟨_, rfl⟩
  obtain ⟨q0, hq0⟩ : ∃ n, n = numB (bs t0).data.toList := ⟨_, rfl⟩
  have HN0 := Lib.hid hn0
  have HQ0 := Lib.hid hq0
  have HY0 : Hid (q0 = true → NumOk t0 ∧ n0 = valL t0) := Lib.hid (fun hq => by
    rw [hq0, bs_list] at hq
    rcases Classical.em (NumOk t0) with h | h
    · exact ⟨h, by rw [hn0, bs_list, (num_yes h).2]⟩
    · rw [(num_no h).1] at hq; cases hq)
  have HX0 : Hid (q0 = false → ¬ NumOk t0) := Lib.hid (fun hq h => by rw [hq0, bs_list, (num_yes h).1] at hq; cases hq)
  clear hn0 hq0
  obtain ⟨n1, hn1⟩ : ∃ n, n = numV (bs t1).data.toList := ⟨_, rfl⟩
  obtain ⟨q1, hq1⟩ : ∃ n, n = numB (bs t1).data.toList := ⟨_, rfl⟩
  have HN1 := Lib.hid hn1
  have HQ1 := Lib.hid hq1
  have HY1 : Hid (q1 = true → NumOk t1 ∧ n1 = valL t1) := Lib.hid (fun hq => by
    rw [hq1, bs_list] at hq
    rcases Classical.em (NumOk t1) with h | h
    · exact ⟨h, by rw [hn1, bs_list, (num_yes h).2]⟩
    · rw [(num_no h).1] at hq; cases hq)
  have HX1 : Hid (q1 = false → ¬ NumOk t1) := Lib.hid (fun hq h => by rw [hq1, bs_list, (num_yes h).1] at hq; cases hq)
  clear hn1 hq1
  have hc0 := H0.out _ (Below.refl _ _)
  go_wp2_with fail
  refine (specNumber (bs t0) _ HS0.out).mono ?_
  rintro e w2 ⟨rfl, bb⟩
  rw [← HN0.out, ← HQ0.out]
  have HX2 := Lib.hid bb
  have HB2 := Lib.hid (HB1.out.trans (bb.mono HB1.out.size))
  clear bb hc0
  have hc1 := H1.out _ HX2.out
  go_wp2_with fail
  refine (specNumber (bs t1) _ HS1.out).mono ?_
  rintro e w3 ⟨rfl, bb⟩
  rw [← HN1.out, ← HQ1.out]
  have HB3 := Lib.hid (HB2.out.trans (bb.mono HB2.out.size))
  clear bb hc1
  rcases eqOr q0 with hb | hb
  · have HF := Lib.hid (HX0.out hb)
    subst hb
    go_wp2
    refine bodyPost_ret (v := .tuple #[.int .i64 n0, .int .i64 n1, .bool false]) (by simp [results, Tryd.f126, go_sem]) rfl ?_
    exact ⟨n0, n1, false, rfl, (fun h => by cases h), fun _ h => HF.out (HNo.out h).1, HB3.out⟩
  have HY0' := Lib.hid (HY0.out hb)
  subst hb
  rcases eqOr q1 with hb | hb
  · have HF := Lib.hid (HX1.out hb)
    subst hb
    go_wp2
    refine bodyPost_ret (v := .tuple #[.int .i64 n0, .int .i64 n1, .bool false]) (by simp [results, Tryd.f126, go_sem]) rfl ?_
    exact ⟨n0, n1, false, rfl, (fun h => by cases h), fun _ h => HF.out (HNo.out h).2, HB3.out⟩
  have HY1' := Lib.hid (HY1.out hb)
  subst hb
  go_wp2
  refine bodyPost_ret (v := .tuple #[.int .i64 n0, .int .i64 n1, .bool true]) (by simp [results, Tryd.f126, go_sem]) rfl ?_
  exact ⟨n0, n1, true, rfl, fun _ => ⟨(HYs.out HY0'.out.1 HY1'.out.1).1, by rw [(HYs.out HY0'.out.1 HY1'.out.1).2.1]; exact HY0'.out.2, by rw [(HYs.out HY0'.out.1 HY1'.out.1).2.2]; exact HY1'.out.2⟩, (fun h => by cases h), HB3.out⟩
theorem bs_tail {s : ByteArray} (h : 1 ≤ s.size) : s.extract 1 s.size = bs s.data.toList.tail := by
  rw [← bs_of (s.extract 1 s.size), Lib.extract_to_end, List.drop_one]
theorem head_bt {s : ByteArray} (h : 0 < s.size) : ∃ x r, s.data.toList = x :: r ∧ x.toNat = bt s 0 := by
  have hl : s.data.toList.length = s.size := by simp
  cases hd : s.data.toList with
  | nil => rw [hd] at hl; simp at hl; omega
  | cons x r => exact ⟨x, r, rfl, by rw [bt_gets h, hd]; rfl⟩
theorem u8_eq {x c : UInt8} {n : Nat} (h : x.toNat = n) : x = c ↔ n = c.toNat := by
  rw [← h]; exact ⟨fun e => by rw [e], fun e => UInt8.toNat_inj.1 e⟩
set_option maxRecDepth 100000 in
set_option maxHeartbeats 8000000 in
theorem specOneI (s : ByteArray) (w : World) (hs : s.size ≤ 1048576) :
    Calls Tryd.prog 83 #[.string s] w fun e w' => ∃ (r : Ins) (q : Bool), e = .returned (.tuple #[.agg #[.int .i64 r.kd, .int .i64 r.rg, .int .i64 r.th, .int .i64 r.el], .bool q]) ∧ (q = true → insOne s.data.toList ∧ r = insV s.data.toList) ∧ (q = false → ¬ insOne s.data.toList) ∧ Below w.heap.size w w' := by
  obtain ⟨W0, hW0⟩ : ∃ W, W = w.alloc (Obj.cells #[.int .i64 0, .int .i64 0, .int .i64 0, .int .i64 0] 74) := ⟨_, rfl⟩
  have HB0 : Hid (Below w.heap.size w W0) := Lib.hid (by rw [hW0]; exact (Below.refl w.heap.size w).alloc (Nat.le_refl _) _)
  have K0 : Hid (Cels W0 w.heap.size 74 [.int .i64 0, .int .i64 0, .int .i64 0, .int .i64 0]) := Lib.hid (by rw [hW0]; exact Cels.new _ _ _)
  have HW0 := Lib.hid hW0.symm
  clear hW0
  by_cases z : s.size = 0
  · have hl : s.data.toList = [] := List.length_eq_zero_iff.1 (by simpa using z)
    have HF : Hid (¬ insOne s.data.toList) := Lib.hid (fun h => by rcases ins_head h with h | h <;> (rw [hl] at h; cases h))
    have e0 : (s.toList == []) = true := by simp [size_nil z]
    have e0' : s.toList = [] := size_nil z
    clear hl
    go_enter Tryd.func83, Tryd.ntmps83
    go_wp2_with fail
    rw [HW0.out]
    have z0 := K0.out.cell 0 rfl
    have z1 := K0.out.cell 1 rfl
    have z2 := K0.out.cell 2 rfl
    have z3 := K0.out.cell 3 rfl
    refine bodyPost_ret (v := .tuple #[.agg #[.int .i64 0, .int .i64 0, .int .i64 0, .int .i64 0], .bool false]) (by simp [results, Tryd.f83, go_sem, z0, z1, z2, z3]) rfl ?_
    exact ⟨⟨0, 0, 0, 0⟩, false, rfl, (fun h => by cases h), fun _ => HF.out, HB0.out⟩
  have hpos : 0 < s.size := by omega
  obtain ⟨x, r, hxr, hxb⟩ := head_bt hpos
  obtain ⟨c0, hc0⟩ : ∃ c, c = bt s 0 := ⟨_, rfl⟩
  have hid0 := idxS (k := 0) hpos hc0
  have hck0 : (s[0]'hpos).toNat = c0 := by rw [hc0, bt_at hpos]
  simp only [Int.natCast_zero] at hid0
  rw [← hc0] at hxb
  have e0 : s.toList ≠ [] := size_pos z
  have e0' : (s.toList == []) = false := by simpa using e0
  have e0'' : s.toList.isEmpty = false := by simpa using e0
  have i1 : (1 : Int) ≤ (s.size : Int) := by omega
  have i1' : 1 ≤ s.size := by omega
  obtain ⟨u, hu⟩ : ∃ u, u = bs r := ⟨_, rfl⟩
  have hx1 : s.extract 1 s.size = u := by rw [bs_tail i1', hxr, hu]; rfl
  have HU := Lib.hid hu
  have HSu : Hid (u.size ≤ 1048576) := Lib.hid (by rw [hu, bs_size]; have h2 := Lib.size_eq s; rw [hxr] at h2; simp at h2; omega)
  have HXR := Lib.hid hxr
  have HXB := Lib.hid hxb
  have HS := Lib.hid hs
  clear hu hxr hxb hc0 hs z
  by_cases h43 : c0 = 43
  · have bq : ((c0 : Int) == 43) = true := by rw [h43]; rfl
    have hx : x = 43 := (u8_eq HXB.out).2 h43
    have HOne : Hid (insOne s.data.toList ↔ prOk 62 r) := Lib.hid (by rw [HXR.out, hx]; exact inc_one r)
    have HVal : Hid (insV s.data.toList = ⟨0, prA 62 r, prB 62 r, 0⟩) := Lib.hid (by rw [HXR.out, hx]; exact inc_val r)
    clear hx h43
    go_enter Tryd.func83, Tryd.ntmps83
    go_wp2_with fail
    rw [HW0.out]
    refine (specPair u 62 62 rfl _ HSu.out).mono ?_
    rintro e w1 ⟨a, b, q, rfl, hy, hn, bb⟩
    rw [HU.out, bs_list] at hy hn
    have HY := Lib.hid hy
    have HN := Lib.hid hn
    have K1 := Lib.hid (K0.out.below bb K0.out.lt)
    have HB1 := Lib.hid (HB0.out.trans (bb.mono HB0.out.size))
    clear bb hy hn
    have r1 := K1.out.set 0 (.int .i64 0)
    have r2 := r1.set 1 (.int .i64 a)
    have r3 := r2.set 2 (.int .i64 b)
    have f1 := K1.out.cell 0 rfl
    have f2 := K1.out.frozen 0
    have f3 := r1.cell 1 rfl
    have f4 := r1.frozen 1
    have f5 := r2.cell 2 rfl
    have f6 := r2.frozen 2
    have f8 := r3.cell 3 rfl
    have f9 := r3.frozen 3
    have F7 := Lib.hid (r3.set 3 (.int .i64 0))
    clear r1 r2 r3
    go_wp2
    have f7 := F7.out
    obtain ⟨Wf, hWf⟩ : ∃ Wf, Wf = ((((w1.setCell ⟨w.heap.size, 0, none⟩ (.int .i64 0)).setCell ⟨w.heap.size, 1, none⟩ (.int .i64 a)).setCell ⟨w.heap.size, 2, none⟩ (.int .i64 b)).setCell ⟨w.heap.size, 3, none⟩ (.int .i64 0)) := ⟨_, rfl⟩
    have hB : Below w.heap.size w Wf := by rw [hWf]; exact below_set (below_set (below_set (below_set HB1.out (Nat.le_refl _) _ _) (Nat.le_refl _) _ _) (Nat.le_refl _) _ _) (Nat.le_refl _) _ _
    rw [← hWf] at f7 ⊢
    have z0 := f7.cell 0 rfl
    have z1 := f7.cell 1 rfl
    have z2 := f7.cell 2 rfl
    have z3 := f7.cell 3 rfl
    clear f1 f2 f3 f4 f5 f6 f8 f9 hWf
    refine bodyPost_ret (v := .tuple #[.agg #[.int .i64 0, .int .i64 a, .int .i64 b, .int .i64 0], .bool q]) (by simp [results, Tryd.f83, go_sem, z0, z1, z2, z3]) rfl ?_
    exact ⟨⟨0, a, b, 0⟩, q, rfl, fun h => ⟨HOne.out.2 (HY.out h).1, by rw [HVal.out, (HY.out h).2.1, (HY.out h).2.2]⟩, fun h k => HN.out h (HOne.out.1 k), hB⟩
  have bq : ((c0 : Int) == 43) = false := by rw [beq_eq_false_iff_ne]; omega
  have hx43 : x ≠ 43 := fun h => h43 ((u8_eq HXB.out).1 h)
  obtain ⟨ts, hts⟩ : ∃ ts, ts = pcs 58 s.data.toList := ⟨_, rfl⟩
  have HTs := Lib.hid hts
  have HPz : Hid (∀ q ∈ ts, q.length ≤ 1048576) := Lib.hid (fun q hq => by
    have := pcs_piece 58 s.data.toList q (by rw [← hts]; exact hq)
    have h2 := Lib.size_eq s
    have h3 := HS.out
    omega)
  have HX43 := Lib.hid hx43
  have HSp := Lib.hid (specSplit s 58 58 rfl W0 HS.out)
  clear hts hx43 h43
  go_enter Tryd.func83, Tryd.ntmps83
  go_wp2_with fail
  rw [HW0.out]
  refine HSp.out.mono ?_
  rintro e w1 ⟨u1, rfl, hr, hb1⟩
  rw [← HTs.out] at hr
  obtain ⟨b, c1, rfl, hcap, hbl, hcell⟩ := hr
  have HC := Lib.hid hcell
  have HB1 := Lib.hid (HB0.out.trans (hb1.mono HB0.out.size))
  have K1 := Lib.hid (K0.out.below hb1 K0.out.lt)
  clear hcell hb1
  by_cases h45 : c0 = 45
  rotate_left
  · have HF : Hid (¬ insOne s.data.toList) := Lib.hid (fun h => by
      rcases ins_head h with h | h
      · rw [HXR.out] at h; simp at h; exact HX43.out h
      · rw [HXR.out] at h; simp at h; exact h45 ((u8_eq HXB.out).1 h))
    have b5 : ((c0 : Int) == 45) = false := by rw [beq_eq_false_iff_ne]; omega
    have b5' : ¬ (c0 : Int) = 45 := by omega
    clear h45
    have r1 := K1.out.set 0 (.int .i64 0)
    have r2 := r1.set 1 (.int .i64 0)
    have r3 := r2.set 2 (.int .i64 0)
    have f1 := K1.out.cell 0 rfl
    have f2 := K1.out.frozen 0
    have f3 := r1.cell 1 rfl
    have f4 := r1.frozen 1
    have f5 := r2.cell 2 rfl
    have f6 := r2.frozen 2
    have f8 := r3.cell 3 rfl
    have f9 := r3.frozen 3
    have F7 := Lib.hid (r3.set 3 (.int .i64 0))
    clear r1 r2 r3
    go_wp2
    have f7 := F7.out
    obtain ⟨Wf, hWf⟩ : ∃ Wf, Wf = ((((w1.setCell ⟨w.heap.size, 0, none⟩ (.int .i64 0)).setCell ⟨w.heap.size, 1, none⟩ (.int .i64 0)).setCell ⟨w.heap.size, 2, none⟩ (.int .i64 0)).setCell ⟨w.heap.size, 3, none⟩ (.int .i64 0)) := ⟨_, rfl⟩
    have hB : Below w.heap.size w Wf := by rw [hWf]; exact below_set (below_set (below_set (below_set HB1.out (Nat.le_refl _) _ _) (Nat.le_refl _) _ _) (Nat.le_refl _) _ _) (Nat.le_refl _) _ _
    rw [← hWf] at f7 ⊢
    have z0 := f7.cell 0 rfl
    have z1 := f7.cell 1 rfl
    have z2 := f7.cell 2 rfl
    have z3 := f7.cell 3 rfl
    clear f1 f2 f3 f4 f5 f6 f8 f9 hWf
    refine bodyPost_ret (v := .tuple #[.agg #[.int .i64 0, .int .i64 0, .int .i64 0, .int .i64 0], .bool false]) (by simp [results, Tryd.f83, go_sem, z0, z1, z2, z3]) rfl ?_
    exact ⟨⟨0, 0, 0, 0⟩, false, rfl, (fun h => by cases h), fun _ => HF.out, hB⟩
  have b5 : ((c0 : Int) == 45) = true := by rw [h45]; rfl
  have b5' : (c0 : Int) = 45 := by omega
  have hx45 : x = 45 := (u8_eq HXB.out).2 h45
  have HX45 := Lib.hid hx45
  have B5 := Lib.hid b5'
  clear h45 hx45 b5'
  by_cases h2 : ts.length = 2
  rotate_left
  · have HF : Hid (¬ insOne s.data.toList) := Lib.hid (fun h => by
      rcases h with ⟨h, _⟩ | ⟨_, h, _⟩
      · rw [HXR.out] at h; simp at h; exact HX43.out h
      · exact h2 (by rw [HTs.out]; exact h))
    have e3 : ((ts.length : Int) == 2) = false := by rw [beq_eq_false_iff_ne]; omega
    have e3' : ¬ (ts.length : Int) = 2 := by omega
    have b5' := B5.out
    clear h2
    have r1 := K1.out.set 0 (.int .i64 0)
    have r2 := r1.set 1 (.int .i64 0)
    have r3 := r2.set 2 (.int .i64 0)
    have f1 := K1.out.cell 0 rfl
    have f2 := K1.out.frozen 0
    have f3 := r1.cell 1 rfl
    have f4 := r1.frozen 1
    have f5 := r2.cell 2 rfl
    have f6 := r2.frozen 2
    have f8 := r3.cell 3 rfl
    have f9 := r3.frozen 3
    have F7 := Lib.hid (r3.set 3 (.int .i64 0))
    clear r1 r2 r3
    go_wp2
    have f7 := F7.out
    obtain ⟨Wf, hWf⟩ : ∃ Wf, Wf = ((((w1.setCell ⟨w.heap.size, 0, none⟩ (.int .i64 0)).setCell ⟨w.heap.size, 1, none⟩ (.int .i64 0)).setCell ⟨w.heap.size, 2, none⟩ (.int .i64 0)).setCell ⟨w.heap.size, 3, none⟩ (.int .i64 0)) := ⟨_, rfl⟩
    have hB : Below w.heap.size w Wf := by rw [hWf]; exact below_set (below_set (below_set (below_set HB1.out (Nat.le_refl _) _ _) (Nat.le_refl _) _ _) (Nat.le_refl _) _ _) (Nat.le_refl _) _ _
    rw [← hWf] at f7 ⊢
    have z0 := f7.cell 0 rfl
    have z1 := f7.cell 1 rfl
    have z2 := f7.cell 2 rfl
    have z3 := f7.cell 3 rfl
    clear f1 f2 f3 f4 f5 f6 f8 f9 hWf
    refine bodyPost_ret (v := .tuple #[.agg #[.int .i64 0, .int .i64 0, .int .i64 0, .int .i64 0], .bool false]) (by simp [results, Tryd.f83, go_sem, z0, z1, z2, z3]) rfl ?_
    exact ⟨⟨0, 0, 0, 0⟩, false, rfl, (fun h => by cases h), fun _ => HF.out, hB⟩
  obtain ⟨t0, t1, rfl⟩ : ∃ a b, ts = [a, b] := by
    match ts, h2 with
    | [a, b], _ => exact ⟨a, b, rfl⟩
  have hcc := HC.out
  obtain ⟨s0, hs0⟩ : ∃ u, u = bs t0 := ⟨_, rfl⟩
  have H0 : Hid (∀ W, Below w1.heap.size w1 W → W.cell? ⟨b, 0, none⟩ = some (.string s0)) := Lib.hid (fun W hW => by rw [hs0]; exact (hW.cell hbl).trans (hcc 0 (by simp)))
  have H1 : Hid (∀ W, Below w1.heap.size w1 W → W.cell? ⟨b, 1, none⟩ = some (.string (bs t1))) := Lib.hid (fun W hW => (hW.cell hbl).trans (hcc 1 (by simp)))
  have HS0 : Hid (t0.length ≤ 1048576) := Lib.hid (HPz.out t0 (by simp))
  have HS1 : Hid ((bs t1).size ≤ 1048576) := Lib.hid (by rw [bs_size]; exact HPz.out t1 (by simp))
  have ht0 : t0 ≠ [] := fun h => by
    obtain ⟨e1, _, _⟩ := pcs_two_eq HTs.out.symm
    rw [h, HXR.out, HX45.out] at e1
    simp at e1
  have j1 : 1 ≤ s0.size := by rw [hs0, bs_size]; exact List.length_pos_iff.2 ht0
  have j1' : (1 : Int) ≤ (s0.size : Int) := by omega
  obtain ⟨u2, hu2⟩ : ∃ u, u = bs t0.tail := ⟨_, rfl⟩
  have hx2 : s0.extract 1 s0.size = u2 := by rw [bs_tail j1, hs0, bs_list, hu2]
  have HU2 := Lib.hid hu2
  have HSu2 : Hid (u2.size ≤ 1048576) := Lib.hid (by rw [hu2, bs_size, List.length_tail]; have := HS0.out; omega)
  have HOne : Hid (insOne s.data.toList ↔ prOk 62 t0.tail ∧ NumOk t1) := Lib.hid (by
    constructor
    · rintro (⟨h, _⟩ | ⟨_, _, h3, h4⟩)
      · rw [HXR.out] at h; simp at h; exact absurd h HX43.out
      · rw [← HTs.out] at h3 h4; exact ⟨h3, h4⟩
    · rintro ⟨h3, h4⟩
      exact .inr ⟨by rw [HXR.out, HX45.out]; rfl, by rw [← HTs.out]; rfl, by rw [← HTs.out]; exact h3, by rw [← HTs.out]; exact h4⟩)
  have HVal : Hid (insV s.data.toList = ⟨1, prA 62 t0.tail, prB 62 t0.tail, valL t1⟩) := Lib.hid (by
    unfold insV
    rw [if_neg (by rw [HXR.out]; simp; exact HX43.out), ← HTs.out]; rfl)
  clear hcc h2 hs0 ht0 hu2
  obtain ⟨n1, hn1⟩ : ∃ n, n = numV (bs t1).data.toList := ⟨_, rfl⟩
  obtain ⟨q1, hq1⟩ : ∃ n, n = numB (bs t1).data.toList := ⟨_, rfl⟩
  have HN1 := Lib.hid hn1
  have HQ1 := Lib.hid hq1
  have HY1 : Hid (q1 = true → NumOk t1 ∧ n1 = valL t1) := Lib.hid (fun hq => by
    rw [hq1, bs_list] at hq
    rcases Classical.em (NumOk t1) with h | h
    · exact ⟨h, by rw [hn1, bs_list, (num_yes h).2]⟩
    · rw [(num_no h).1] at hq; cases hq)
  have HX1 : Hid (q1 = false → ¬ NumOk t1) := Lib.hid (fun hq h => by rw [hq1, bs_list, (num_yes h).1] at hq; cases hq)
  clear hn1 hq1
  have b5' := B5.out
  have hc0 := H0.out _ (Below.refl _ _)
  go_wp2_with fail
  refine (specPair u2 62 62 rfl _ HSu2.out).mono ?_
  rintro e w2 ⟨a, d, q, rfl, hy, hn, bb⟩
  rw [HU2.out, bs_list] at hy hn
  have HY := Lib.hid hy
  have HN := Lib.hid hn
  have HX2 := Lib.hid bb
  have K2 := Lib.hid (K1.out.below bb K1.out.lt)
  have HB2 := Lib.hid (HB1.out.trans (bb.mono HB1.out.size))
  clear bb hy hn hc0
  have hc1 := H1.out _ HX2.out
  go_wp2_with fail
  refine (specNumber (bs t1) _ HS1.out).mono ?_
  rintro e w3 ⟨rfl, bb⟩
  rw [← HN1.out, ← HQ1.out]
  have K3 := Lib.hid (K2.out.below bb K2.out.lt)
  have HB3 := Lib.hid (HB2.out.trans (bb.mono HB2.out.size))
  clear bb hc1
  rcases eqOr q with hb | hb
  · have HF : Hid (¬ insOne s.data.toList) := Lib.hid (fun h => HN.out hb (HOne.out.1 h).1)
    subst hb
    have r1 := K3.out.set 0 (.int .i64 1)
    have r2 := r1.set 1 (.int .i64 a)
    have r3 := r2.set 2 (.int .i64 d)
    have f1 := K3.out.cell 0 rfl
    have f2 := K3.out.frozen 0
    have f3 := r1.cell 1 rfl
    have f4 := r1.frozen 1
    have f5 := r2.cell 2 rfl
    have f6 := r2.frozen 2
    have f8 := r3.cell 3 rfl
    have f9 := r3.frozen 3
    have F7 := Lib.hid (r3.set 3 (.int .i64 n1))
    clear r1 r2 r3
    go_wp2
    have f7 := F7.out
    obtain ⟨Wf, hWf⟩ : ∃ Wf, Wf = ((((w3.setCell ⟨w.heap.size, 0, none⟩ (.int .i64 1)).setCell ⟨w.heap.size, 1, none⟩ (.int .i64 a)).setCell ⟨w.heap.size, 2, none⟩ (.int .i64 d)).setCell ⟨w.heap.size, 3, none⟩ (.int .i64 n1)) := ⟨_, rfl⟩
    have hB : Below w.heap.size w Wf := by rw [hWf]; exact below_set (below_set (below_set (below_set HB3.out (Nat.le_refl _) _ _) (Nat.le_refl _) _ _) (Nat.le_refl _) _ _) (Nat.le_refl _) _ _
    rw [← hWf] at f7 ⊢
    have z0 := f7.cell 0 rfl
    have z1 := f7.cell 1 rfl
    have z2 := f7.cell 2 rfl
    have z3 := f7.cell 3 rfl
    clear f1 f2 f3 f4 f5 f6 f8 f9 hWf
    refine bodyPost_ret (v := .tuple #[.agg #[.int .i64 1, .int .i64 a, .int .i64 d, .int .i64 n1], .bool false]) (by simp [results, Tryd.f83, go_sem, z0, z1, z2, z3]) rfl ?_
    exact ⟨⟨1, a, d, n1⟩, false, rfl, (fun h => by cases h), fun _ => HF.out, hB⟩
  have HY' := Lib.hid (HY.out hb)
  subst hb
  rcases eqOr q1 with hb | hb
  · have HF : Hid (¬ insOne s.data.toList) := Lib.hid (fun h => HX1.out hb (HOne.out.1 h).2)
    subst hb
    have r1 := K3.out.set 0 (.int .i64 1)
    have r2 := r1.set 1 (.int .i64 a)
    have r3 := r2.set 2 (.int .i64 d)
    have f1 := K3.out.cell 0 rfl
    have f2 := K3.out.frozen 0
    have f3 := r1.cell 1 rfl
    have f4 := r1.frozen 1
    have f5 := r2.cell 2 rfl
    have f6 := r2.frozen 2
    have f8 := r3.cell 3 rfl
    have f9 := r3.frozen 3
    have F7 := Lib.hid (r3.set 3 (.int .i64 n1))
    clear r1 r2 r3
    go_wp2
    have f7 := F7.out
    obtain ⟨Wf, hWf⟩ : ∃ Wf, Wf = ((((w3.setCell ⟨w.heap.size, 0, none⟩ (.int .i64 1)).setCell ⟨w.heap.size, 1, none⟩ (.int .i64 a)).setCell ⟨w.heap.size, 2, none⟩ (.int .i64 d)).setCell ⟨w.heap.size, 3, none⟩ (.int .i64 n1)) := ⟨_, rfl⟩
    have hB : Below w.heap.size w Wf := by rw [hWf]; exact below_set (below_set (below_set (below_set HB3.out (Nat.le_refl _) _ _) (Nat.le_refl _) _ _) (Nat.le_refl _) _ _) (Nat.le_refl _) _ _
    rw [← hWf] at f7 ⊢
    have z0 := f7.cell 0 rfl
    have z1 := f7.cell 1 rfl
    have z2 := f7.cell 2 rfl
    have z3 := f7.cell 3 rfl
    clear f1 f2 f3 f4 f5 f6 f8 f9 hWf
    refine bodyPost_ret (v := .tuple #[.agg #[.int .i64 1, .int .i64 a, .int .i64 d, .int .i64 n1], .bool false]) (by simp [results, Tryd.f83, go_sem, z0, z1, z2, z3]) rfl ?_
    exact ⟨⟨1, a, d, n1⟩, false, rfl, (fun h => by cases h), fun _ => HF.out, hB⟩
  have HY1' := Lib.hid (HY1.out hb)
  subst hb
  have r1 := K3.out.set 0 (.int .i64 1)
  have r2 := r1.set 1 (.int .i64 a)
  have r3 := r2.set 2 (.int .i64 d)
  have f1 := K3.out.cell 0 rfl
  have f2 := K3.out.frozen 0
  have f3 := r1.cell 1 rfl
  have f4 := r1.frozen 1
  have f5 := r2.cell 2 rfl
  have f6 := r2.frozen 2
  have f8 := r3.cell 3 rfl
  have f9 := r3.frozen 3
  have F7 := Lib.hid (r3.set 3 (.int .i64 n1))
  clear r1 r2 r3
  go_wp2
  have f7 := F7.out
  obtain ⟨Wf, hWf⟩ : ∃ Wf, Wf = ((((w3.setCell ⟨w.heap.size, 0, none⟩ (.int .i64 1)).setCell ⟨w.heap.size, 1, none⟩ (.int .i64 a)).setCell ⟨w.heap.size, 2, none⟩ (.int .i64 d)).setCell ⟨w.heap.size, 3, none⟩ (.int .i64 n1)) := ⟨_, rfl⟩
  have hB : Below w.heap.size w Wf := by rw [hWf]; exact below_set (below_set (below_set (below_set HB3.out (Nat.le_refl _) _ _) (Nat.le_refl _) _ _) (Nat.le_refl _) _ _) (Nat.le_refl _) _ _
  rw [← hWf] at f7 ⊢
  have z0 := f7.cell 0 rfl
  have z1 := f7.cell 1 rfl
  have z2 := f7.cell 2 rfl
  have z3 := f7.cell 3 rfl
  clear f1 f2 f3 f4 f5 f6 f8 f9 hWf
  refine bodyPost_ret (v := .tuple #[.agg #[.int .i64 1, .int .i64 a, .int .i64 d, .int .i64 n1], .bool true]) (by simp [results, Tryd.f83, go_sem, z0, z1, z2, z3]) rfl ?_
  exact ⟨⟨1, a, d, n1⟩, true, rfl, fun _ => ⟨HOne.out.2 ⟨HY'.out.1, HY1'.out.1⟩, by rw [HVal.out, HY'.out.2.1, HY'.out.2.2, HY1'.out.2]⟩, (fun h => by cases h), hB⟩
end Go.Proofs.YtbigoljfanendaaDoor.Ints
