/- StepCounters: the model's. -/
import Derived.Test.YtadfknafcamamaaDoorStC
namespace Go.Proofs.YtadfknafcamamaaDoor.Ints
open Go.RowKit
set_option linter.unusedVariables false
set_option linter.unusedSimpArgs false
set_option maxHeartbeats 4000000 in
set_option maxRecDepth 100000 in
theorem specStepCounters (at' a b : Int) (v : Value) (rs : List Ins) (w : World) (hv : RdIns w v rs) :
    Calls Tryd.prog 10 #[v, .agg #[.int .i64 at', .int .i64 a, .int .i64 b]] w fun e w' => e = .returned (.tuple #[.agg #[.int .i64 (scAt rs at' a b), .int .i64 (scA rs at' a b), .int .i64 (scB rs at' a b)], .int .i64 (scC rs at' a b)]) ∧ Below w.heap.size w w' := by
  have HV := Lib.hid hv
  obtain ⟨hl, _, a0, c0, rfl, _, _⟩ := hv
  have HB0 : Hid (∀ o1 o2 : Obj, Below w.heap.size w ((w.alloc o1).alloc o2)) := Lib.hid (fun o1 o2 => ((Below.refl _ _).alloc (Nat.le_refl _) _).alloc (by simp) _)
  obtain ⟨bt, hbt⟩ : ∃ x, x = twoB rs := ⟨_, rfl⟩
  have HT := Lib.hid hbt
  obtain ⟨bc, hbc⟩ : ∃ x, x = cntB rs.length at' a b := ⟨_, rfl⟩
  have HC := Lib.hid hbc
  have HL := Lib.hid hl
  obtain ⟨x1, hx1⟩ : ∃ x, x = scAt rs at' a b := ⟨_, rfl⟩
  obtain ⟨x2, hx2⟩ : ∃ x, x = scA rs at' a b := ⟨_, rfl⟩
  obtain ⟨x3, hx3⟩ : ∃ x, x = scB rs at' a b := ⟨_, rfl⟩
  obtain ⟨x4, hx4⟩ : ∃ x, x = scC rs at' a b := ⟨_, rfl⟩
  rw [← hx1, ← hx2, ← hx3, ← hx4]
  have HX : Hid (scAt rs at' a b = x1 ∧ scA rs at' a b = x2 ∧ scB rs at' a b = x3 ∧ scC rs at' a b = x4) := Lib.hid ⟨hx1.symm, hx2.symm, hx3.symm, hx4.symm⟩
  clear hbt hbc hl hx1 hx2 hx3 hx4
  go_enter Tryd.func10, Tryd.ntmps10
  go_wp2_with fail
  obtain ⟨W1, hW1⟩ : ∃ W, W = (w.alloc (Obj.cells #[.int .i64 at', .int .i64 a, .int .i64 b] 26)).alloc (Obj.cells #[.int .i64 0, .int .i64 0, .int .i64 0] 26) := ⟨_, rfl⟩
  have hB1 : Below w.heap.size w W1 := by rw [hW1]; exact HB0.out _ _
  have kc : Cels W1 w.heap.size 26 [.int .i64 at', .int .i64 a, .int .i64 b] := by rw [hW1]; exact (Cels.new _ _ _).alloc _
  have kr : Cels W1 (w.heap.size + 1) 26 [.int .i64 0, .int .i64 0, .int .i64 0] := by
    rw [hW1]
    have := Cels.new (w.alloc (Obj.cells #[.int .i64 at', .int .i64 a, .int .i64 b] 26)) 26 [.int .i64 0, .int .i64 0, .int .i64 0]
    rwa [World.size_alloc] at this
  rw [← hW1]
  clear hW1
  refine (specTwo _ rs W1 (HV.out.below hB1 (Nat.le_refl _))).mono ?_
  rintro e w2 ⟨rfl, hb2⟩
  rw [← HT.out]
  have KC := Lib.hid (kc.below hb2 kc.lt)
  have KR := Lib.hid (kr.below hb2 kr.lt)
  have HB2 := Lib.hid (hB1.trans (hb2.mono hB1.size))
  have fin : ∀ (y1 y2 y3 : Int) (w3 : World) (K3 : Hid (Cels w3 (w.heap.size + 1) 26 [.int .i64 0, .int .i64 0, .int .i64 0])) (B3 : Hid (Below w.heap.size w w3)),
      Hid (Cels (((w3.setCell ⟨w.heap.size + 1, 0, none⟩ (.int .i64 y1)).setCell ⟨w.heap.size + 1, 1, none⟩ (.int .i64 y2)).setCell ⟨w.heap.size + 1, 2, none⟩ (.int .i64 y3)) (w.heap.size + 1) 26 [.int .i64 y1, .int .i64 y2, .int .i64 y3] ∧
        Below w.heap.size w (((w3.setCell ⟨w.heap.size + 1, 0, none⟩ (.int .i64 y1)).setCell ⟨w.heap.size + 1, 1, none⟩ (.int .i64 y2)).setCell ⟨w.heap.size + 1, 2, none⟩ (.int .i64 y3))) := fun y1 y2 y3 w3 K3 B3 => Lib.hid
    ⟨(put3 K3.out (.int .i64 y1) (.int .i64 y2) (.int .i64 y3)).2.2.2.2.2.2, below_set (below_set (below_set B3.out (by omega) _ _) (by omega) _ _) (by omega) _ _⟩
  have HFIN := Lib.hid fin
  clear kc kr hb2 hB1 fin
  rcases eqOr bt with hb | hb
  · subst hb
    have hbad : vcB rs at' a b = false := vcB_bad HT.out.symm
    have e := Lib.hid (sc_bad hbad)
    have HF := HFIN.out 0 0 0 w2 KR HB2
    obtain ⟨f1, f2, f3, f4, f5, f6, _⟩ := put3 KR.out (.int .i64 0) (.int .i64 0) (.int .i64 0)
    clear hbad
    go_wp2
    obtain ⟨W, hW⟩ : ∃ W, W = ((w2.setCell ⟨w.heap.size + 1, 0, none⟩ (.int .i64 0)).setCell ⟨w.heap.size + 1, 1, none⟩ (.int .i64 0)).setCell ⟨w.heap.size + 1, 2, none⟩ (.int .i64 0) := ⟨_, rfl⟩
    rw [← hW] at HF ⊢
    have z0 := HF.out.1.cell 0 rfl
    have z1 := HF.out.1.cell 1 rfl
    have z2 := HF.out.1.cell 2 rfl
    clear f1 f2 f3 f4 f5 f6 hW
    refine bodyPost_ret (v := .tuple #[.agg #[.int .i64 0, .int .i64 0, .int .i64 0], .int .i64 1]) (by simp [results, Tryd.f10, go_sem, z0, z1, z2]) rfl ⟨?_, HF.out.2⟩
    rw [← HX.out.1, ← HX.out.2.1, ← HX.out.2.2.1, ← HX.out.2.2.2, e.out.1, e.out.2.1, e.out.2.2.1, e.out.2.2.2]
  subst hb
  go_wp2_with fail
  refine (specCGood a0 rs.length c0 w.heap.size at' a b _ KC.out bc HC.out).mono ?_
  rintro e w3 ⟨rfl, rfl⟩
  rcases eqOr bc with hb | hb
  · subst hb
    have hbad : vcB rs at' a b = false := by rw [vcB_good HT.out.symm]; exact HC.out.symm
    have e := Lib.hid (sc_bad hbad)
    have HF := HFIN.out 0 0 0 w2 KR HB2
    obtain ⟨f1, f2, f3, f4, f5, f6, _⟩ := put3 KR.out (.int .i64 0) (.int .i64 0) (.int .i64 0)
    clear hbad
    go_wp2
    obtain ⟨W, hW⟩ : ∃ W, W = ((w2.setCell ⟨w.heap.size + 1, 0, none⟩ (.int .i64 0)).setCell ⟨w.heap.size + 1, 1, none⟩ (.int .i64 0)).setCell ⟨w.heap.size + 1, 2, none⟩ (.int .i64 0) := ⟨_, rfl⟩
    rw [← hW] at HF ⊢
    have z0 := HF.out.1.cell 0 rfl
    have z1 := HF.out.1.cell 1 rfl
    have z2 := HF.out.1.cell 2 rfl
    clear f1 f2 f3 f4 f5 f6 hW
    refine bodyPost_ret (v := .tuple #[.agg #[.int .i64 0, .int .i64 0, .int .i64 0], .int .i64 1]) (by simp [results, Tryd.f10, go_sem, z0, z1, z2]) rfl ⟨?_, HF.out.2⟩
    rw [← HX.out.1, ← HX.out.2.1, ← HX.out.2.2.1, ← HX.out.2.2.2, e.out.1, e.out.2.1, e.out.2.2.1, e.out.2.2.2]
  subst hb
  have HG : Hid (vcB rs at' a b = true) := Lib.hid (by rw [vcB_good HT.out.symm]; exact HC.out.symm)
  have y0 := KC.out.cell 0 rfl
  have y1 := KC.out.cell 1 rfl
  have y2 := KC.out.cell 2 rfl
  by_cases hk : at' = (rs.length : Int)
  · have e := Lib.hid (sc_halt HG.out hk)
    have k1 : (at' == (rs.length : Int)) = true := by simp [hk]
    have HF := HFIN.out 0 0 0 w2 KR HB2
    obtain ⟨f1, f2, f3, f4, f5, f6, _⟩ := put3 KR.out (.int .i64 0) (.int .i64 0) (.int .i64 0)
    clear hk
    go_wp2
    obtain ⟨W, hW⟩ : ∃ W, W = ((w2.setCell ⟨w.heap.size + 1, 0, none⟩ (.int .i64 0)).setCell ⟨w.heap.size + 1, 1, none⟩ (.int .i64 0)).setCell ⟨w.heap.size + 1, 2, none⟩ (.int .i64 0) := ⟨_, rfl⟩
    rw [← hW] at HF ⊢
    have z0 := HF.out.1.cell 0 rfl
    have z1 := HF.out.1.cell 1 rfl
    have z2 := HF.out.1.cell 2 rfl
    clear f1 f2 f3 f4 f5 f6 hW y0 y1 y2
    refine bodyPost_ret (v := .tuple #[.agg #[.int .i64 0, .int .i64 0, .int .i64 0], .int .i64 6]) (by simp [results, Tryd.f10, go_sem, z0, z1, z2]) rfl ⟨?_, HF.out.2⟩
    rw [← HX.out.1, ← HX.out.2.1, ← HX.out.2.2.1, ← HX.out.2.2.2, e.out.1, e.out.2.1, e.out.2.2.1, e.out.2.2.2]
  have k1 : (at' == (rs.length : Int)) = false := by simp [hk]
  have HK := Lib.hid hk
  have HV2 := Lib.hid (vcB_ok HG.out)
  obtain ⟨k, rfl⟩ : ∃ k : Nat, at' = (k : Int) := ⟨at'.toNat, by have := HV2.out.2.2.1.1; omega⟩
  have HKL : Hid (k < rs.length) := Lib.hid (by have := HV2.out.2.2.1.2; omega)
  obtain ⟨r, hr⟩ : ∃ r, r = rs.getD k zIns := ⟨_, rfl⟩
  have HR := Lib.hid hr
  clear hk hr
  go_wp2_with fail
  refine (specCStep _ rs k a b _ (HV.out.below HB2.out (Nat.le_refl _)) HKL.out HV2.out.1 HV2.out.2.2.2.1 HV2.out.2.2.2.2 r HR.out).mono ?_
  rintro e w3 ⟨rfl, hb3⟩
  have HTT : Hid (((k : Int)).toNat = k) := Lib.hid rfl
  obtain ⟨q, hq⟩ : ∃ q, q = decide (cnV r a b ≤ 1000000000000) := ⟨_, rfl⟩
  have HQ := Lib.hid hq
  rw [← hq]
  obtain ⟨u1, hu1⟩ : ∃ u, u = cnAt r a b := ⟨_, rfl⟩
  obtain ⟨u2, hu2⟩ : ∃ u, u = cnA r a b := ⟨_, rfl⟩
  obtain ⟨u3, hu3⟩ : ∃ u, u = cnB r a b := ⟨_, rfl⟩
  have HU : Hid (cnAt r a b = u1 ∧ cnA r a b = u2 ∧ cnB r a b = u3) := Lib.hid ⟨hu1.symm, hu2.symm, hu3.symm⟩
  rw [← hu1, ← hu2, ← hu3]
  have KR3 := Lib.hid (KR.out.below hb3 KR.out.lt)
  have HB3 := Lib.hid (HB2.out.trans (hb3.mono HB2.out.size))
  have HLT3 : Hid (w.heap.size + 1 < w3.heap.size) := Lib.hid KR3.out.lt
  clear hq hu1 hu2 hu3 hb3 y0 y1 y2 k1
  have hA : Below w3.heap.size w3 (w3.alloc (Obj.cells #[.int .i64 u1, .int .i64 u2, .int .i64 u3] 26)) := (Below.refl _ _).alloc (Nat.le_refl _) _
  obtain ⟨W4, hW4⟩ : ∃ W, W = w3.alloc (Obj.cells #[.int .i64 u1, .int .i64 u2, .int .i64 u3] 26) := ⟨_, rfl⟩
  have KR4 := Lib.hid (KR3.out.below hA KR3.out.lt)
  have HB4 := Lib.hid (HB3.out.trans (hA.mono HB3.out.size))
  have KN4 : Hid (Cels W4 w3.heap.size 26 [.int .i64 u1, .int .i64 u2, .int .i64 u3]) := Lib.hid (by rw [hW4]; exact Cels.new _ _ _)
  rw [← hW4] at KR4 HB4
  have HW4 := Lib.hid hW4.symm
  clear hA hW4
  rcases eqOr q with hb | hb
  · subst hb
    have e := Lib.hid (sc_full HG.out HK.out (by rw [HTT.out, ← HR.out]; have := HQ.out; simpa using this))
    have HF := HFIN.out 0 0 0 W4 KR4 HB4
    obtain ⟨f1, f2, f3, f4, f5, f6, _⟩ := put3 KR4.out (.int .i64 0) (.int .i64 0) (.int .i64 0)
    rw [← HW4.out] at f1 f2 f3 f4 f5 f6
    go_wp2
    rw [HW4.out]
    obtain ⟨W, hW⟩ : ∃ W, W = ((W4.setCell ⟨w.heap.size + 1, 0, none⟩ (.int .i64 0)).setCell ⟨w.heap.size + 1, 1, none⟩ (.int .i64 0)).setCell ⟨w.heap.size + 1, 2, none⟩ (.int .i64 0) := ⟨_, rfl⟩
    rw [← hW] at HF ⊢
    have z0 := HF.out.1.cell 0 rfl
    have z1 := HF.out.1.cell 1 rfl
    have z2 := HF.out.1.cell 2 rfl
    clear f1 f2 f3 f4 f5 f6 hW
    refine bodyPost_ret (v := .tuple #[.agg #[.int .i64 0, .int .i64 0, .int .i64 0], .int .i64 5]) (by simp [results, Tryd.f10, go_sem, z0, z1, z2]) rfl ⟨?_, HF.out.2⟩
    rw [← HX.out.1, ← HX.out.2.1, ← HX.out.2.2.1, ← HX.out.2.2.2, e.out.1, e.out.2.1, e.out.2.2.1, e.out.2.2.2]
  · subst hb
    have e := Lib.hid (sc_next HG.out HK.out (by rw [HTT.out, ← HR.out]; have := HQ.out; simpa using this))
    have HF := HFIN.out u1 u2 u3 W4 KR4 HB4
    obtain ⟨f1, f2, f3, f4, f5, f6, _⟩ := put3 KR4.out (.int .i64 u1) (.int .i64 u2) (.int .i64 u3)
    rw [← HW4.out] at f1 f2 f3 f4 f5 f6
    go_wp2
    rw [HW4.out]
    obtain ⟨W, hW⟩ : ∃ W, W = ((W4.setCell ⟨w.heap.size + 1, 0, none⟩ (.int .i64 u1)).setCell ⟨w.heap.size + 1, 1, none⟩ (.int .i64 u2)).setCell ⟨w.heap.size + 1, 2, none⟩ (.int .i64 u3) := ⟨_, rfl⟩
    rw [← hW] at HF ⊢
    have z0 := HF.out.1.cell 0 rfl
    have z1 := HF.out.1.cell 1 rfl
    have z2 := HF.out.1.cell 2 rfl
    clear f1 f2 f3 f4 f5 f6 hW
    refine bodyPost_ret (v := .tuple #[.agg #[.int .i64 u1, .int .i64 u2, .int .i64 u3], .int .i64 0]) (by simp [results, Tryd.f10, go_sem, z0, z1, z2]) rfl ⟨?_, HF.out.2⟩
    rw [← HX.out.1, ← HX.out.2.1, ← HX.out.2.2.1, ← HX.out.2.2.2, e.out.1, e.out.2.1, e.out.2.2.1, e.out.2.2.2, HTT.out, ← HR.out, HU.out.1, HU.out.2.1, HU.out.2.2]
end Go.Proofs.YtadfknafcamamaaDoor.Ints
