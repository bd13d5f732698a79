/- RunCounters: the model's, whole. -/
import Derived.Test.YtgbhbbapkpgmiaaDoorRuS
namespace Go.Proofs.YtgbhbbapkpgmiaaDoor.Ints
open Go.RowKit
set_option linter.unusedVariables false
set_option linter.unusedSimpArgs false
set_option maxHeartbeats 2000000 in
theorem specBudget (n : Int) (b : Bool) (w : World) (h : b = true ↔ (1 ≤ n ∧ n ≤ 20000)) : Calls Tryd.prog 66 #[.int .i64 n] w fun e w' => e = .returned (.bool b) ∧ w = w' := by
  cases b with
  | true =>
    have H := Lib.hid (h.1 rfl)
    clear h
    go_enter Tryd.func66, Tryd.ntmps66
    go_wp2_with fail
    refine (specInY n 1 20000 _ H.out).mono ?_
    rintro e w1 ⟨rfl, rfl⟩
    go_wp2
    go_ret
    exact ⟨rfl, rfl⟩
  | false =>
    have H : Hid (¬ (1 ≤ n ∧ n ≤ 20000)) := Lib.hid (fun q => by simpa using h.2 q)
    clear h
    go_enter Tryd.func66, Tryd.ntmps66
    go_wp2_with fail
    refine (specInN n 1 20000 _ H.out).mono ?_
    rintro e w1 ⟨rfl, rfl⟩
    go_wp2
    go_ret
    exact ⟨rfl, rfl⟩
theorem rcF_code (rs : List Ins) : ∀ (f : Nat) (at' a b n : Int), (rcF rs f at' a b n).code = 0 ∨ rcF rs f at' a b n = ⟨5, 0, 0, 0, 0, false⟩
  | 0, at', a, b, n => .inl rfl
  | f + 1, at', a, b, n => by
    rw [rcF]
    split
    · exact .inl rfl
    · split
      · exact rcF_code rs f _ _ _ _
      · exact .inr rfl
set_option maxHeartbeats 4000000 in
set_option maxRecDepth 100000 in
theorem specRunCounters (at' a b bu : Int) (v : Value) (rs : List Ins) (w : World) (hv : RdIns w v rs) :
    Calls Tryd.prog 13 #[v, .agg #[.int .i64 at', .int .i64 a, .int .i64 b], .int .i64 bu] w fun e w' => e = .returned (.tuple #[.agg #[.int .i64 (rcR rs at' a b bu).at', .int .i64 (rcR rs at' a b bu).a, .int .i64 (rcR rs at' a b bu).b], .int .i64 (rcR rs at' a b bu).n, .bool (rcR rs at' a b bu).h, .int .i64 (rcR rs at' a b bu).code]) ∧ Below w.heap.size w w' := by
  have HV := Lib.hid hv
  obtain ⟨hl, _, a0, c0, rfl, _, _⟩ := hv
  have HB0 : Hid (∀ o1 o2 : Obj, Below w.heap.size w ((w.alloc o1).alloc o2)) := Lib.hid (fun o1 o2 => ((Below.refl _ _).alloc (Nat.le_refl _) _).alloc (by simp) _)
  obtain ⟨bt, hbt⟩ : ∃ x, x = twoB rs := ⟨_, rfl⟩
  have HT := Lib.hid hbt
  obtain ⟨bc, hbc⟩ : ∃ x, x = cntB rs.length at' a b := ⟨_, rfl⟩
  have HC := Lib.hid hbc
  have HL := Lib.hid hl
  obtain ⟨R, hR⟩ : ∃ R, R = rcR rs at' a b bu := ⟨_, rfl⟩
  rw [← hR]
  have HR := Lib.hid hR
  clear hbt hbc hl hR
  go_enter Tryd.func13, Tryd.ntmps13
  go_wp2_with fail
  obtain ⟨W1, hW1⟩ : ∃ W, W = (w.alloc (Obj.cells #[.int .i64 at', .int .i64 a, .int .i64 b] 26)).alloc (Obj.cells #[.int .i64 0, .int .i64 0, .int .i64 0] 26) := ⟨_, rfl⟩
  have hB1 : Below w.heap.size w W1 := by rw [hW1]; exact HB0.out _ _
  have kc : Cels W1 w.heap.size 26 [.int .i64 at', .int .i64 a, .int .i64 b] := by rw [hW1]; exact (Cels.new _ _ _).alloc _
  have kr : Cels W1 (w.heap.size + 1) 26 [.int .i64 0, .int .i64 0, .int .i64 0] := by
    rw [hW1]
    have := Cels.new (w.alloc (Obj.cells #[.int .i64 at', .int .i64 a, .int .i64 b] 26)) 26 [.int .i64 0, .int .i64 0, .int .i64 0]
    rwa [World.size_alloc] at this
  rw [← hW1]
  clear hW1
  refine (specTwo _ rs W1 (HV.out.below hB1 (Nat.le_refl _))).mono ?_
  rintro e w2 ⟨rfl, hb2⟩
  rw [← HT.out]
  have KC := Lib.hid (kc.below hb2 kc.lt)
  have KR := Lib.hid (kr.below hb2 kr.lt)
  have HB2 := Lib.hid (hB1.trans (hb2.mono hB1.size))
  have fin : ∀ (y1 y2 y3 : Int) (w3 : World) (K3 : Hid (Cels w3 (w.heap.size + 1) 26 [.int .i64 0, .int .i64 0, .int .i64 0])) (B3 : Hid (Below w.heap.size w w3)),
      Hid (Cels (((w3.setCell ⟨w.heap.size + 1, 0, none⟩ (.int .i64 y1)).setCell ⟨w.heap.size + 1, 1, none⟩ (.int .i64 y2)).setCell ⟨w.heap.size + 1, 2, none⟩ (.int .i64 y3)) (w.heap.size + 1) 26 [.int .i64 y1, .int .i64 y2, .int .i64 y3] ∧
        Below w.heap.size w (((w3.setCell ⟨w.heap.size + 1, 0, none⟩ (.int .i64 y1)).setCell ⟨w.heap.size + 1, 1, none⟩ (.int .i64 y2)).setCell ⟨w.heap.size + 1, 2, none⟩ (.int .i64 y3))) := fun y1 y2 y3 w3 K3 B3 => Lib.hid
    ⟨(put3 K3.out (.int .i64 y1) (.int .i64 y2) (.int .i64 y3)).2.2.2.2.2.2, below_set (below_set (below_set B3.out (by omega) _ _) (by omega) _ _) (by omega) _ _⟩
  have HFIN := Lib.hid fin
  clear kc kr hb2 hB1 fin
  rcases eqOr bt with hb | hb
  · subst hb
    have hbad : vcB rs at' a b = false := vcB_bad HT.out.symm
    have e := Lib.hid (rc_bad (bu := bu) hbad)
    have HF := HFIN.out 0 0 0 w2 KR HB2
    obtain ⟨f1, f2, f3, f4, f5, f6, _⟩ := put3 KR.out (.int .i64 0) (.int .i64 0) (.int .i64 0)
    clear hbad
    go_wp2
    obtain ⟨W, hW⟩ : ∃ W, W = ((w2.setCell ⟨w.heap.size + 1, 0, none⟩ (.int .i64 0)).setCell ⟨w.heap.size + 1, 1, none⟩ (.int .i64 0)).setCell ⟨w.heap.size + 1, 2, none⟩ (.int .i64 0) := ⟨_, rfl⟩
    rw [← hW] at HF ⊢
    have z0 := HF.out.1.cell 0 rfl
    have z1 := HF.out.1.cell 1 rfl
    have z2 := HF.out.1.cell 2 rfl
    clear f1 f2 f3 f4 f5 f6 hW
    refine bodyPost_ret (v := .tuple #[.agg #[.int .i64 0, .int .i64 0, .int .i64 0], .int .i64 0, .bool false, .int .i64 1]) (by simp [results, Tryd.f13, go_sem, z0, z1, z2]) rfl ⟨?_, HF.out.2⟩
    rw [HR.out, e.out]
  subst hb
  go_wp2_with fail
  refine (specCGood a0 rs.length c0 w.heap.size at' a b _ KC.out bc HC.out).mono ?_
  rintro e w3 ⟨rfl, rfl⟩
  rcases eqOr bc with hb | hb
  · subst hb
    have hbad : vcB rs at' a b = false := by rw [vcB_good HT.out.symm]; exact HC.out.symm
    have e := Lib.hid (rc_bad (bu := bu) hbad)
    have HF := HFIN.out 0 0 0 w2 KR HB2
    obtain ⟨f1, f2, f3, f4, f5, f6, _⟩ := put3 KR.out (.int .i64 0) (.int .i64 0) (.int .i64 0)
    clear hbad
    go_wp2
    obtain ⟨W, hW⟩ : ∃ W, W = ((w2.setCell ⟨w.heap.size + 1, 0, none⟩ (.int .i64 0)).setCell ⟨w.heap.size + 1, 1, none⟩ (.int .i64 0)).setCell ⟨w.heap.size + 1, 2, none⟩ (.int .i64 0) := ⟨_, rfl⟩
    rw [← hW] at HF ⊢
    have z0 := HF.out.1.cell 0 rfl
    have z1 := HF.out.1.cell 1 rfl
    have z2 := HF.out.1.cell 2 rfl
    clear f1 f2 f3 f4 f5 f6 hW
    refine bodyPost_ret (v := .tuple #[.agg #[.int .i64 0, .int .i64 0, .int .i64 0], .int .i64 0, .bool false, .int .i64 1]) (by simp [results, Tryd.f13, go_sem, z0, z1, z2]) rfl ⟨?_, HF.out.2⟩
    rw [HR.out, e.out]
  subst hb
  have HG : Hid (vcB rs at' a b = true) := Lib.hid (by rw [vcB_good HT.out.symm]; exact HC.out.symm)
  obtain ⟨bb, hbb⟩ : ∃ x, x = decide (1 ≤ bu ∧ bu ≤ 20000) := ⟨_, rfl⟩
  have HBI : Hid (bb = true ↔ (1 ≤ bu ∧ bu ≤ 20000)) := Lib.hid (by rw [hbb]; simp)
  clear hbb
  go_wp2_with fail
  refine (specBudget bu bb _ HBI.out).mono ?_
  rintro e w3 ⟨rfl, rfl⟩
  rcases eqOr bb with hb | hb
  · subst hb
    have hbad : vcB rs at' a b = true := HG.out
    have e := Lib.hid (rc_range HG.out (fun q => by simpa using HBI.out.2 q))
    have HF := HFIN.out 0 0 0 w2 KR HB2
    obtain ⟨f1, f2, f3, f4, f5, f6, _⟩ := put3 KR.out (.int .i64 0) (.int .i64 0) (.int .i64 0)
    clear hbad
    go_wp2
    obtain ⟨W, hW⟩ : ∃ W, W = ((w2.setCell ⟨w.heap.size + 1, 0, none⟩ (.int .i64 0)).setCell ⟨w.heap.size + 1, 1, none⟩ (.int .i64 0)).setCell ⟨w.heap.size + 1, 2, none⟩ (.int .i64 0) := ⟨_, rfl⟩
    rw [← hW] at HF ⊢
    have z0 := HF.out.1.cell 0 rfl
    have z1 := HF.out.1.cell 1 rfl
    have z2 := HF.out.1.cell 2 rfl
    clear f1 f2 f3 f4 f5 f6 hW
    refine bodyPost_ret (v := .tuple #[.agg #[.int .i64 0, .int .i64 0, .int .i64 0], .int .i64 0, .bool false, .int .i64 2]) (by simp [results, Tryd.f13, go_sem, z0, z1, z2]) rfl ⟨?_, HF.out.2⟩
    rw [HR.out, e.out]
  subst hb
  have hbu := HBI.out.1 rfl
  have HV2 := Lib.hid (vcB_ok HG.out)
  obtain ⟨k, rfl⟩ : ∃ k : Nat, at' = (k : Int) := ⟨at'.toNat, by have := HV2.out.2.2.1.1; omega⟩
  obtain ⟨B, rfl⟩ : ∃ B : Nat, bu = (B : Int) := ⟨bu.toNat, by omega⟩
  have e := Lib.hid (HR.out.trans (rc_good HG.out hbu))
  have HBU : Hid (B ≤ 20000) := Lib.hid (by omega)
  have y0 := KC.out.cell 0 rfl
  have y1 := KC.out.cell 1 rfl
  have y2 := KC.out.cell 2 rfl
  clear hbu
  go_wp2_with fail
  refine (specCRun k B a b _ rs _ (HV.out.below HB2.out (Nat.le_refl _)) HV2.out.1 HV2.out.2.1 HV2.out.2.2 HBU.out R (by have := e.out; simpa using this)).mono ?_
  rintro e3 w3 ⟨rfl, hb3⟩
  have HCD : Hid (R.code = 0 ∨ R = ⟨5, 0, 0, 0, 0, false⟩) := Lib.hid (by rw [e.out]; exact rcF_code _ _ _ _ _ _)
  obtain ⟨q, hq⟩ : ∃ q, q = decide (R.code = 0) := ⟨_, rfl⟩
  rw [← hq]
  have HQ := Lib.hid hq
  have KR3 := Lib.hid (KR.out.below hb3 KR.out.lt)
  have HB3 := Lib.hid (HB2.out.trans (hb3.mono HB2.out.size))
  clear hq hb3 y0 y1 y2
  obtain ⟨u0, u1, u2, u3, u4, u5⟩ := R
  dsimp only
  have hA : Below w3.heap.size w3 (w3.alloc (Obj.cells #[.int .i64 u1, .int .i64 u2, .int .i64 u3] 26)) := (Below.refl _ _).alloc (Nat.le_refl _) _
  obtain ⟨W4, hW4⟩ : ∃ W, W = w3.alloc (Obj.cells #[.int .i64 u1, .int .i64 u2, .int .i64 u3] 26) := ⟨_, rfl⟩
  have KR4 := Lib.hid (KR3.out.below hA KR3.out.lt)
  have HB4 := Lib.hid (HB3.out.trans (hA.mono HB3.out.size))
  have KN4 : Hid (Cels W4 w3.heap.size 26 [.int .i64 u1, .int .i64 u2, .int .i64 u3]) := Lib.hid (by rw [hW4]; exact Cels.new _ _ _)
  rw [← hW4] at KR4 HB4
  have HW4 := Lib.hid hW4.symm
  clear hA hW4
  rcases eqOr q with hb | hb
  · subst hb
    have HE5 : Hid ((⟨u0, u1, u2, u3, u4, u5⟩ : Rce) = ⟨5, 0, 0, 0, 0, false⟩) := Lib.hid (by
      rcases HCD.out with h | h
      · have := HQ.out; simp at this; exact absurd h this
      · exact h)
    have HF := HFIN.out 0 0 0 W4 KR4 HB4
    obtain ⟨f1, f2, f3, f4, f5, f6, _⟩ := put3 KR4.out (.int .i64 0) (.int .i64 0) (.int .i64 0)
    rw [← HW4.out] at f1 f2 f3 f4 f5 f6
    go_wp2
    rw [HW4.out]
    obtain ⟨W, hW⟩ : ∃ W, W = ((W4.setCell ⟨w.heap.size + 1, 0, none⟩ (.int .i64 0)).setCell ⟨w.heap.size + 1, 1, none⟩ (.int .i64 0)).setCell ⟨w.heap.size + 1, 2, none⟩ (.int .i64 0) := ⟨_, rfl⟩
    rw [← hW] at HF ⊢
    have z0 := HF.out.1.cell 0 rfl
    have z1 := HF.out.1.cell 1 rfl
    have z2 := HF.out.1.cell 2 rfl
    clear f1 f2 f3 f4 f5 f6 hW
    refine bodyPost_ret (v := .tuple #[.agg #[.int .i64 0, .int .i64 0, .int .i64 0], .int .i64 0, .bool false, .int .i64 5]) (by simp [results, Tryd.f13, go_sem, z0, z1, z2]) rfl ⟨?_, HF.out.2⟩
    have h5 := HE5.out
    injection h5 with h0 h1 h2 h3 h4 h5
    subst h0 h1 h2 h3 h4 h5
    rfl
  · subst hb
    have HC0 : Hid (u0 = 0) := Lib.hid (by have := HQ.out; simpa using this)
    have HF := HFIN.out u1 u2 u3 W4 KR4 HB4
    obtain ⟨f1, f2, f3, f4, f5, f6, _⟩ := put3 KR4.out (.int .i64 u1) (.int .i64 u2) (.int .i64 u3)
    rw [← HW4.out] at f1 f2 f3 f4 f5 f6
    have n0 := KN4.out.cell 0 rfl
    have n1 := KN4.out.cell 1 rfl
    have n2 := KN4.out.cell 2 rfl
    rw [← HW4.out] at n0 n1 n2
    go_wp2
    rw [HW4.out]
    obtain ⟨W, hW⟩ : ∃ W, W = ((W4.setCell ⟨w.heap.size + 1, 0, none⟩ (.int .i64 u1)).setCell ⟨w.heap.size + 1, 1, none⟩ (.int .i64 u2)).setCell ⟨w.heap.size + 1, 2, none⟩ (.int .i64 u3) := ⟨_, rfl⟩
    rw [← hW] at HF ⊢
    have z0 := HF.out.1.cell 0 rfl
    have z1 := HF.out.1.cell 1 rfl
    have z2 := HF.out.1.cell 2 rfl
    clear f1 f2 f3 f4 f5 f6 hW n0 n1 n2
    refine bodyPost_ret (v := .tuple #[.agg #[.int .i64 u1, .int .i64 u2, .int .i64 u3], .int .i64 u4, .bool u5, .int .i64 0]) (by simp [results, Tryd.f13, go_sem, z0, z1, z2]) rfl ⟨?_, HF.out.2⟩
    rw [HC0.out]
end Go.Proofs.YtgbhbbapkpgmiaaDoor.Ints
