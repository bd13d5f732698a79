/- RunCounters: the model's. -/
import Derived.Test.YtgbhbbapkpgmiaaDoorStCS
import Derived.Test.YtgbhbbapkpgmiaaDoorRcC
namespace Go.Proofs.YtgbhbbapkpgmiaaDoor.Ints
open Go.RowKit
set_option linter.unusedVariables false
set_option linter.unusedSimpArgs false
set_option maxHeartbeats 4000000 in
set_option maxRecDepth 100000 in
theorem specCRun (k0 B : Nat) (a b : Int) (v : Value) (rs : List Ins) (w : World) (hv : RdIns w v rs) (hp : Pok rs) (hlw : ∀ i, i < rs.length → (rs.getD i zIns).rg ≤ 1) (hc : CntOk rs.length (k0 : Int) a b) (hB : B ≤ 20000)
    (R : Rce) (hR : R = rcF rs B (k0 : Int) a b 0) :
    Calls Tryd.prog 67 #[v, .agg #[.int .i64 (k0 : Int), .int .i64 a, .int .i64 b], .int .i64 (B : Int)] w fun e w' => e = .returned (.tuple #[.agg #[.int .i64 R.at', .int .i64 R.a, .int .i64 R.b], .int .i64 R.n, .bool R.h, .bool (decide (R.code = 0))]) ∧ Below w.heap.size w w' := by
  have HV := Lib.hid hv
  obtain ⟨hl, _, a0, c0, rfl, _, _⟩ := hv
  have HB0 : Hid (∀ o1 o2 : Obj, Below w.heap.size w ((w.alloc o1).alloc o2)) := Lib.hid (fun o1 o2 => ((Below.refl _ _).alloc (Nat.le_refl _) _).alloc (by simp) _)
  have HP := Lib.hid hp
  have HLW := Lib.hid hlw
  have HC := Lib.hid hc
  have HR := Lib.hid hR.symm
  clear hp hlw hc hR
  go_enter Tryd.func67, Tryd.ntmps67
  go_wp2_with fail
  obtain ⟨W1, hW1⟩ : ∃ W, W = (w.alloc (Obj.cells #[.int .i64 (k0 : Int), .int .i64 a, .int .i64 b] 26)).alloc (Obj.cells #[.int .i64 0, .int .i64 0, .int .i64 0] 26) := ⟨_, rfl⟩
  have hB1 : Below w.heap.size w W1 := by rw [hW1]; exact HB0.out _ _
  have kc : Cels W1 w.heap.size 26 [.int .i64 (k0 : Int), .int .i64 a, .int .i64 b] := by rw [hW1]; exact (Cels.new _ _ _).alloc _
  have kr : Cels W1 (w.heap.size + 1) 26 [.int .i64 0, .int .i64 0, .int .i64 0] := by
    rw [hW1]
    have := Cels.new (w.alloc (Obj.cells #[.int .i64 (k0 : Int), .int .i64 a, .int .i64 b] 26)) 26 [.int .i64 0, .int .i64 0, .int .i64 0]
    rwa [World.size_alloc] at this
  rw [← hW1]
  have KC1 := Lib.hid kc
  have KR1 := Lib.hid kr
  have HB1 := Lib.hid hB1
  clear hW1 kc kr hB1
  have fin : ∀ (y1 y2 y3 : Int) (w3 : World) (K3 : Hid (Cels w3 (w.heap.size + 1) 26 [.int .i64 0, .int .i64 0, .int .i64 0])) (B3 : Hid (Below w.heap.size w w3)),
      Hid (Cels (((w3.setCell ⟨w.heap.size + 1, 0, none⟩ (.int .i64 y1)).setCell ⟨w.heap.size + 1, 1, none⟩ (.int .i64 y2)).setCell ⟨w.heap.size + 1, 2, none⟩ (.int .i64 y3)) (w.heap.size + 1) 26 [.int .i64 y1, .int .i64 y2, .int .i64 y3] ∧
        Below w.heap.size w (((w3.setCell ⟨w.heap.size + 1, 0, none⟩ (.int .i64 y1)).setCell ⟨w.heap.size + 1, 1, none⟩ (.int .i64 y2)).setCell ⟨w.heap.size + 1, 2, none⟩ (.int .i64 y3))) := fun y1 y2 y3 w3 K3 B3 => Lib.hid
    ⟨(put3 K3.out (.int .i64 y1) (.int .i64 y2) (.int .i64 y3)).2.2.2.2.2.2, below_set (below_set (below_set B3.out (by omega) _ _) (by omega) _ _) (by omega) _ _⟩
  have HFIN := Lib.hid fin
  have HL := Lib.hid hl
  clear fin
  go_loopw [10] (fun s wr => ∃ (k m : Nat) (x y : Int), s = .int .i64 (m : Int) ∧ m ≤ B ∧ CntOk rs.length (k : Int) x y ∧ rcF rs (B - m) (k : Int) x y (m : Int) = R ∧ Cels wr w.heap.size 26 [.int .i64 (k : Int), .int .i64 x, .int .i64 y] ∧ Cels wr (w.heap.size + 1) 26 [.int .i64 0, .int .i64 0, .int .i64 0] ∧ Below w.heap.size w wr) (fun s _ => B + 1 - (intOf s).toNat)
  case atStart => exact ⟨k0, 0, a, b, rfl, Nat.zero_le _, HC.out, HR.out, KC1.out, KR1.out, HB1.out⟩
  case round =>
    obtain ⟨k, m, x, y, rfl, hm, hc, hr, kc, kr, hb⟩ := hrel
    have HCk := Lib.hid hc
    have HRr := Lib.hid hr
    have KC := Lib.hid kc
    have KR := Lib.hid kr
    have HB := Lib.hid hb
    have hkl : k ≤ rs.length := by have := hc.1.2; omega
    have y0 := kc.cell 0 rfl
    have y1 := kc.cell 1 rfl
    have y2 := kc.cell 2 rfl
    clear hc hr kc kr hb KC1 KR1 HB1 HC HR
    by_cases hk : k = rs.length
    · have k1 : ((k : Int) == (rs.length : Int)) = true := by simp [hk]
      have HRE : Hid (R = ⟨0, (k : Int), x, y, (m : Int), true⟩) := Lib.hid (by have := HRr.out; rw [hk] at this ⊢; rw [rcF_halt] at this; exact this.symm)
      have HF := HFIN.out (k : Int) x y wr KR HB
      obtain ⟨f1, f2, f3, f4, f5, f6, _⟩ := put3 KR.out (.int .i64 (k : Int)) (.int .i64 x) (.int .i64 y)
      have HKE := Lib.hid hk
      clear hk hkl
      go_wp2
      obtain ⟨W, hW⟩ : ∃ W, W = ((wr.setCell ⟨w.heap.size + 1, 0, none⟩ (.int .i64 (k : Int))).setCell ⟨w.heap.size + 1, 1, none⟩ (.int .i64 x)).setCell ⟨w.heap.size + 1, 2, none⟩ (.int .i64 y) := ⟨_, rfl⟩
      rw [← hW] at HF ⊢
      have z0 := HF.out.1.cell 0 rfl
      have z1 := HF.out.1.cell 1 rfl
      have z2 := HF.out.1.cell 2 rfl
      clear f1 f2 f3 f4 f5 f6 hW y0 y1 y2
      refine bodyPost_ret (v := .tuple #[.agg #[.int .i64 (k : Int), .int .i64 x, .int .i64 y], .int .i64 (m : Int), .bool true, .bool true]) (by simp [results, Tryd.f67, go_sem, z0, z1, z2]) rfl ⟨by rw [HRE.out]; rfl, HF.out.2⟩
    have k1 : ((k : Int) == (rs.length : Int)) = false := by simp; omega
    have HKL : Hid (k < rs.length) := Lib.hid (by omega)
    by_cases hmB : m = B
    · have k2 : ((m : Int) == (B : Int)) = true := by simp [hmB]
      have HRE : Hid (R = ⟨0, (k : Int), x, y, (m : Int), false⟩) := Lib.hid (by have := HRr.out; rw [← hmB, Nat.sub_self, rcF_zero _ _ _ HKL.out] at this; exact this.symm)
      have HF := HFIN.out (k : Int) x y wr KR HB
      obtain ⟨f1, f2, f3, f4, f5, f6, _⟩ := put3 KR.out (.int .i64 (k : Int)) (.int .i64 x) (.int .i64 y)
      clear hk hkl hmB
      go_wp2
      obtain ⟨W, hW⟩ : ∃ W, W = ((wr.setCell ⟨w.heap.size + 1, 0, none⟩ (.int .i64 (k : Int))).setCell ⟨w.heap.size + 1, 1, none⟩ (.int .i64 x)).setCell ⟨w.heap.size + 1, 2, none⟩ (.int .i64 y) := ⟨_, rfl⟩
      rw [← hW] at HF ⊢
      have z0 := HF.out.1.cell 0 rfl
      have z1 := HF.out.1.cell 1 rfl
      have z2 := HF.out.1.cell 2 rfl
      clear f1 f2 f3 f4 f5 f6 hW y0 y1 y2
      refine bodyPost_ret (v := .tuple #[.agg #[.int .i64 (k : Int), .int .i64 x, .int .i64 y], .int .i64 (m : Int), .bool false, .bool true]) (by simp [results, Tryd.f67, go_sem, z0, z1, z2]) rfl ⟨by rw [HRE.out]; rfl, HF.out.2⟩
    have k2 : ((m : Int) == (B : Int)) = false := by simp; omega
    have hmlt : m < B := by omega
    obtain ⟨r, hr⟩ : ∃ r, r = rs.getD k zIns := ⟨_, rfl⟩
    have HRD := Lib.hid hr
    obtain ⟨f, hf⟩ : ∃ f, B - m = f + 1 := ⟨B - m - 1, by omega⟩
    have HFF := Lib.hid hf
    clear hk hr hkl hmB hf
    go_wp2_with fail
    refine (specCStep _ rs k x y _ (HV.out.below HB.out (Nat.le_refl _)) HKL.out HP.out HCk.out.2.1 HCk.out.2.2 r HRD.out).mono ?_
    rintro e w3 ⟨rfl, hb3⟩
    obtain ⟨q, hq⟩ : ∃ q, q = decide (cnV r x y ≤ 1000000000000) := ⟨_, rfl⟩
    have HQ := Lib.hid hq
    rw [← hq]
    obtain ⟨u1, hu1⟩ : ∃ u, u = cnAt r x y := ⟨_, rfl⟩
    obtain ⟨u2, hu2⟩ : ∃ u, u = cnA r x y := ⟨_, rfl⟩
    obtain ⟨u3, hu3⟩ : ∃ u, u = cnB r x y := ⟨_, rfl⟩
    have HU : Hid (cnAt r x y = u1 ∧ cnA r x y = u2 ∧ cnB r x y = u3) := Lib.hid ⟨hu1.symm, hu2.symm, hu3.symm⟩
    rw [← hu1, ← hu2, ← hu3]
    have KR3 := Lib.hid (KR.out.below hb3 KR.out.lt)
    have KC3 := Lib.hid (KC.out.below hb3 KC.out.lt)
    have HB3 := Lib.hid (HB.out.trans (hb3.mono HB.out.size))
    clear hq hu1 hu2 hu3 hb3 y0 y1 y2 k1 k2
    have hA : Below w3.heap.size w3 (w3.alloc (Obj.cells #[.int .i64 u1, .int .i64 u2, .int .i64 u3] 26)) := (Below.refl _ _).alloc (Nat.le_refl _) _
    obtain ⟨W4, hW4⟩ : ∃ W, W = w3.alloc (Obj.cells #[.int .i64 u1, .int .i64 u2, .int .i64 u3] 26) := ⟨_, rfl⟩
    have KR4 := Lib.hid (KR3.out.below hA KR3.out.lt)
    have KC4 := Lib.hid (KC3.out.below hA KC3.out.lt)
    have HB4 := Lib.hid (HB3.out.trans (hA.mono HB3.out.size))
    have KN4 : Hid (Cels W4 w3.heap.size 26 [.int .i64 u1, .int .i64 u2, .int .i64 u3]) := Lib.hid (by rw [hW4]; exact Cels.new _ _ _)
    rw [← hW4] at KR4 KC4 HB4
    have HW4 := Lib.hid hW4.symm
    clear hA hW4
    rcases eqOr q with hb | hb
    · subst hb
      have HRE : Hid (R = ⟨5, 0, 0, 0, 0, false⟩) := Lib.hid (by
        have hq : ¬ cnV r x y ≤ 1000000000000 := by have := HQ.out; simpa using this
        have := HRr.out
        rw [HRD.out] at hq
        rw [HFF.out, rcF_full f x y (m : Int) HKL.out hq] at this
        exact this.symm)
      have HF := HFIN.out 0 0 0 W4 KR4 HB4
      obtain ⟨f1, f2, f3, f4, f5, f6, _⟩ := put3 KR4.out (.int .i64 0) (.int .i64 0) (.int .i64 0)
      rw [← HW4.out] at f1 f2 f3 f4 f5 f6
      go_wp2
      rw [HW4.out]
      obtain ⟨W, hW⟩ : ∃ W, W = ((W4.setCell ⟨w.heap.size + 1, 0, none⟩ (.int .i64 0)).setCell ⟨w.heap.size + 1, 1, none⟩ (.int .i64 0)).setCell ⟨w.heap.size + 1, 2, none⟩ (.int .i64 0) := ⟨_, rfl⟩
      rw [← hW] at HF ⊢
      have z0 := HF.out.1.cell 0 rfl
      have z1 := HF.out.1.cell 1 rfl
      have z2 := HF.out.1.cell 2 rfl
      clear f1 f2 f3 f4 f5 f6 hW
      refine bodyPost_ret (v := .tuple #[.agg #[.int .i64 0, .int .i64 0, .int .i64 0], .int .i64 0, .bool false, .bool false]) (by simp [results, Tryd.f67, go_sem, z0, z1, z2]) rfl ⟨by rw [HRE.out]; rfl, HF.out.2⟩
    subst hb
    have hqq : cnV r x y ≤ 1000000000000 := by have := HQ.out; simpa using this
    rw [HRD.out] at hqq
    have hok := cn_ok HP.out HLW.out HKL.out HCk.out hqq
    have hrn := HRr.out
    rw [HFF.out, rcF_next f x y (m : Int) HKL.out hqq, ← HRD.out, HU.out.1, HU.out.2.1, HU.out.2.2] at hrn
    rw [← HRD.out, HU.out.1, HU.out.2.1, HU.out.2.2] at hok
    obtain ⟨k', rfl⟩ : ∃ k' : Nat, u1 = (k' : Int) := ⟨u1.toNat, by have := hok.1.1; omega⟩
    have HOK2 := Lib.hid hok
    have HRN := Lib.hid hrn
    obtain ⟨f1, f2, f3, f4, f5, f6, f7⟩ := put3 KC4.out (.int .i64 (k' : Int)) (.int .i64 u2) (.int .i64 u3)
    have HF7 := Lib.hid f7
    have HKR := Lib.hid (((KR4.out.other (p := ⟨w.heap.size, 0, none⟩) (by show w.heap.size + 1 ≠ w.heap.size; omega) (.int .i64 (k' : Int))).other (p := ⟨w.heap.size, 1, none⟩) (by show w.heap.size + 1 ≠ w.heap.size; omega) (.int .i64 u2)).other (p := ⟨w.heap.size, 2, none⟩) (by show w.heap.size + 1 ≠ w.heap.size; omega) (.int .i64 u3))
    have HBN := Lib.hid (below_set (below_set (below_set HB4.out (Nat.le_refl _) 0 (.int .i64 (k' : Int))) (Nat.le_refl _) 1 (.int .i64 u2)) (Nat.le_refl _) 2 (.int .i64 u3))
    rw [← HW4.out] at f1 f2 f3 f4 f5 f6
    clear f7 hok hrn hqq
    go_wp2
    rw [HW4.out]
    go_roundw
    case rel => exact ⟨k', m + 1, u2, u3, by go_num, by omega, HOK2.out, by rw [show B - (m + 1) = f from by have := HFF.out; omega]; push_cast; exact HRN.out, HF7.out, HKR.out, HBN.out⟩
    case measure => simp [intOf]; omega
end Go.Proofs.YtgbhbbapkpgmiaaDoor.Ints
