/- RunProgram: the model's, whole; both contracts in the law's order. -/
import Derived.Test.YtgbhbbapkpgmiaaDoorRpS
import Derived.Test.YtgbhbbapkpgmiaaDoorRuT
import Derived.Test.YtgbhbbapkpgmiaaDoorSpW
import Derived.Test.YtgbhbbapkpgmiaaDoorRpI
namespace Go.Proofs.YtgbhbbapkpgmiaaDoor.Ints
open Go.RowKit
set_option linter.unusedVariables false
set_option linter.unusedSimpArgs false
theorem rpF_code (rs : List Ins) : ∀ (f : Nat) (at' : Int) (cs : List Int) (n : Int), (rpF rs f at' cs n).code = 0 ∨ rpF rs f at' cs n = ⟨5, 0, [], 0, false⟩
  | 0, at', cs, n => .inl rfl
  | f + 1, at', cs, n => by
    rw [rpF]
    split
    · exact .inl rfl
    · split
      · exact .inr rfl
      · exact rpF_code rs f _ _ _
set_option maxHeartbeats 4000000 in
set_option maxRecDepth 100000 in
theorem specRP (v : Value) (rs : List Ins) (at' : Int) (u : Value) (cs : List Int) (bu : Int) (w : World) (hv : RdIns w v rs) (hu : Rd w u cs) :
    Calls Tryd.prog 20 #[v, .agg #[.int .i64 at', u], .int .i64 bu] w fun e w' => ∃ r, e = .returned (.tuple #[.agg #[.int .i64 (rpR rs at' cs bu).at', r], .int .i64 (rpR rs at' cs bu).n, .bool (rpR rs at' cs bu).h, .int .i64 (rpR rs at' cs bu).code]) ∧ Ow w' w.heap.size w'.heap.size r (rpR rs at' cs bu).cs ∧ Below w.heap.size w w' := by
  have HV := Lib.hid hv
  have HU := Lib.hid hu
  obtain ⟨hl, _, a0, c0, rfl, _, _⟩ := hv
  obtain ⟨_, _, au, cu, rfl, _, _⟩ := hu
  obtain ⟨bv, hbv⟩ : ∃ x, x = vsB rs at' cs := ⟨_, rfl⟩
  have HBV := Lib.hid hbv
  obtain ⟨R, hR⟩ : ∃ R, R = rpR rs at' cs bu := ⟨_, rfl⟩
  rw [← hR]
  have HR := Lib.hid hR
  obtain ⟨W1, hW1⟩ : ∃ W, W = (w.alloc (Obj.cells #[.int .i64 at', .slice au cs.length cu] 39)).alloc (Obj.cells #[.int .i64 0, .slice none 0 0] 39) := ⟨_, rfl⟩
  have hB1 : Below w.heap.size w W1 := by rw [hW1]; exact ((Below.refl _ _).alloc (Nat.le_refl _) _).alloc (by simp) _
  have kx : Cels W1 w.heap.size 39 [.int .i64 at', .slice au cs.length cu] := by rw [hW1]; exact (Cels.new _ _ _).alloc _
  have kr : Cels W1 (w.heap.size + 1) 39 [.int .i64 0, .slice none 0 0] := by
    rw [hW1]
    have := Cels.new (w.alloc (Obj.cells #[.int .i64 at', .slice au cs.length cu] 39)) 39 [.int .i64 0, .slice none 0 0]
    rwa [World.size_alloc] at this
  have KX := Lib.hid kx
  have KR1 := Lib.hid kr
  have HB1 := Lib.hid hB1
  have HW1 := Lib.hid hW1.symm
  have HL := Lib.hid hl
  have fin : ∀ (x : Int) (r : Value) (wz : World) (kz : Hid (Cels wz (w.heap.size + 1) 39 [.int .i64 0, .slice none 0 0])) (bz : Hid (Below w.heap.size w wz)),
      Hid (Cels ((wz.setCell ⟨w.heap.size + 1, 0, none⟩ (.int .i64 x)).setCell ⟨w.heap.size + 1, 1, none⟩ r) (w.heap.size + 1) 39 [.int .i64 x, r] ∧
        Below w.heap.size w ((wz.setCell ⟨w.heap.size + 1, 0, none⟩ (.int .i64 x)).setCell ⟨w.heap.size + 1, 1, none⟩ r)) := fun x r wz kz bz => Lib.hid ⟨(kz.out.set 0 _).set 1 _, below_set (below_set bz.out (by omega) _ _) (by omega) _ _⟩
  have HFIN := Lib.hid fin
  clear hbv hR hW1 hB1 kx kr hl fin
  rcases eqOr bv with hb | hb
  · subst hb
    have e := Lib.hid (HR.out.trans (rp_bad (bu := bu) HBV.out.symm))
    go_enter Tryd.func20, Tryd.ntmps20
    go_wp2_with fail
    rw [HW1.out]
    refine (specAsk _ rs at' _ cs w.heap.size _ (HV.out.below HB1.out (Nat.le_refl _)) (HU.out.below HB1.out (Nat.le_refl _)) KX.out false HBV.out 1 (fun h => by cases h) (fun _ => rfl)).mono ?_
    rintro e1 w2 ⟨rfl, hb2⟩
    have KR2 := Lib.hid (KR1.out.below hb2 KR1.out.lt)
    have HB2 := Lib.hid (HB1.out.trans (hb2.mono HB1.out.size))
    obtain ⟨f1, f2, f3, f4, _⟩ := put2s KR2.out (.int .i64 0) (.slice none 0 0)
    have HF := HFIN.out 0 (.slice none 0 0) w2 KR2 HB2
    clear hb2
    go_wp2
    obtain ⟨W, hW⟩ : ∃ W, W = (w2.setCell ⟨w.heap.size + 1, 0, none⟩ (.int .i64 0)).setCell ⟨w.heap.size + 1, 1, none⟩ (.slice none 0 0) := ⟨_, rfl⟩
    rw [← hW] at HF ⊢
    have z0 := HF.out.1.cell 0 rfl
    have z1 := HF.out.1.cell 1 rfl
    clear f1 f2 f3 f4 hW
    refine bodyPost_ret (v := .tuple #[.agg #[.int .i64 0, .slice none 0 0], .int .i64 0, .bool false, .int .i64 1]) (by simp [results, Tryd.f20, go_sem, z0, z1]) rfl ⟨_, by rw [e.out], by rw [e.out]; exact Ow.emptyUp HF.out.2.size, HF.out.2⟩
  subst hb
  by_cases hq : 1 ≤ bu ∧ bu ≤ 20000
  rotate_left
  · have HQ := Lib.hid hq
    have e := Lib.hid (HR.out.trans (rp_range HBV.out.symm hq))
    clear hq
    go_enter Tryd.func20, Tryd.ntmps20
    go_wp2_with fail
    rw [HW1.out]
    refine (specAsk _ rs at' _ cs w.heap.size _ (HV.out.below HB1.out (Nat.le_refl _)) (HU.out.below HB1.out (Nat.le_refl _)) KX.out true HBV.out 0 (fun _ => rfl) (fun h => by cases h)).mono ?_
    rintro e1 w2 ⟨rfl, hb2⟩
    have KR2 := Lib.hid (KR1.out.below hb2 KR1.out.lt)
    have HB2 := Lib.hid (HB1.out.trans (hb2.mono HB1.out.size))
    obtain ⟨f1, f2, f3, f4, _⟩ := put2s KR2.out (.int .i64 0) (.slice none 0 0)
    have HF := HFIN.out 0 (.slice none 0 0) w2 KR2 HB2
    clear hb2
    go_wp2_with fail
    refine (specBudget bu false _ ⟨fun h => (by cases h), fun h => (by have := HQ.out; omega)⟩).mono ?_
    rintro e1 w3 ⟨rfl, rfl⟩
    go_wp2
    obtain ⟨W, hW⟩ : ∃ W, W = (w2.setCell ⟨w.heap.size + 1, 0, none⟩ (.int .i64 0)).setCell ⟨w.heap.size + 1, 1, none⟩ (.slice none 0 0) := ⟨_, rfl⟩
    rw [← hW] at HF ⊢
    have z0 := HF.out.1.cell 0 rfl
    have z1 := HF.out.1.cell 1 rfl
    clear f1 f2 f3 f4 hW
    refine bodyPost_ret (v := .tuple #[.agg #[.int .i64 0, .slice none 0 0], .int .i64 0, .bool false, .int .i64 2]) (by simp [results, Tryd.f20, go_sem, z0, z1]) rfl ⟨_, by rw [e.out], by rw [e.out]; exact Ow.emptyUp HF.out.2.size, HF.out.2⟩
  have HBU := Lib.hid hq
  have HOK := Lib.hid (vsB_ok HBV.out.symm)
  obtain ⟨k, rfl⟩ : ∃ k : Nat, at' = (k : Int) := ⟨at'.toNat, by have := HOK.out.2.1.1; omega⟩
  obtain ⟨B, rfl⟩ : ∃ B : Nat, bu = (B : Int) := ⟨bu.toNat, by omega⟩
  have e := Lib.hid (HR.out.trans (rp_good HBV.out.symm hq))
  have HBB : Hid (B ≤ 20000) := Lib.hid (by omega)
  have HCD : Hid (R.code = 0 ∨ R = ⟨5, 0, [], 0, false⟩) := Lib.hid (by rw [e.out]; exact rpF_code _ _ _ _ _)
  clear hq
  go_enter Tryd.func20, Tryd.ntmps20
  go_wp2_with fail
  rw [HW1.out]
  refine (specAsk _ rs (k : Int) _ cs w.heap.size _ (HV.out.below HB1.out (Nat.le_refl _)) (HU.out.below HB1.out (Nat.le_refl _)) KX.out true HBV.out 0 (fun _ => rfl) (fun h => by cases h)).mono ?_
  rintro e1 w2 ⟨rfl, hb2⟩
  have KR2 := Lib.hid (KR1.out.below hb2 KR1.out.lt)
  have KX2 := Lib.hid (KX.out.below hb2 KX.out.lt)
  have HB2 := Lib.hid (HB1.out.trans (hb2.mono HB1.out.size))
  clear hb2
  go_wp2_with fail
  refine (specBudget (B : Int) true _ ⟨fun _ => HBU.out, fun _ => rfl⟩).mono ?_
  rintro e1 w3 ⟨rfl, rfl⟩
  have y0 := KX2.out.cell 0 rfl
  have y1 := KX2.out.cell 1 rfl
  go_wp2_with fail
  refine (specPRun k B _ cs _ rs _ (HV.out.below HB2.out (Nat.le_refl _)) (HU.out.below HB2.out (Nat.le_refl _)) HOK.out.1 ⟨HOK.out.2.1, HOK.out.2.2.1, HOK.out.2.2.2⟩ HBB.out R (by have := e.out; simpa using this)).mono ?_
  rintro e3 w3 ⟨r3, rfl, o3, hb3⟩
  obtain ⟨g3, c3, hr3⟩ := o3.shape
  subst hr3
  obtain ⟨q, hq⟩ : ∃ q, q = decide (R.code = 0) := ⟨_, rfl⟩
  rw [← hq]
  have HQ := Lib.hid hq
  have KR3 := Lib.hid (KR2.out.below hb3 KR2.out.lt)
  have HB3 := Lib.hid (HB2.out.trans (hb3.mono HB2.out.size))
  have O3 := Lib.hid (o3.mono (B' := w.heap.size) HB2.out.size (Nat.le_refl _) (Nat.le_refl _))
  clear hq hb3 o3 y0 y1
  obtain ⟨u0, u1, us, u4, u5⟩ := R
  dsimp only at O3 ⊢
  have hA : Below w3.heap.size w3 (w3.alloc (Obj.cells #[.int .i64 u1, .slice g3 us.length c3] 39)) := (Below.refl _ _).alloc (Nat.le_refl _) _
  obtain ⟨W4, hW4⟩ : ∃ W, W = w3.alloc (Obj.cells #[.int .i64 u1, .slice g3 us.length c3] 39) := ⟨_, rfl⟩
  have KR4 := Lib.hid (KR3.out.below hA KR3.out.lt)
  have HB4 := Lib.hid (HB3.out.trans (hA.mono HB3.out.size))
  have O4 := Lib.hid (O3.out.below hA (Nat.le_refl _)).up
  have KN4 : Hid (Cels W4 w3.heap.size 39 [.int .i64 u1, .slice g3 us.length c3]) := Lib.hid (by rw [hW4]; exact Cels.new _ _ _)
  rw [← hW4] at KR4 HB4 O4
  have HW4 := Lib.hid hW4.symm
  clear hA hW4
  rcases eqOr q with hb | hb
  · subst hb
    have HE5 : Hid ((⟨u0, u1, us, u4, u5⟩ : Rse) = ⟨5, 0, [], 0, false⟩) := Lib.hid (by
      rcases HCD.out with h | h
      · have := HQ.out; simp at this; exact absurd h this
      · exact h)
    have HF := HFIN.out 0 (.slice none 0 0) W4 KR4 HB4
    obtain ⟨f1, f2, f3, f4, _⟩ := put2s KR4.out (.int .i64 0) (.slice none 0 0)
    rw [← HW4.out] at f1 f2 f3 f4
    go_wp2
    rw [HW4.out]
    obtain ⟨W, hW⟩ : ∃ W, W = (W4.setCell ⟨w.heap.size + 1, 0, none⟩ (.int .i64 0)).setCell ⟨w.heap.size + 1, 1, none⟩ (.slice none 0 0) := ⟨_, rfl⟩
    rw [← hW] at HF ⊢
    have z0 := HF.out.1.cell 0 rfl
    have z1 := HF.out.1.cell 1 rfl
    clear f1 f2 f3 f4 hW
    refine bodyPost_ret (v := .tuple #[.agg #[.int .i64 0, .slice none 0 0], .int .i64 0, .bool false, .int .i64 5]) (by simp [results, Tryd.f20, go_sem, z0, z1]) rfl ⟨.slice none 0 0, ?_, ?_, HF.out.2⟩
    · have h5 := HE5.out
      injection h5 with h0 h1 h2 h3 h4
      rw [h0, h1, h3, h4]
    · have h5 := HE5.out
      injection h5 with h0 h1 h2 h3 h4
      rw [h2]
      exact Ow.emptyUp HF.out.2.size
  · subst hb
    have HC0 : Hid (u0 = 0) := Lib.hid (by have := HQ.out; simpa using this)
    have HF := HFIN.out u1 (.slice g3 us.length c3) W4 KR4 HB4
    have HOF := Lib.hid ((O4.out.setO KR4.out st_ne 0 (.int .i64 u1)).setO (KR4.out.set 0 (.int .i64 u1)) st_ne 1 (.slice g3 us.length c3))
    obtain ⟨f1, f2, f3, f4, _⟩ := put2s KR4.out (.int .i64 u1) (.slice g3 us.length c3)
    have n0 := KN4.out.cell 0 rfl
    have n1 := KN4.out.cell 1 rfl
    rw [← HW4.out] at f1 f2 f3 f4 n0 n1
    go_wp2
    rw [HW4.out]
    obtain ⟨W, hW⟩ : ∃ W, W = (W4.setCell ⟨w.heap.size + 1, 0, none⟩ (.int .i64 u1)).setCell ⟨w.heap.size + 1, 1, none⟩ (.slice g3 us.length c3) := ⟨_, rfl⟩
    rw [← hW] at HF HOF ⊢
    have z0 := HF.out.1.cell 0 rfl
    have z1 := HF.out.1.cell 1 rfl
    clear f1 f2 f3 f4 hW n0 n1
    refine bodyPost_ret (v := .tuple #[.agg #[.int .i64 u1, .slice g3 us.length c3], .int .i64 u4, .bool u5, .int .i64 0]) (by simp [results, Tryd.f20, go_sem, z0, z1]) rfl ⟨_, by rw [HC0.out], HOF.out, HF.out.2⟩
theorem implRPl (v : Value) (rs : List Ins) (at' : Int) (u : Value) (cs : List Int) (bu : Int) (w : World) (hv : RdIns w v rs) (hu : Rd w u cs) (he : EtV w) :
    Calls Tryd.prog 22 #[v, .agg #[.int .i64 at', u], .int .i64 bu] w fun e w' => ∃ r, e = .returned (.tuple #[.agg #[.int .i64 (rpR rs at' cs bu).at', r], .int .i64 (rpR rs at' cs bu).n, .bool (rpR rs at' cs bu).h, .int .i64 (rpR rs at' cs bu).code]) ∧ Ow w' w.heap.size w'.heap.size r (rpR rs at' cs bu).cs ∧ Below w.heap.size w w' := implRP v rs at' u cs bu w hv hu he
end Go.Proofs.YtgbhbbapkpgmiaaDoor.Ints
