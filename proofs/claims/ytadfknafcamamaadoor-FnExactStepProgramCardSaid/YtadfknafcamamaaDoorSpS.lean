/- StepProgram: the model's. -/
import Derived.Test.YtadfknafcamamaaDoorSp7
namespace Go.Proofs.YtadfknafcamamaaDoor.Ints
open Go.RowKit
set_option linter.unusedVariables false
set_option linter.unusedSimpArgs false
set_option maxHeartbeats 2000000 in
theorem specAsk (v : Value) (rs : List Ins) (at' : Int) (u : Value) (cs : List Int) (gx : Nat) (w : World) (hv : RdIns w v rs) (hu : Rd w u cs) (hx : Cels w gx 48 [.int .i64 at', u]) (bv : Bool) (hbv : bv = vsB rs at' cs) (cd : Int) (hc0 : bv = true → cd = 0) (hc1 : bv = false → cd = 1) :
    Calls Tryd.prog 51 #[v, .pointer (some ⟨gx, 0, none⟩)] w fun e w' => e = .returned (.int .i64 cd) ∧ Below w.heap.size w w' := by
  have HV := Lib.hid hv
  have HU := Lib.hid hu
  have HK := Lib.hid hx
  obtain ⟨_, _, a, c, rfl, _, _⟩ := hv
  have HBV := Lib.hid hbv
  have HC0 := Lib.hid hc0
  have HC1 := Lib.hid hc1
  clear hu hx hbv hc0 hc1
  rcases eqOr (progB rs) with hp | hp
  · obtain rfl : cd = 1 := HC1.out (HBV.out.trans (vsB_bad (a := at') (cs := cs) hp))
    go_enter Tryd.func51, Tryd.ntmps51
    go_wp2_with fail
    refine (specPIs _ rs _ HV.out).mono ?_
    rintro e1 w1 ⟨rfl, hb1⟩
    rw [hp]
    have HB1 := Lib.hid hb1
    clear hb1
    go_wp2
    go_ret
    exact ⟨rfl, HB1.out⟩
  · have e : Hid (bv = stoB rs.length at' cs) := Lib.hid (HBV.out.trans (vsB_good (a := at') (cs := cs) hp))
    go_enter Tryd.func51, Tryd.ntmps51
    go_wp2_with fail
    refine (specPIs _ rs _ HV.out).mono ?_
    rintro e1 w1 ⟨rfl, hb1⟩
    rw [hp]
    have HB1 := Lib.hid hb1
    replace HK := Lib.hid (HK.out.below hb1 HK.out.lt)
    clear hb1
    go_wp2_with fail
    refine (specGood a rs.length c gx _ at' u cs _ (HU.out.below HB1.out (Nat.le_refl _)) HK.out).mono ?_
    rintro e1 w2 ⟨rfl, hb1⟩
    have HB2 := Lib.hid (HB1.out.trans (hb1.mono HB1.out.size))
    clear hb1
    rw [← e.out]
    rcases eqOr bv with hb | hb
    · subst hb
      obtain rfl : cd = 1 := HC1.out rfl
      go_wp2
      go_ret
      exact ⟨rfl, HB2.out⟩
    · subst hb
      obtain rfl : cd = 0 := HC0.out rfl
      go_wp2
      go_ret
      exact ⟨rfl, HB2.out⟩
theorem specHaltsP (a : Option Addr) (n c : Nat) (at' : Int) (u : Value) (gx : Nat) (w : World) (hx : Cels w gx 48 [.int .i64 at', u]) (b : Bool) (hb : (at' == (n : Int)) = b) :
    Calls Tryd.prog 52 #[.slice a n c, .pointer (some ⟨gx, 0, none⟩)] w fun e w' => e = .returned (.bool b) ∧ w = w' := by
  have z0 := hx.cell 0 rfl
  clear hx
  go_enter Tryd.func52, Tryd.ntmps52
  go_wp2
  go_ret
  exact ⟨rfl, rfl⟩
set_option maxHeartbeats 4000000 in
set_option maxRecDepth 100000 in
theorem specStepProgram (at' : Int) (v u : Value) (rs : List Ins) (cs : List Int) (w : World) (hv : RdIns w v rs) (hu : Rd w u cs) :
    Calls Tryd.prog 25 #[v, .agg #[.int .i64 at', u]] w fun e w' => ∃ r, e = .returned (.tuple #[.agg #[.int .i64 (spAt rs at' cs), r], .int .i64 (spC rs at' cs)]) ∧ Ow w' w.heap.size w'.heap.size r (spL rs at' cs) ∧ Below w.heap.size w w' := by
  have HV := Lib.hid hv
  have HU := Lib.hid hu
  obtain ⟨hl, _, a0, c0, rfl, _, _⟩ := hv
  obtain ⟨_, _, a1, c1, rfl, _, _⟩ := hu
  have HB0 : Hid (∀ o1 o2 : Obj, Below w.heap.size w ((w.alloc o1).alloc o2)) := Lib.hid (fun o1 o2 => ((Below.refl _ _).alloc (Nat.le_refl _) _).alloc (by simp) _)
  obtain ⟨bv, hbv⟩ : ∃ x, x = vsB rs at' cs := ⟨_, rfl⟩
  have HBV := Lib.hid hbv
  have HL := Lib.hid hl
  obtain ⟨x1, hx1⟩ : ∃ x, x = spAt rs at' cs := ⟨_, rfl⟩
  obtain ⟨x2, hx2⟩ : ∃ x, x = spL rs at' cs := ⟨_, rfl⟩
  obtain ⟨x3, hx3⟩ : ∃ x, x = spC rs at' cs := ⟨_, rfl⟩
  rw [← hx1, ← hx2, ← hx3]
  have HX : Hid (spC rs at' cs = x3 ∧ spAt rs at' cs = x1 ∧ spL rs at' cs = x2) := Lib.hid ⟨hx3.symm, hx1.symm, hx2.symm⟩
  clear hbv hl hx1 hx2 hx3
  obtain ⟨W1, hW1⟩ : ∃ W, W = (w.alloc (Obj.cells #[.int .i64 at', .slice a1 cs.length c1] 48)).alloc (Obj.cells #[.int .i64 0, .slice none 0 0] 48) := ⟨_, rfl⟩
  have hB1 : Below w.heap.size w W1 := by rw [hW1]; exact HB0.out _ _
  have kx : Cels W1 w.heap.size 48 [.int .i64 at', .slice a1 cs.length c1] := by rw [hW1]; exact (Cels.new _ _ _).alloc _
  have kr : Cels W1 (w.heap.size + 1) 48 [.int .i64 0, .slice none 0 0] := by
    rw [hW1]
    have := Cels.new (w.alloc (Obj.cells #[.int .i64 at', .slice a1 cs.length c1] 48)) 48 [.int .i64 0, .slice none 0 0]
    rwa [World.size_alloc] at this
  have HW1 := Lib.hid hW1.symm
  have HB1 := Lib.hid hB1
  have KX1 := Lib.hid kx
  have KR1 := Lib.hid kr
  clear hW1 hB1 kx kr
  have fin : ∀ (w3 : World) (K3 : Hid (Cels w3 (w.heap.size + 1) 48 [.int .i64 0, .slice none 0 0])) (B3 : Hid (Below w.heap.size w w3)) (at2 : Int) (r2 : Value),
      Hid (Cels ((w3.setCell ⟨w.heap.size + 1, 0, none⟩ (.int .i64 at2)).setCell ⟨w.heap.size + 1, 1, none⟩ r2) (w.heap.size + 1) 48 [.int .i64 at2, r2] ∧
        Below w.heap.size w ((w3.setCell ⟨w.heap.size + 1, 0, none⟩ (.int .i64 at2)).setCell ⟨w.heap.size + 1, 1, none⟩ r2)) := fun w3 K3 B3 at2 r2 => Lib.hid
    ⟨(put2s K3.out (.int .i64 at2) r2).2.2.2.2, below_set (below_set B3.out (by omega) _ _) (by omega) _ _⟩
  have HFIN := Lib.hid fin
  clear fin
  obtain ⟨cd, hc0, hc1⟩ : ∃ cd : Int, (bv = true → cd = 0) ∧ (bv = false → cd = 1) := ⟨if bv = true then 0 else 1, fun h => by simp [h], fun h => by simp [h]⟩
  have HC0 := Lib.hid hc0
  have HC1 := Lib.hid hc1
  clear hc0 hc1
  go_enter Tryd.func25, Tryd.ntmps25
  go_wp2_with fail
  rw [HW1.out]
  refine (specAsk _ rs at' _ cs w.heap.size _ (HV.out.below HB1.out (Nat.le_refl _)) (HU.out.below HB1.out (Nat.le_refl _)) KX1.out bv HBV.out cd HC0.out HC1.out).mono ?_
  rintro e w2 ⟨rfl, hb2⟩
  have KX := Lib.hid (KX1.out.below hb2 KX1.out.lt)
  have KR := Lib.hid (KR1.out.below hb2 KR1.out.lt)
  have HB2 := Lib.hid (HB1.out.trans (hb2.mono HB1.out.size))
  clear hb2
  rcases eqOr bv with hb | hb
  · subst hb
    obtain rfl : cd = 1 := HC1.out rfl
    have hbad := HBV.out.symm
    have e := Lib.hid (sp_bad hbad)
    have HF := HFIN.out w2 KR HB2 0 (.slice none 0 0)
    obtain ⟨f1, f2, f3, f4, _⟩ := put2s KR.out (.int .i64 0) (.slice none 0 0)
    clear hbad
    go_wp2
    obtain ⟨W, hW⟩ : ∃ W, W = (w2.setCell ⟨w.heap.size + 1, 0, none⟩ (.int .i64 0)).setCell ⟨w.heap.size + 1, 1, none⟩ (.slice none 0 0) := ⟨_, rfl⟩
    rw [← hW] at HF ⊢
    have z0 := HF.out.1.cell 0 rfl
    have z1 := HF.out.1.cell 1 rfl
    clear f1 f2 f3 f4 hW
    refine bodyPost_ret (v := .tuple #[.agg #[.int .i64 0, .slice none 0 0], .int .i64 1]) (by simp [results, Tryd.f25, go_sem, z0, z1]) rfl ⟨.slice none 0 0, ?_, ?_, HF.out.2⟩
    · rw [← HX.out.1, ← HX.out.2.1, e.out.1, e.out.2.1]
    · rw [← HX.out.2.2, e.out.2.2]; exact Ow.emptyUp HF.out.2.size
  subst hb
  obtain rfl : cd = 0 := HC0.out rfl
  have HG : Hid (vsB rs at' cs = true) := Lib.hid HBV.out.symm
  obtain ⟨bh, hbh⟩ : ∃ x, (at' == (rs.length : Int)) = x := ⟨_, rfl⟩
  have HBH := Lib.hid hbh
  clear hbh
  go_wp2_with fail
  refine (specHaltsP a0 rs.length c0 at' _ w.heap.size _ KX.out bh HBH.out).mono ?_
  rintro e w3 ⟨rfl, rfl⟩
  rcases eqOr bh with hb | hb
  rotate_left
  · subst hb
    have hk : at' = (rs.length : Int) := by simpa using HBH.out
    have e := Lib.hid (sp_halt HG.out hk)
    have HF := HFIN.out w2 KR HB2 0 (.slice none 0 0)
    obtain ⟨f1, f2, f3, f4, _⟩ := put2s KR.out (.int .i64 0) (.slice none 0 0)
    clear hk
    go_wp2
    obtain ⟨W, hW⟩ : ∃ W, W = (w2.setCell ⟨w.heap.size + 1, 0, none⟩ (.int .i64 0)).setCell ⟨w.heap.size + 1, 1, none⟩ (.slice none 0 0) := ⟨_, rfl⟩
    rw [← hW] at HF ⊢
    have z0 := HF.out.1.cell 0 rfl
    have z1 := HF.out.1.cell 1 rfl
    clear f1 f2 f3 f4 hW
    refine bodyPost_ret (v := .tuple #[.agg #[.int .i64 0, .slice none 0 0], .int .i64 6]) (by simp [results, Tryd.f25, go_sem, z0, z1]) rfl ⟨.slice none 0 0, ?_, ?_, HF.out.2⟩
    · rw [← HX.out.1, ← HX.out.2.1, e.out.1, e.out.2.1]
    · rw [← HX.out.2.2, e.out.2.2]; exact Ow.emptyUp HF.out.2.size
  subst hb
  have HK : Hid (at' ≠ (rs.length : Int)) := Lib.hid (by simpa using HBH.out)
  have HV2 := Lib.hid (vsB_ok HG.out)
  obtain ⟨k, rfl⟩ : ∃ k : Nat, at' = (k : Int) := ⟨at'.toNat, by have := HV2.out.2.1.1; omega⟩
  have HKL : Hid (k < rs.length) := Lib.hid (by have := HV2.out.2.1.2; have := HK.out; omega)
  obtain ⟨bo, hbo⟩ : ∃ bo : Bool, bo = false ↔ fullP rs k cs := by
    classical
    exact ⟨!decide (fullP rs k cs), by simp⟩
  have HBO := Lib.hid hbo
  clear hbo
  go_wp2_with fail
  refine (specPStep _ rs k _ cs w.heap.size _ (HV.out.below HB2.out (Nat.le_refl _)) (HU.out.below HB2.out (Nat.le_refl _)) KX.out HKL.out HV2.out.1 HV2.out.2.2.1 HV2.out.2.2.2 bo HBO.out).mono ?_
  rintro e w3 ⟨r, rfl, or, hb3⟩
  obtain ⟨y1, hy1⟩ : ∃ x, x = stAt rs k cs := ⟨_, rfl⟩
  obtain ⟨y2, hy2⟩ : ∃ x, x = stCs rs k cs := ⟨_, rfl⟩
  rw [← hy2] at or
  rw [← hy1]
  have HY : Hid (stAt rs k cs = y1 ∧ stCs rs k cs = y2) := Lib.hid ⟨hy1.symm, hy2.symm⟩
  have HO := Lib.hid or
  obtain ⟨ga, gc, hr⟩ := or.shape
  subst hr
  have KR3 := Lib.hid (KR.out.below hb3 KR.out.lt)
  have HB3 := Lib.hid (HB2.out.trans (hb3.mono HB2.out.size))
  have HLT : Hid (w.heap.size + 1 < w2.heap.size) := Lib.hid KR.out.lt
  clear hy1 hy2 or hb3
  have hA : Below w3.heap.size w3 (w3.alloc (Obj.cells #[.int .i64 y1, .slice ga y2.length gc] 48)) := (Below.refl _ _).alloc (Nat.le_refl _) _
  obtain ⟨W4, hW4⟩ : ∃ W, W = w3.alloc (Obj.cells #[.int .i64 y1, .slice ga y2.length gc] 48) := ⟨_, rfl⟩
  have KR4 := Lib.hid (KR3.out.below hA KR3.out.lt)
  have HB4 := Lib.hid (HB3.out.trans (hA.mono HB3.out.size))
  have HO4 := Lib.hid ((HO.out.below hA (Nat.le_refl _)).mono (Nat.le_refl _) hA.size (Nat.le_refl _))
  rw [← hW4] at KR4 HB4 HO4
  have HW4 := Lib.hid hW4.symm
  clear hA hW4
  rcases eqOr bo with hb | hb
  · subst hb
    have e := Lib.hid (sp_full HG.out HK.out (HBO.out.1 rfl))
    have HF := HFIN.out W4 KR4 HB4 0 (.slice none 0 0)
    obtain ⟨f1, f2, f3, f4, _⟩ := put2s KR4.out (.int .i64 0) (.slice none 0 0)
    rw [← HW4.out] at f1 f2 f3 f4
    go_wp2
    rw [HW4.out]
    obtain ⟨W, hW⟩ : ∃ W, W = (W4.setCell ⟨w.heap.size + 1, 0, none⟩ (.int .i64 0)).setCell ⟨w.heap.size + 1, 1, none⟩ (.slice none 0 0) := ⟨_, rfl⟩
    rw [← hW] at HF ⊢
    have z0 := HF.out.1.cell 0 rfl
    have z1 := HF.out.1.cell 1 rfl
    clear f1 f2 f3 f4 hW
    refine bodyPost_ret (v := .tuple #[.agg #[.int .i64 0, .slice none 0 0], .int .i64 5]) (by simp [results, Tryd.f25, go_sem, z0, z1]) rfl ⟨.slice none 0 0, ?_, ?_, HF.out.2⟩
    · rw [← HX.out.1, ← HX.out.2.1, e.out.1, e.out.2.1]
    · rw [← HX.out.2.2, e.out.2.2]; exact Ow.emptyUp HF.out.2.size
  · subst hb
    have e := Lib.hid (sp_next HG.out HK.out (fun q => by have := HBO.out.2 q; cases this))
    have HF := HFIN.out W4 KR4 HB4 y1 (.slice ga y2.length gc)
    obtain ⟨f1, f2, f3, f4, _⟩ := put2s KR4.out (.int .i64 y1) (.slice ga y2.length gc)
    rw [← HW4.out] at f1 f2 f3 f4
    go_wp2
    rw [HW4.out]
    obtain ⟨W, hW⟩ : ∃ W, W = (W4.setCell ⟨w.heap.size + 1, 0, none⟩ (.int .i64 y1)).setCell ⟨w.heap.size + 1, 1, none⟩ (.slice ga y2.length gc) := ⟨_, rfl⟩
    have hO : Ow W w.heap.size W.heap.size (.slice ga y2.length gc) y2 := by
      have h1 := (HO4.out.apartCell HLT.out 0 (.int .i64 y1)).apartCell HLT.out 1 (.slice ga y2.length gc)
      rw [← hW] at h1
      exact h1.mono HB2.out.size (by rw [hW]; simp) (Nat.le_refl _)
    rw [← hW] at HF ⊢
    have z0 := HF.out.1.cell 0 rfl
    have z1 := HF.out.1.cell 1 rfl
    clear f1 f2 f3 f4 hW
    refine bodyPost_ret (v := .tuple #[.agg #[.int .i64 y1, .slice ga y2.length gc], .int .i64 0]) (by simp [results, Tryd.f25, go_sem, z0, z1]) rfl ⟨.slice ga y2.length gc, ?_, ?_, HF.out.2⟩
    · rw [← HX.out.1, ← HX.out.2.1, e.out.1, e.out.2.1]; rw [show ((k : Int)).toNat = k from rfl, HY.out.1]
    · rw [← HX.out.2.2, e.out.2.2, show ((k : Int)).toNat = k from rfl, HY.out.2]; exact hO
end Go.Proofs.YtadfknafcamamaaDoor.Ints
