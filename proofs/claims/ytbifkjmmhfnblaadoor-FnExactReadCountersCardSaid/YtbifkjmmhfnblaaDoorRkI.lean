/- Counters read from texts, of the program. -/
import Derived.Test.YtbifkjmmhfnblaaDoorRkV
import Derived.Test.YtbifkjmmhfnblaaDoorMpN
import Derived.Test.YtbifkjmmhfnblaaDoorAttC
import Derived.Test.YtbifkjmmhfnblaaDoorSplI
import Derived.BigRegion
namespace Go.Proofs.YtbifkjmmhfnblaaDoor.Ints
open Go.RowKit
set_option linter.unusedVariables false
set_option linter.unusedSimpArgs false
theorem pcs_small (c : UInt8) (s : ByteArray) (hs : s.size ≤ 1048576) : (∀ j, j < (pcs c s.data.toList).length → ((pcs c s.data.toList).getD j []).length ≤ 1048576) ∧ (pcs c s.data.toList).length ≤ 1048577 := by
  have h2 := Lib.size_eq s
  refine ⟨fun j hj => ?_, by have := pcs_len c s.data.toList; omega⟩
  have := pcs_piece c s.data.toList ((pcs c s.data.toList).getD j []) (by rw [List.getD_eq_getElem?_getD, List.getElem?_eq_getElem hj]; exact List.getElem_mem hj)
  omega
theorem clRkY (sb : Nat) (s : ByteArray) (w : World) (hc : Cels w sb 9 [.string s]) (hs : s.size ≤ 1048576) (ht : TabV w) (he : ErrV w) (hm : MaxV w) (h : AllNum (pcs 58 s.data.toList)) :
    Calls Tryd.prog 49 #[.pointer (some ⟨sb, 0, none⟩)] w fun e w' => ∃ v, e = .returned v ∧ Ow w' w.heap.size w'.heap.size v ((pcs 58 s.data.toList).map valL) ∧ Below w.heap.size w w' := by
  have k0 := hc.cell 0 rfl
  have HSm := Lib.hid (pcs_small 58 s hs)
  have HSp := Lib.hid (implSplit s 58 ⟨#[58]⟩ w hs rfl hm)
  have HTab := Lib.hid ht
  have HErr := Lib.hid he
  have HA := Lib.hid h
  clear hc hs ht he hm h
  go_enter Tryd.func49, Tryd.ntmps49
  go_wp2_with fail
  refine HSp.out.mono ?_
  rintro e w1 ⟨u, rfl, hr, hb1⟩
  have HR := Lib.hid hr
  have HB1 := Lib.hid hb1
  obtain ⟨b, c, rfl, _, _, _⟩ := hr
  clear hb1
  go_wp2_with fail
  refine (mapNumY _ _ _ HR.out HSm.out.1 HSm.out.2 (HTab.out.below HB1.out (Nat.le_refl _)) (HErr.out.below HB1.out (Nat.le_refl _)) HA.out).mono ?_
  rintro e w2 ⟨v, rfl, ho, hb2⟩
  have HO := Lib.hid (ho.mono HB1.out.size (Nat.le_refl _) (Nat.le_refl _))
  have HB2 := Lib.hid (HB1.out.trans (hb2.mono HB1.out.size))
  clear ho hb2
  go_wp2
  go_ret
  exact ⟨_, rfl, HO.out, HB2.out⟩
theorem clRkN (sb : Nat) (s : ByteArray) (w : World) (hc : Cels w sb 9 [.string s]) (hs : s.size ≤ 1048576) (ht : TabV w) (he : ErrV w) (hm : MaxV w) (h : ¬ AllNum (pcs 58 s.data.toList)) :
    Calls Tryd.prog 49 #[.pointer (some ⟨sb, 0, none⟩)] w fun e w' => e = .panicked [gaveUp 8] ∧ Below w.heap.size w w' := by
  have k0 := hc.cell 0 rfl
  have HSm := Lib.hid (pcs_small 58 s hs)
  have HSp := Lib.hid (implSplit s 58 ⟨#[58]⟩ w hs rfl hm)
  have HTab := Lib.hid ht
  have HErr := Lib.hid he
  have HA := Lib.hid h
  clear hc hs ht he hm h
  go_enter Tryd.func49, Tryd.ntmps49
  go_wp2_with fail
  refine HSp.out.mono ?_
  rintro e w1 ⟨u, rfl, hr, hb1⟩
  have HR := Lib.hid hr
  have HB1 := Lib.hid hb1
  obtain ⟨b, c, rfl, _, _, _⟩ := hr
  clear hb1
  go_wp2_with fail
  refine (mapNumN _ _ _ HR.out HSm.out.1 HSm.out.2 (HTab.out.below HB1.out (Nat.le_refl _)) (HErr.out.below HB1.out (Nat.le_refl _)) HA.out).mono ?_
  rintro e w2 ⟨rfl, hb2⟩
  have HB2 := Lib.hid (HB1.out.trans (hb2.mono HB1.out.size))
  clear hb2
  go_wp2
  exact ⟨rfl, rfl, HB2.out⟩
set_option maxRecDepth 100000 in
set_option maxHeartbeats 4000000 in
theorem implReadCt (s : ByteArray) (w : World) (hs : s.size ≤ 1048576) (ht : TabV w) (he : ErrV w) (hm : MaxV w) :
    Calls Tryd.prog 15 #[.string s] w fun e w' => e = .returned (.tuple #[.agg #[.int .i64 (rkX s.data.toList 0), .int .i64 (rkX s.data.toList 1), .int .i64 (rkX s.data.toList 2)], .bool (rkB s.data.toList)]) ∧ Below w.heap.size w w' := by
  have hmf : ∀ (fn : Fn) (first cap : Array Value) (w : World), (Instr.makeFunc fn first cap).run Tryd.prog w = .ok (.func fn first cap) w := fun _ _ _ _ => rfl
  obtain ⟨l, hl⟩ : ∃ l, l = s.data.toList := ⟨_, rfl⟩
  have HL := Lib.hid hl
  obtain ⟨W0, hW0⟩ : ∃ W, W = (w.alloc (Obj.cells #[.string s] 9)).alloc (Obj.cells #[.int .i64 0, .int .i64 0, .int .i64 0] 29) := ⟨_, rfl⟩
  have HB0 : Hid (Below w.heap.size w W0) := Lib.hid (by rw [hW0]; exact ((Below.refl _ _).alloc (Nat.le_refl _) _).alloc (by simp) _)
  have KS : Hid (Cels W0 w.heap.size 9 [.string s]) := Lib.hid (by rw [hW0]; exact (Cels.new _ _ _).alloc _)
  have KR : Hid (Cels W0 (w.heap.size + 1) 29 [.int .i64 0, .int .i64 0, .int .i64 0]) := Lib.hid (by
    rw [hW0]
    have := Cels.new (w.alloc (Obj.cells #[.string s] 9)) 29 [.int .i64 0, .int .i64 0, .int .i64 0]
    rwa [World.size_alloc] at this)
  have HTab := Lib.hid (ht.below HB0.out (Nat.le_refl _))
  have HErr := Lib.hid (he.below HB0.out (Nat.le_refl _))
  have HMax := Lib.hid (hm.below HB0.out (Nat.le_refl _))
  have HW0 := Lib.hid hW0.symm
  have HS := Lib.hid hs
  have HUp : Hid (∀ W, Below (W0.heap.size + 1) (W0.alloc (.cells #[.nilIface] 73)) W → Below W0.heap.size W0 W) := Lib.hid (fun W hW => ((Below.refl W0.heap.size W0).alloc (Nat.le_refl _) _).trans (hW.mono (Nat.le_succ _)))
  rw [← hl]
  clear ht he hm hs hl hW0
  by_cases hall : AllNum (pcs 58 l)
  rotate_left
  · have HF := Lib.hid (rk_bad (l := l) (fun h => hall (fun j hj => h.2.1 j (by rw [← h.1]; exact hj))))
    have HC := Lib.hid (attNRdC (.pointer (some ⟨w.heap.size, 0, none⟩)) 8 W0 (fun W hW => (clRkN w.heap.size s W (KS.out.below (HUp.out W hW) KS.out.lt) HS.out (HTab.out.below (HUp.out W hW) (Nat.le_refl _)) (HErr.out.below (HUp.out W hW) (Nat.le_refl _)) (HMax.out.below (HUp.out W hW) (Nat.le_refl _)) (by rw [← HL.out]; exact hall)).mono (fun e W' h => ⟨h.1, h.2.mono (by have := hW.size; simp at this; omega)⟩)))
    clear hall
    go_enter Tryd.func15, Tryd.ntmps15
    go_wp2_with fail
    rw [HW0.out]
    refine HC.out.mono ?_
    rintro e w1 ⟨rfl, hb1⟩
    have K1 := Lib.hid (KR.out.below hb1 KR.out.lt)
    have HB1 := Lib.hid (HB0.out.trans (hb1.mono HB0.out.size))
    clear hb1
    obtain ⟨f1, f2, f3, f4, f5, f6, f7⟩ := put3 K1.out (.int .i64 0) (.int .i64 0) (.int .i64 0)
    have F7 := Lib.hid f7
    clear f7
    go_wp2
    have f7 := F7.out
    obtain ⟨Wf, hWf⟩ : ∃ Wf, Wf = ((w1.setCell ⟨w.heap.size + 1, 0, none⟩ (.int .i64 0)).setCell ⟨w.heap.size + 1, 1, none⟩ (.int .i64 0)).setCell ⟨w.heap.size + 1, 2, none⟩ (.int .i64 0) := ⟨_, rfl⟩
    have hB : Below w.heap.size w Wf := by rw [hWf]; exact below_set (below_set (below_set HB1.out (by omega) _ _) (by omega) _ _) (by omega) _ _
    rw [← hWf] at f7 ⊢
    have z0 := f7.cell 0 rfl
    have z1 := f7.cell 1 rfl
    have z2 := f7.cell 2 rfl
    clear f1 f2 f3 f4 f5 f6 hWf
    refine bodyPost_ret (v := .tuple #[.agg #[.int .i64 0, .int .i64 0, .int .i64 0], .bool false]) (by simp [results, Tryd.f15, go_sem, z0, z1, z2]) rfl ⟨?_, hB⟩
    rw [HF.out.1, HF.out.2 0, HF.out.2 1, HF.out.2 2]
  obtain ⟨ts, hts⟩ : ∃ ts, ts = pcs 58 l := ⟨_, rfl⟩
  have HTs := Lib.hid hts
  obtain ⟨zs, hzs⟩ : ∃ zs, zs = ts.map valL := ⟨_, rfl⟩
  have HZs := Lib.hid hzs
  have HC := Lib.hid (attYRdC (.pointer (some ⟨w.heap.size, 0, none⟩)) (fun v W => Ow W (W0.heap.size + 1) W.heap.size v zs) W0 (fun W hW => (clRkY w.heap.size s W (KS.out.below (HUp.out W hW) KS.out.lt) HS.out (HTab.out.below (HUp.out W hW) (Nat.le_refl _)) (HErr.out.below (HUp.out W hW) (Nat.le_refl _)) (HMax.out.below (HUp.out W hW) (Nat.le_refl _)) (by rw [← HL.out]; exact hall)).mono (fun e W' h => by
      obtain ⟨v, he, ho, hb⟩ := h
      have hsz : W0.heap.size + 1 ≤ W.heap.size := by have := hW.size; simp at this; omega
      rw [← HL.out, ← hts, ← hzs] at ho
      exact ⟨v, he, ho.mono hsz (Nat.le_refl _) (Nat.le_refl _), hb.mono hsz⟩))
    (fun v W hg _ => by
      have := hg.setLow W0.heap.size .nilIface (Nat.lt_succ_self _)
      simpa using this))
  have HAll := Lib.hid hall
  clear hall hts hzs
  go_enter Tryd.func15, Tryd.ntmps15
  go_wp2_with fail
  rw [HW0.out]
  refine HC.out.mono ?_
  rintro e w1 ⟨v, rfl, ho, hb1⟩
  have K1 := Lib.hid (KR.out.below hb1 KR.out.lt)
  have HB1 := Lib.hid (HB0.out.trans (hb1.mono HB0.out.size))
  have HO := Lib.hid ho
  have hlz : zs.length = ts.length := by rw [HZs.out, List.length_map]
  have HLz := Lib.hid hlz
  obtain ⟨av, cv, hsh⟩ := ho.shape
  obtain ⟨n, hn⟩ : ∃ n, n = zs.length := ⟨_, rfl⟩
  rw [← hn] at hsh
  have HNn := Lib.hid hn
  subst hsh
  clear hb1 ho hlz hn
  by_cases h3 : n = 3
  rotate_left
  · have HF := Lib.hid (rk_bad (l := l) (fun h => h3 (by rw [HNn.out, HLz.out, HTs.out]; exact h.1)))
    have e3 : ((n : Int) == 3) = false := by rw [beq_eq_false_iff_ne]; omega
    have e3' : ¬ (n : Int) = 3 := by omega
    clear h3
    obtain ⟨f1, f2, f3, f4, f5, f6, f7⟩ := put3 K1.out (.int .i64 0) (.int .i64 0) (.int .i64 0)
    have F7 := Lib.hid f7
    clear f7
    go_wp2
    have f7 := F7.out
    obtain ⟨Wf, hWf⟩ : ∃ Wf, Wf = ((w1.setCell ⟨w.heap.size + 1, 0, none⟩ (.int .i64 0)).setCell ⟨w.heap.size + 1, 1, none⟩ (.int .i64 0)).setCell ⟨w.heap.size + 1, 2, none⟩ (.int .i64 0) := ⟨_, rfl⟩
    have hB : Below w.heap.size w Wf := by rw [hWf]; exact below_set (below_set (below_set HB1.out (by omega) _ _) (by omega) _ _) (by omega) _ _
    have f8 := f7
    rw [← hWf] at f8 ⊢
    have z0 := f8.cell 0 rfl
    have z1 := f8.cell 1 rfl
    have z2 := f8.cell 2 rfl
    clear f1 f2 f3 f4 f5 f6 hWf
    refine bodyPost_ret (v := .tuple #[.agg #[.int .i64 0, .int .i64 0, .int .i64 0], .bool false]) (by simp [results, Tryd.f15, go_sem, z0, z1, z2]) rfl ⟨?_, hB⟩
    rw [HF.out.1, HF.out.2 0, HF.out.2 1, HF.out.2 2]
  subst h3
  obtain ⟨x, y, z, hz3⟩ : ∃ a b c, zs = [a, b, c] := by
    have h := HNn.out
    match zs, h with
    | [a, b, c], _ => exact ⟨a, b, c, rfl⟩
  obtain ⟨t0, t1, t2, ht3⟩ : ∃ a b c, ts = [a, b, c] := by
    have h := HNn.out.trans HLz.out
    match ts, h with
    | [a, b, c], _ => exact ⟨a, b, c, rfl⟩
  have HXyz : Hid (x = valL t0 ∧ y = valL t1 ∧ z = valL t2) := Lib.hid (by
    have h := HZs.out
    rw [hz3, ht3] at h
    simp at h
    exact h)
  have HO3 : Hid (Ow w1 (W0.heap.size + 1) w1.heap.size (.slice av 3 cv) [x, y, z]) := Lib.hid (by rw [← hz3]; exact HO.out)
  have HOk : Hid (rkOk (pcs 58 l) ↔ valB x y z = true) := Lib.hid (by
    rw [← HTs.out, ht3, HXyz.out.1, HXyz.out.2.1, HXyz.out.2.2]
    have ha : AllNum [t0, t1, t2] := by rw [← ht3, HTs.out]; exact HAll.out
    exact ⟨fun h => h.2.2, fun h => ⟨rfl, ha, h⟩⟩)
  have HVl : Hid (∀ j, valL ((pcs 58 l).getD j []) = valL ([t0, t1, t2].getD j [])) := Lib.hid (fun j => by rw [← HTs.out, ht3])
  clear hz3 ht3
  go_wp2_with fail
  refine (implVals _ [x, y, z] _ HO3.out.rd).mono ?_
  rintro e w2 ⟨rfl, bb⟩
  have K2 := Lib.hid (K1.out.below bb K1.out.lt)
  have HB2 := Lib.hid (HB1.out.trans (bb.mono HB1.out.size))
  have HO4 := Lib.hid (HO3.out.below bb (Nat.le_refl _))
  rw [dig3]
  obtain ⟨q, hq⟩ : ∃ q, q = valB x y z := ⟨_, rfl⟩
  have HQ := Lib.hid hq
  rw [← hq]
  clear bb hq
  rcases eqOr q with hb | hb
  · subst hb
    have HF := Lib.hid (rk_bad (l := l) (fun h => by have := HOk.out.1 h; rw [← HQ.out] at this; cases this))
    obtain ⟨f1, f2, f3, f4, f5, f6, f7⟩ := put3 K2.out (.int .i64 0) (.int .i64 0) (.int .i64 0)
    have F7 := Lib.hid f7
    clear f7
    go_wp2
    have f7 := F7.out
    obtain ⟨Wf, hWf⟩ : ∃ Wf, Wf = ((w2.setCell ⟨w.heap.size + 1, 0, none⟩ (.int .i64 0)).setCell ⟨w.heap.size + 1, 1, none⟩ (.int .i64 0)).setCell ⟨w.heap.size + 1, 2, none⟩ (.int .i64 0) := ⟨_, rfl⟩
    have hB : Below w.heap.size w Wf := by rw [hWf]; exact below_set (below_set (below_set HB2.out (by omega) _ _) (by omega) _ _) (by omega) _ _
    have f8 := f7
    rw [← hWf] at f8 ⊢
    have z0 := f8.cell 0 rfl
    have z1 := f8.cell 1 rfl
    have z2 := f8.cell 2 rfl
    clear f1 f2 f3 f4 f5 f6 hWf
    refine bodyPost_ret (v := .tuple #[.agg #[.int .i64 0, .int .i64 0, .int .i64 0], .bool false]) (by simp [results, Tryd.f15, go_sem, z0, z1, z2]) rfl ⟨?_, hB⟩
    rw [HF.out.1, HF.out.2 0, HF.out.2 1, HF.out.2 2]
  subst hb
  have HF : Hid (rkB l = true ∧ ∀ j, rkX l j = valL ([t0, t1, t2].getD j [])) := Lib.hid (by
    have h1 := rk_good (l := l) (HOk.out.2 HQ.out.symm)
    exact ⟨h1.1, fun j => by rw [h1.2 j]; exact HVl.out j⟩)
  have hav : ∃ g, av = some ⟨g, 0, none⟩ ∧ 3 ≤ cv ∧ w2.cell? ⟨g, 0, none⟩ = some (.int .i64 x) ∧ w2.cell? ⟨g, 1, none⟩ = some (.int .i64 y) ∧ w2.cell? ⟨g, 2, none⟩ = some (.int .i64 z) := by
    rcases HO4.out.form with ⟨_, h⟩ | ⟨g, c, h, _, _, h3, _⟩
    · cases h
    · have h4 := HO4.out.rd.val
      obtain ⟨a', c', e', _, hr'⟩ := h4
      obtain ⟨b', o', ha', _, hc'⟩ := hr' (by simp)
      simp only [Value.slice.injEq] at h e'
      obtain ⟨e1, _, e3⟩ := h
      obtain ⟨e4, _, _⟩ := e'
      rw [← e4, e1] at ha'
      simp only [Option.some.injEq, Addr.mk.injEq] at ha'
      obtain ⟨rfl, ho', _⟩ := ha'
      have a0 := hc' 0 (by simp)
      have a1 := hc' 1 (by simp)
      have a2 := hc' 2 (by simp)
      rw [← ho'] at a0 a1 a2
      exact ⟨g, e1, by rw [e3]; exact h3, a0, a1, a2⟩
  obtain ⟨g, rfl, hcv, m0, m1, m2⟩ := hav
  obtain ⟨f1, f2, f3, f4, f5, f6, f7⟩ := put3 K2.out (.int .i64 x) (.int .i64 y) (.int .i64 z)
  have F7 := Lib.hid f7
  clear f7
  go_wp2
  go_region
  all_goals
    go_wp2
    have f7 := F7.out
    obtain ⟨Wf, hWf⟩ : ∃ Wf, Wf = (((w2.setCell ⟨w.heap.size + 1, 0, none⟩ (.int .i64 x)).setCell ⟨w.heap.size + 1, 1, none⟩ (.int .i64 y)).setCell ⟨w.heap.size + 1, 2, none⟩ (.int .i64 z)).drew := ⟨_, rfl⟩
    have hB : Below w.heap.size w Wf := by rw [hWf]; exact (below_set (below_set (below_set HB2.out (by omega) _ _) (by omega) _ _) (by omega) _ _).drew
    have f8 : Cels ((((w2.setCell ⟨w.heap.size + 1, 0, none⟩ (.int .i64 x)).setCell ⟨w.heap.size + 1, 1, none⟩ (.int .i64 y)).setCell ⟨w.heap.size + 1, 2, none⟩ (.int .i64 z)).drew) (w.heap.size + 1) 29 [.int .i64 x, .int .i64 y, .int .i64 z] := f7
    rw [← hWf] at f8 ⊢
    have z0 := f8.cell 0 rfl
    have z1 := f8.cell 1 rfl
    have z2 := f8.cell 2 rfl
    clear f1 f2 f3 f4 f5 f6 hWf
    refine bodyPost_ret (v := .tuple #[.agg #[.int .i64 x, .int .i64 y, .int .i64 z], .bool true]) (by simp [results, Tryd.f15, go_sem, z0, z1, z2]) rfl ⟨?_, hB⟩
    rw [HF.out.1, HF.out.2 0, HF.out.2 1, HF.out.2 2, HXyz.out.1, HXyz.out.2.1, HXyz.out.2.2] <;> rfl
end Go.Proofs.YtbifkjmmhfnblaaDoor.Ints
