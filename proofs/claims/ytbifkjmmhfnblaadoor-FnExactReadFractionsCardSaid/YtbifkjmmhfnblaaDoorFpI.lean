/- Fractions read from texts, of the program. -/
import Derived.Test.YtbifkjmmhfnblaaDoorFpV
import Derived.Test.YtbifkjmmhfnblaaDoorGup
import Derived.Test.YtbifkjmmhfnblaaDoorAttF
import Derived.Test.YtbifkjmmhfnblaaDoorFrcI
namespace Go.Proofs.YtbifkjmmhfnblaaDoor.Ints
open Go.RowKit
set_option linter.unusedVariables false
set_option linter.unusedSimpArgs false
set_option maxHeartbeats 4000000 in
theorem implFrInY (s : ByteArray) (w : World) (hs : s.size ≤ 1048576) (ht : TabV w) (he : ErrV w) (hm : MaxV w) (h : fcOne s.data.toList) :
    Calls Tryd.prog 64 #[.string s] w fun e w' => e = .returned (fcV s.data.toList).agg ∧ Below w.heap.size w w' := by
  obtain ⟨W0, hW0⟩ : ∃ W, W = w.alloc (Obj.cells #[.int .i64 0, .int .i64 0] 92) := ⟨_, rfl⟩
  have HB0 : Hid (Below w.heap.size w W0) := Lib.hid (by rw [hW0]; exact (Below.refl _ _).alloc (Nat.le_refl _) _)
  have K0 : Hid (Cels W0 w.heap.size 92 [.int .i64 0, .int .i64 0]) := Lib.hid (by rw [hW0]; exact Cels.new _ _ _)
  have HW0 := Lib.hid hW0.symm
  have HTab := Lib.hid (ht.below HB0.out (Nat.le_refl _))
  have HErr := Lib.hid (he.below HB0.out (Nat.le_refl _))
  have HCut := Lib.hid (implCut s 47 ⟨#[47]⟩ W0 hs rfl (hm.below HB0.out (Nat.le_refl _)))
  obtain ⟨up, hup⟩ : ∃ u, u = bs (Lib.cut s.data.toList [47]).1 := ⟨_, rfl⟩
  obtain ⟨dn, hdn⟩ : ∃ u, u = bs (Lib.cut s.data.toList [47]).2.1 := ⟨_, rfl⟩
  have HUp := Lib.hid hup
  have HDn := Lib.hid hdn
  have HSu : Hid (up.size ≤ 1048576) := Lib.hid (by
    have h2 := Lib.size_eq s
    rcases cut_pcs 47 s.data.toList with ⟨_, _, e⟩ | ⟨a, b, _, e2, _, e⟩
    · rw [hup, e, bs_size]; show s.data.toList.length ≤ _; omega
    · rw [hup, e, bs_size]; rw [e2] at h2; simp at h2; show a.length ≤ _; omega)
  have HSd : Hid (dn.size ≤ 1048576) := Lib.hid (by
    have h2 := Lib.size_eq s
    rcases cut_pcs 47 s.data.toList with ⟨_, _, e⟩ | ⟨a, b, _, e2, _, e⟩
    · rw [hdn, e, bs_size]; simp
    · rw [hdn, e, bs_size]; rw [e2] at h2; simp at h2; show b.length ≤ _; omega)
  obtain ⟨x, hx⟩ : ∃ x, x = valL up.data.toList := ⟨_, rfl⟩
  obtain ⟨y, hy⟩ : ∃ x, x = valL dn.data.toList := ⟨_, rfl⟩
  have HX := Lib.hid hx
  have HY := Lib.hid hy
  have HN : Hid (NumOk up.data.toList ∧ NumOk dn.data.toList ∧ fcV s.data.toList = ⟨x, y⟩) := Lib.hid (by
    obtain ⟨a, b, e, ha, hb, hv⟩ := h.parts
    rcases cut_pcs 47 s.data.toList with ⟨_, e1, _⟩ | ⟨a', b', hna, e2, e3, e4⟩
    · rw [e1] at e; cases e
    · rw [e3] at e
      simp only [List.cons.injEq] at e
      obtain ⟨rfl, e5⟩ := e
      have hb' : 47 ∉ b' := fun hm => by have := pcs_two 47 b' hm; rw [e5] at this; simp at this
      rw [pcs_no 47 b' hb'] at e5
      simp only [List.cons.injEq, and_true] at e5
      subst e5
      rw [hx, hy, hup, hdn, e4, bs_list, bs_list]
      exact ⟨ha, hb, hv⟩)
  clear h ht he hm hs hup hdn hx hy hW0
  rw [HN.out.2.2]
  show Calls _ _ _ _ fun e w' => e = .returned (.agg #[.int .i64 x, .int .i64 y]) ∧ Below w.heap.size w w'
  go_enter Tryd.func64, Tryd.ntmps64
  go_wp2_with fail
  rw [HW0.out]
  refine HCut.out.mono ?_
  rintro e w1 ⟨rfl, hb1⟩
  rw [← HUp.out, ← HDn.out]
  have HB1 := Lib.hid hb1
  clear hb1
  go_wp2_with fail
  refine (implNumY up _ HSu.out (HTab.out.below HB1.out (Nat.le_refl _)) (HErr.out.below HB1.out (Nat.le_refl _)) HN.out.1).mono ?_
  rintro e w2 ⟨rfl, hb2⟩
  rw [← HX.out]
  have HB2 := Lib.hid (HB1.out.trans (hb2.mono HB1.out.size))
  clear hb2
  go_wp2_with fail
  refine (implNumY dn _ HSd.out (HTab.out.below HB2.out (Nat.le_refl _)) (HErr.out.below HB2.out (Nat.le_refl _)) HN.out.2.1).mono ?_
  rintro e w3 ⟨rfl, hb3⟩
  rw [← HY.out]
  have HB3 := Lib.hid (HB2.out.trans (hb3.mono HB2.out.size))
  have K3 := Lib.hid (K0.out.below HB3.out K0.out.lt)
  have r2 := K3.out.set 0 (.int .i64 x)
  have f1 := K3.out.cell 0 rfl
  have f2 := K3.out.frozen 0
  have f3 := r2.cell 1 rfl
  have f4 := r2.frozen 1
  have F7 := Lib.hid (r2.set 1 (.int .i64 y))
  have HBf : Hid (Below w.heap.size w ((w3.setCell ⟨w.heap.size, 0, none⟩ (.int .i64 x)).setCell ⟨w.heap.size, 1, none⟩ (.int .i64 y))) := Lib.hid (below_set (below_set (HB0.out.trans (HB3.out.mono HB0.out.size)) (Nat.le_refl _) _ _) (Nat.le_refl _) _ _)
  clear hb3 r2
  go_wp2
  obtain ⟨Wf, hWf⟩ : ∃ Wf, Wf = (w3.setCell ⟨w.heap.size, 0, none⟩ (.int .i64 x)).setCell ⟨w.heap.size, 1, none⟩ (.int .i64 y) := ⟨_, rfl⟩
  have f7 := F7.out
  have hB := HBf.out
  rw [← hWf] at f7 hB ⊢
  have z0 := f7.cell 0 rfl
  have z1 := f7.cell 1 rfl
  clear f1 f2 f3 f4 hWf
  refine bodyPost_ret (v := .agg #[.int .i64 x, .int .i64 y]) (by simp [results, Tryd.f64, go_sem, z0, z1]) rfl ⟨rfl, hB⟩
set_option maxHeartbeats 4000000 in
theorem implFrInN (s : ByteArray) (w : World) (hs : s.size ≤ 1048576) (ht : TabV w) (he : ErrV w) (hm : MaxV w) (h : ¬ fcOne s.data.toList) :
    Calls Tryd.prog 64 #[.string s] w fun e w' => e = .panicked [gaveUp 8] ∧ Below w.heap.size w w' := by
  obtain ⟨W0, hW0⟩ : ∃ W, W = w.alloc (Obj.cells #[.int .i64 0, .int .i64 0] 92) := ⟨_, rfl⟩
  have HB0 : Hid (Below w.heap.size w W0) := Lib.hid (by rw [hW0]; exact (Below.refl _ _).alloc (Nat.le_refl _) _)
  have K0 : Hid (Cels W0 w.heap.size 92 [.int .i64 0, .int .i64 0]) := Lib.hid (by rw [hW0]; exact Cels.new _ _ _)
  have HW0 := Lib.hid hW0.symm
  have HTab := Lib.hid (ht.below HB0.out (Nat.le_refl _))
  have HErr := Lib.hid (he.below HB0.out (Nat.le_refl _))
  have HCut := Lib.hid (implCut s 47 ⟨#[47]⟩ W0 hs rfl (hm.below HB0.out (Nat.le_refl _)))
  obtain ⟨up, hup⟩ : ∃ u, u = bs (Lib.cut s.data.toList [47]).1 := ⟨_, rfl⟩
  obtain ⟨dn, hdn⟩ : ∃ u, u = bs (Lib.cut s.data.toList [47]).2.1 := ⟨_, rfl⟩
  have HUp := Lib.hid hup
  have HDn := Lib.hid hdn
  have HSu : Hid (up.size ≤ 1048576) := Lib.hid (by
    have h2 := Lib.size_eq s
    rcases cut_pcs 47 s.data.toList with ⟨_, _, e⟩ | ⟨a, b, _, e2, _, e⟩
    · rw [hup, e, bs_size]; show s.data.toList.length ≤ _; omega
    · rw [hup, e, bs_size]; rw [e2] at h2; simp at h2; show a.length ≤ _; omega)
  have HSd : Hid (dn.size ≤ 1048576) := Lib.hid (by
    have h2 := Lib.size_eq s
    rcases cut_pcs 47 s.data.toList with ⟨_, _, e⟩ | ⟨a, b, _, e2, _, e⟩
    · rw [hdn, e, bs_size]; simp
    · rw [hdn, e, bs_size]; rw [e2] at h2; simp at h2; show b.length ≤ _; omega)
  have HBadN : Hid (NumOk up.data.toList → ¬ NumOk dn.data.toList) := Lib.hid (fun hu hd => by
    rw [hup, bs_list] at hu
    rw [hdn, bs_list] at hd
    rcases cut_pcs 47 s.data.toList with ⟨_, e1, e2⟩ | ⟨a', b', hna, e2, e3, e4⟩
    · rw [e2] at hd; exact num_empty hd
    · rw [e4] at hu hd
      have hb' : 47 ∉ b' := fun hm => by
        rcases num_mem hd hm with h | h
        · cases h
        · have : (47 : UInt8).toNat = 47 := rfl
          omega
      rw [pcs_no 47 b' hb'] at e3
      exact h (fcOne_of e3 hu hd))
  have HB0' := Lib.hid HB0.out.size
  clear h ht he hm hs hup hdn hW0
  by_cases hu : NumOk up.data.toList
  rotate_left
  · have HNu := Lib.hid hu
    clear hu
    go_enter Tryd.func64, Tryd.ntmps64
    go_wp2_with fail
    rw [HW0.out]
    refine HCut.out.mono ?_
    rintro e w1 ⟨rfl, hb1⟩
    rw [← HUp.out, ← HDn.out]
    have HB1 := Lib.hid hb1
    clear hb1
    go_wp2_with fail
    refine (implNumN up _ HSu.out (HTab.out.below HB1.out (Nat.le_refl _)) (HErr.out.below HB1.out (Nat.le_refl _)) HNu.out).mono ?_
    rintro e w2 ⟨rfl, hb2⟩
    have HB2 := Lib.hid (HB0.out.trans ((HB1.out.trans (hb2.mono HB1.out.size)).mono HB0.out.size))
    clear hb2
    go_wp2
    exact ⟨rfl, rfl, HB2.out⟩
  have HNu := Lib.hid hu
  have HNd := Lib.hid (HBadN.out hu)
  obtain ⟨x, hx⟩ : ∃ x, x = valL up.data.toList := ⟨_, rfl⟩
  have HX := Lib.hid hx
  clear hu hx
  go_enter Tryd.func64, Tryd.ntmps64
  go_wp2_with fail
  rw [HW0.out]
  refine HCut.out.mono ?_
  rintro e w1 ⟨rfl, hb1⟩
  rw [← HUp.out, ← HDn.out]
  have HB1 := Lib.hid hb1
  clear hb1
  go_wp2_with fail
  refine (implNumY up _ HSu.out (HTab.out.below HB1.out (Nat.le_refl _)) (HErr.out.below HB1.out (Nat.le_refl _)) HNu.out).mono ?_
  rintro e w2 ⟨rfl, hb2⟩
  rw [← HX.out]
  have HB2 := Lib.hid (HB1.out.trans (hb2.mono HB1.out.size))
  clear hb2
  go_wp2_with fail
  refine (implNumN dn _ HSd.out (HTab.out.below HB2.out (Nat.le_refl _)) (HErr.out.below HB2.out (Nat.le_refl _)) HNd.out).mono ?_
  rintro e w3 ⟨rfl, hb3⟩
  have HB3 := Lib.hid (HB0.out.trans ((HB2.out.trans (hb3.mono HB2.out.size)).mono HB0.out.size))
  clear hb3
  go_wp2
  exact ⟨rfl, rfl, HB3.out⟩
set_option maxHeartbeats 4000000 in
theorem mapFrY (v : Value) (ts : List (List UInt8)) (w : World) (hr : RdS w v ts) (hp : ∀ j, j < ts.length → (ts.getD j []).length ≤ 1048576) (hl : ts.length ≤ 1048577) (ht : TabV w) (he : ErrV w) (hm : MaxV w) (h : AllFc ts) :
    Calls Tryd.prog 63 #[v, .func (Fn.func 64) #[] #[]] w fun e w' => ∃ u, e = .returned u ∧ OwFra w' w.heap.size w'.heap.size u (ts.map fcV) ∧ Below w.heap.size w w' := by
  have HTab := Lib.hid ht
  have HErr := Lib.hid he
  have HMax := Lib.hid hm
  have HPz := Lib.hid hp
  have HLn := Lib.hid hl
  have HAll := Lib.hid h
  obtain ⟨b, c, rfl, hcap, hbl, hcell⟩ := hr
  have HC := Lib.hid hcell
  clear ht he hm hp hl h hcell
  go_enter Tryd.func63, Tryd.ntmps63
  go_wp2
  go_loopw [5, 10] (fun o i wr => ∃ (k : Nat), k ≤ ts.length ∧ i = .int .i64 (k : Int) ∧ (∀ j, j < k → fcOne (ts.getD j [])) ∧ OwFra wr w.heap.size wr.heap.size o ((ts.take k).map fcV) ∧ Below w.heap.size w wr) (fun _ i _ => ts.length - (intOf i).toNat)
  case atStart => exact ⟨0, Nat.zero_le _, rfl, fun j hj => by omega, OwFra.emptyUp (Nat.le_refl _), Below.refl _ _⟩
  case round =>
    obtain ⟨k, hk, rfl, hall, hown, hbel⟩ := hrel
    obtain ⟨go, co, hso⟩ := hown.shape
    have HA := Lib.hid hall
    have HW := Lib.hid hbel
    have HO := Lib.hid hown
    by_cases hlt : k < ts.length
    · obtain ⟨n, hn⟩ : ∃ n, n = ((ts.take k).map fcV).length := ⟨_, rfl⟩
      rw [← hn] at hso
      subst hso
      obtain ⟨t, ht⟩ : ∃ t, t = ts.getD k [] := ⟨_, rfl⟩
      have hc : wr.cell? ⟨b, k, none⟩ = some (.string (bs t)) := by rw [ht]; exact (hbel.cell hbl).trans (HC.out k hlt)
      have i0' : (0 : Int) ≤ (k : Int) := by omega
      have i1 : (k : Int) < (ts.length : Int) := by omega
      have HT := Lib.hid ht
      have HSz : Hid ((bs t).size ≤ 1048576) := Lib.hid (by rw [bs_size, ht]; exact HPz.out k hlt)
      have hln8 := HLn.out
      have hone : fcOne (bs t).data.toList := by rw [bs_list, ht]; exact HAll.out k hlt
      have HOne : Hid (fcOne t) := Lib.hid (by rw [bs_list] at hone; exact hone)
      obtain ⟨r, hr⟩ : ∃ r, r = fcV (bs t).data.toList := ⟨_, rfl⟩
      have HR := Lib.hid hr
      have HRt : Hid (r = fcV t) := Lib.hid (by rw [hr, bs_list])
      obtain ⟨x, y⟩ := r
      have HFit : Hid ((⟨x, y⟩ : Fra).fit) := Lib.hid (by rw [HRt.out]; exact fcOne.fit HOne.out)
      have HSn : Hid ((ts.take (k + 1)).map fcV = (ts.take k).map fcV ++ [⟨x, y⟩]) := Lib.hid (by rw [map_takeS fcV ts k hlt, ← HT.out, HRt.out])
      have HAn : Hid (∀ j, j < k + 1 → fcOne (ts.getD j [])) := Lib.hid (all_takeS HA.out (by rw [← HT.out]; exact HOne.out))
      have HNm := Lib.hid hone
      clear hbel ht hr hone hall hown hn
      go_wp2_with fail
      refine (implFrInY (bs t) _ HSz.out (HTab.out.below HW.out (Nat.le_refl _)) (HErr.out.below HW.out (Nat.le_refl _)) (HMax.out.below HW.out (Nat.le_refl _)) HNm.out).mono ?_
      rintro e w2 ⟨rfl, hb2⟩
      rw [← HR.out]
      show (_ : Prop)
      dsimp only [Fra.agg]
      have HO2 := Lib.hid (HO.out.below hb2 (Nat.le_refl _)).up
      have HW2 := Lib.hid (HW.out.trans (hb2.mono HW.out.size))
      clear hb2
      obtain ⟨Z, hZ⟩ : ∃ Z, Z = (ts.take k).map fcV := ⟨_, rfl⟩
      have hor := HO2.out
      rw [← hZ] at hor
      have HOR := Lib.hid hor
      have HZ := Lib.hid hZ
      have hlz : Z.length ≤ 1048577 := by rw [hZ]; simp; omega
      have hb6 : ∀ ob : Obj, Hid (Below w2.heap.size w2 (w2.alloc ob)) := fun ob => Lib.hid ((Below.refl _ _).alloc (Nat.le_refl _) ob)
      clear hor hZ
      go_wp2_with (at_builtin; refine wpList_append_Fra rfl _ _ rfl w.heap.size _ _ Z [⟨x, y⟩] rfl (HOR.out.below (hb6 _).out (Nat.le_refl _)).row rfl (rdFra_one (Cels.new _ _ _) HFit.out) (by simp; omega) (Nat.le_trans HOR.out.base (hb6 _).out.size) ?_)
      intro v5 w5 hown6 hgrow6
      have HX := Lib.hid (HOR.out.snoc HFit.out (by omega) (by simpa [csFra_append, csFra_cons, Fra.cs] using hown6) hgrow6)
      have HB6 := Lib.hid (HW2.out.trans (HX.out.2.mono (Nat.le_refl _)))
      clear hown6 hgrow6
      go_wp2
      go_roundw
      case rel => exact ⟨k + 1, by omega, by go_num, HAn.out, by rw [HSn.out, ← HZ.out]; exact HX.out.1, HB6.out⟩
      case measure => simp [intOf]; omega
    · obtain rfl : k = ts.length := by omega
      have hnlt : ¬ ((ts.length : Int) < (ts.length : Int)) := by omega
      have ho5 := HO.out
      rw [List.take_length] at ho5
      have HO5 := Lib.hid ho5
      clear hlt hbel hown hall hso ho5
      go_wp2
      go_ret
      exact ⟨_, rfl, HO5.out, HW.out⟩
set_option maxHeartbeats 4000000 in
theorem mapFrN (v : Value) (ts : List (List UInt8)) (w : World) (hr : RdS w v ts) (hp : ∀ j, j < ts.length → (ts.getD j []).length ≤ 1048576) (hl : ts.length ≤ 1048577) (ht : TabV w) (he : ErrV w) (hm : MaxV w) (h : ¬ AllFc ts) :
    Calls Tryd.prog 63 #[v, .func (Fn.func 64) #[] #[]] w fun e w' => e = .panicked [gaveUp 8] ∧ Below w.heap.size w w' := by
  have HTab := Lib.hid ht
  have HErr := Lib.hid he
  have HMax := Lib.hid hm
  have HPz := Lib.hid hp
  have HLn := Lib.hid hl
  have HAll := Lib.hid h
  obtain ⟨b, c, rfl, hcap, hbl, hcell⟩ := hr
  have HC := Lib.hid hcell
  clear ht he hm hp hl h hcell
  go_enter Tryd.func63, Tryd.ntmps63
  go_wp2
  go_loopw [5, 10] (fun o i wr => ∃ (k : Nat), k ≤ ts.length ∧ i = .int .i64 (k : Int) ∧ (∀ j, j < k → fcOne (ts.getD j [])) ∧ OwFra wr w.heap.size wr.heap.size o ((ts.take k).map fcV) ∧ Below w.heap.size w wr) (fun _ i _ => ts.length - (intOf i).toNat)
  case atStart => exact ⟨0, Nat.zero_le _, rfl, fun j hj => by omega, OwFra.emptyUp (Nat.le_refl _), Below.refl _ _⟩
  case round =>
    obtain ⟨k, hk, rfl, hall, hown, hbel⟩ := hrel
    obtain ⟨go, co, hso⟩ := hown.shape
    have HA := Lib.hid hall
    have HW := Lib.hid hbel
    have HO := Lib.hid hown
    by_cases hlt : k < ts.length
    · obtain ⟨n, hn⟩ : ∃ n, n = ((ts.take k).map fcV).length := ⟨_, rfl⟩
      rw [← hn] at hso
      subst hso
      obtain ⟨t, ht⟩ : ∃ t, t = ts.getD k [] := ⟨_, rfl⟩
      have hc : wr.cell? ⟨b, k, none⟩ = some (.string (bs t)) := by rw [ht]; exact (hbel.cell hbl).trans (HC.out k hlt)
      have i0' : (0 : Int) ≤ (k : Int) := by omega
      have i1 : (k : Int) < (ts.length : Int) := by omega
      have HT := Lib.hid ht
      have HSz : Hid ((bs t).size ≤ 1048576) := Lib.hid (by rw [bs_size, ht]; exact HPz.out k hlt)
      have hln8 := HLn.out
      by_cases hone : fcOne (bs t).data.toList
      rotate_left
      · have HNo := Lib.hid hone
        clear hbel ht hone hall hown hn
        go_wp2_with fail
        refine (implFrInN (bs t) _ HSz.out (HTab.out.below HW.out (Nat.le_refl _)) (HErr.out.below HW.out (Nat.le_refl _)) (HMax.out.below HW.out (Nat.le_refl _)) HNo.out).mono ?_
        rintro e w2 ⟨rfl, hb2⟩
        have HW2 := Lib.hid (HW.out.trans (hb2.mono HW.out.size))
        clear hb2
        go_wp2
        exact ⟨rfl, rfl, HW2.out⟩
      have HOne : Hid (fcOne t) := Lib.hid (by rw [bs_list] at hone; exact hone)
      obtain ⟨r, hr⟩ : ∃ r, r = fcV (bs t).data.toList := ⟨_, rfl⟩
      have HR := Lib.hid hr
      have HRt : Hid (r = fcV t) := Lib.hid (by rw [hr, bs_list])
      obtain ⟨x, y⟩ := r
      have HFit : Hid ((⟨x, y⟩ : Fra).fit) := Lib.hid (by rw [HRt.out]; exact fcOne.fit HOne.out)
      have HSn : Hid ((ts.take (k + 1)).map fcV = (ts.take k).map fcV ++ [⟨x, y⟩]) := Lib.hid (by rw [map_takeS fcV ts k hlt, ← HT.out, HRt.out])
      have HAn : Hid (∀ j, j < k + 1 → fcOne (ts.getD j [])) := Lib.hid (all_takeS HA.out (by rw [← HT.out]; exact HOne.out))
      have HNm := Lib.hid hone
      clear hbel ht hr hone hall hown hn
      go_wp2_with fail
      refine (implFrInY (bs t) _ HSz.out (HTab.out.below HW.out (Nat.le_refl _)) (HErr.out.below HW.out (Nat.le_refl _)) (HMax.out.below HW.out (Nat.le_refl _)) HNm.out).mono ?_
      rintro e w2 ⟨rfl, hb2⟩
      rw [← HR.out]
      show (_ : Prop)
      dsimp only [Fra.agg]
      have HO2 := Lib.hid (HO.out.below hb2 (Nat.le_refl _)).up
      have HW2 := Lib.hid (HW.out.trans (hb2.mono HW.out.size))
      clear hb2
      obtain ⟨Z, hZ⟩ : ∃ Z, Z = (ts.take k).map fcV := ⟨_, rfl⟩
      have hor := HO2.out
      rw [← hZ] at hor
      have HOR := Lib.hid hor
      have HZ := Lib.hid hZ
      have hlz : Z.length ≤ 1048577 := by rw [hZ]; simp; omega
      have hb6 : ∀ ob : Obj, Hid (Below w2.heap.size w2 (w2.alloc ob)) := fun ob => Lib.hid ((Below.refl _ _).alloc (Nat.le_refl _) ob)
      clear hor hZ
      go_wp2_with (at_builtin; refine wpList_append_Fra rfl _ _ rfl w.heap.size _ _ Z [⟨x, y⟩] rfl (HOR.out.below (hb6 _).out (Nat.le_refl _)).row rfl (rdFra_one (Cels.new _ _ _) HFit.out) (by simp; omega) (Nat.le_trans HOR.out.base (hb6 _).out.size) ?_)
      intro v5 w5 hown6 hgrow6
      have HX := Lib.hid (HOR.out.snoc HFit.out (by omega) (by simpa [csFra_append, csFra_cons, Fra.cs] using hown6) hgrow6)
      have HB6 := Lib.hid (HW2.out.trans (HX.out.2.mono (Nat.le_refl _)))
      clear hown6 hgrow6
      go_wp2
      go_roundw
      case rel => exact ⟨k + 1, by omega, by go_num, HAn.out, by rw [HSn.out, ← HZ.out]; exact HX.out.1, HB6.out⟩
      case measure => simp [intOf]; omega
    · exact absurd (fun j hj => HA.out j (by omega)) HAll.out
theorem clRfY (sb : Nat) (s : ByteArray) (w : World) (hc : Cels w sb 9 [.string s]) (hs : s.size ≤ 1048576) (ht : TabV w) (he : ErrV w) (hm : MaxV w) (h : AllFc (pcs 32 s.data.toList)) :
    Calls Tryd.prog 62 #[.pointer (some ⟨sb, 0, none⟩)] w fun e w' => ∃ v, e = .returned v ∧ OwFra w' w.heap.size w'.heap.size v ((pcs 32 s.data.toList).map fcV) ∧ Below w.heap.size w w' := by
  have k0 := hc.cell 0 rfl
  have HSm := Lib.hid (pcs_small 32 s hs)
  have HSp := Lib.hid (implSplit s 32 ⟨#[32]⟩ w hs rfl hm)
  have HTab := Lib.hid ht
  have HErr := Lib.hid he
  have HMax := Lib.hid hm
  have HA := Lib.hid h
  clear hc hs ht he hm h
  go_enter Tryd.func62, Tryd.ntmps62
  go_wp2_with fail
  refine HSp.out.mono ?_
  rintro e w1 ⟨u, rfl, hr, hb1⟩
  have HR := Lib.hid hr
  have HB1 := Lib.hid hb1
  obtain ⟨b, c, rfl, _, _, _⟩ := hr
  clear hb1
  go_wp2_with fail
  refine (mapFrY _ _ _ HR.out HSm.out.1 HSm.out.2 (HTab.out.below HB1.out (Nat.le_refl _)) (HErr.out.below HB1.out (Nat.le_refl _)) (HMax.out.below HB1.out (Nat.le_refl _)) HA.out).mono ?_
  rintro e w2 ⟨v, rfl, ho, hb2⟩
  have HO := Lib.hid (ho.mono HB1.out.size (Nat.le_refl _) (Nat.le_refl _))
  have HB2 := Lib.hid (HB1.out.trans (hb2.mono HB1.out.size))
  clear ho hb2
  go_wp2
  go_ret
  exact ⟨_, rfl, HO.out, HB2.out⟩
theorem clRfN (sb : Nat) (s : ByteArray) (w : World) (hc : Cels w sb 9 [.string s]) (hs : s.size ≤ 1048576) (ht : TabV w) (he : ErrV w) (hm : MaxV w) (h : ¬ AllFc (pcs 32 s.data.toList)) :
    Calls Tryd.prog 62 #[.pointer (some ⟨sb, 0, none⟩)] w fun e w' => e = .panicked [gaveUp 8] ∧ Below w.heap.size w w' := by
  have k0 := hc.cell 0 rfl
  have HSm := Lib.hid (pcs_small 32 s hs)
  have HSp := Lib.hid (implSplit s 32 ⟨#[32]⟩ w hs rfl hm)
  have HTab := Lib.hid ht
  have HErr := Lib.hid he
  have HMax := Lib.hid hm
  have HA := Lib.hid h
  clear hc hs ht he hm h
  go_enter Tryd.func62, Tryd.ntmps62
  go_wp2_with fail
  refine HSp.out.mono ?_
  rintro e w1 ⟨u, rfl, hr, hb1⟩
  have HR := Lib.hid hr
  have HB1 := Lib.hid hb1
  obtain ⟨b, c, rfl, _, _, _⟩ := hr
  clear hb1
  go_wp2_with fail
  refine (mapFrN _ _ _ HR.out HSm.out.1 HSm.out.2 (HTab.out.below HB1.out (Nat.le_refl _)) (HErr.out.below HB1.out (Nat.le_refl _)) (HMax.out.below HB1.out (Nat.le_refl _)) HA.out).mono ?_
  rintro e w2 ⟨rfl, hb2⟩
  have HB2 := Lib.hid (HB1.out.trans (hb2.mono HB1.out.size))
  clear hb2
  go_wp2
  exact ⟨rfl, rfl, HB2.out⟩
set_option maxRecDepth 100000 in
set_option maxHeartbeats 4000000 in
theorem implReadFr (s : ByteArray) (w : World) (hs : s.size ≤ 1048576) (ht : TabV w) (he : ErrV w) (hm : MaxV w) :
    Calls Tryd.prog 27 #[.string s] w fun e w' => ∃ u, e = .returned (.tuple #[u, .bool (rfB s.data.toList)]) ∧ OwFra w' w.heap.size w'.heap.size u (rfV s.data.toList) ∧ Below w.heap.size w w' := by
  have hmf : ∀ (fn : Fn) (first cap : Array Value) (w : World), (Instr.makeFunc fn first cap).run Tryd.prog w = .ok (.func fn first cap) w := fun _ _ _ _ => rfl
  obtain ⟨l, hl⟩ : ∃ l, l = s.data.toList := ⟨_, rfl⟩
  have HL := Lib.hid hl
  obtain ⟨W0, hW0⟩ : ∃ W, W = w.alloc (Obj.cells #[.string s] 9) := ⟨_, rfl⟩
  have HB0 : Hid (Below w.heap.size w W0) := Lib.hid (by rw [hW0]; exact (Below.refl _ _).alloc (Nat.le_refl _) _)
  have KS : Hid (Cels W0 w.heap.size 9 [.string s]) := Lib.hid (by rw [hW0]; exact Cels.new _ _ _)
  have HTab := Lib.hid (ht.below HB0.out (Nat.le_refl _))
  have HErr := Lib.hid (he.below HB0.out (Nat.le_refl _))
  have HMax := Lib.hid (hm.below HB0.out (Nat.le_refl _))
  have HW0 := Lib.hid hW0.symm
  have HS := Lib.hid hs
  have HUp : Hid (∀ W, Below (W0.heap.size + 1) (W0.alloc (.cells #[.nilIface] 73)) W → Below W0.heap.size W0 W) := Lib.hid (fun W hW => ((Below.refl W0.heap.size W0).alloc (Nat.le_refl _) _).trans (hW.mono (Nat.le_succ _)))
  rw [← hl]
  clear ht he hm hs hl hW0
  by_cases hall : AllFc (pcs 32 l)
  rotate_left
  · have HF := Lib.hid (rf_bad (l := l) (fun h => hall h.1))
    have HC := Lib.hid (attNRdF (.pointer (some ⟨w.heap.size, 0, none⟩)) 8 W0 (fun W hW => (clRfN w.heap.size s W (KS.out.below (HUp.out W hW) KS.out.lt) HS.out (HTab.out.below (HUp.out W hW) (Nat.le_refl _)) (HErr.out.below (HUp.out W hW) (Nat.le_refl _)) (HMax.out.below (HUp.out W hW) (Nat.le_refl _)) (by rw [← HL.out]; exact hall)).mono (fun e W' h => ⟨h.1, h.2.mono (by have := hW.size; simp at this; omega)⟩)))
    clear hall
    go_enter Tryd.func27, Tryd.ntmps27
    go_wp2_with fail
    rw [HW0.out]
    refine HC.out.mono ?_
    rintro e w1 ⟨rfl, hb1⟩
    have HB1 := Lib.hid (HB0.out.trans (hb1.mono HB0.out.size))
    clear hb1
    go_wp2
    go_ret2
    exact ⟨_, by rw [HF.out.1] <;> rfl, by rw [HF.out.2]; exact OwFra.emptyUp HB1.out.size, HB1.out⟩
  obtain ⟨ts, hts⟩ : ∃ ts, ts = pcs 32 l := ⟨_, rfl⟩
  have HTs := Lib.hid hts
  obtain ⟨zs, hzs⟩ : ∃ zs, zs = ts.map fcV := ⟨_, rfl⟩
  have HZs := Lib.hid hzs
  have HC := Lib.hid (attYRdF (.pointer (some ⟨w.heap.size, 0, none⟩)) (fun v W => OwFra W (W0.heap.size + 1) W.heap.size v zs) W0 (fun W hW => (clRfY w.heap.size s W (KS.out.below (HUp.out W hW) KS.out.lt) HS.out (HTab.out.below (HUp.out W hW) (Nat.le_refl _)) (HErr.out.below (HUp.out W hW) (Nat.le_refl _)) (HMax.out.below (HUp.out W hW) (Nat.le_refl _)) (by rw [← HL.out]; exact hall)).mono (fun e W' h => by
      obtain ⟨v, he, ho, hb⟩ := h
      have hsz : W0.heap.size + 1 ≤ W.heap.size := by have := hW.size; simp at this; omega
      rw [← HL.out, ← hts, ← hzs] at ho
      exact ⟨v, he, ho.mono hsz (Nat.le_refl _) (Nat.le_refl _), hb.mono hsz⟩))
    (fun v W hg _ => by
      have := hg.apartCell (g := W0.heap.size) (Nat.lt_succ_self _) 0 .nilIface
      simpa using this))
  have HAll := Lib.hid hall
  clear hall hts hzs
  go_enter Tryd.func27, Tryd.ntmps27
  go_wp2_with fail
  rw [HW0.out]
  refine HC.out.mono ?_
  rintro e w1 ⟨v, rfl, ho, hb1⟩
  have HB1 := Lib.hid (HB0.out.trans (hb1.mono HB0.out.size))
  have HO := Lib.hid ho
  obtain ⟨av, cv, hsh⟩ := ho.shape
  obtain ⟨n, hn⟩ : ∃ n, n = zs.length := ⟨_, rfl⟩
  rw [← hn] at hsh
  subst hsh
  obtain ⟨q, hq⟩ : ∃ q, q = frsB zs := ⟨_, rfl⟩
  have HQ := Lib.hid hq
  clear hb1 ho hn hq
  go_wp2_with fail
  refine (implValidFractions _ zs _ HO.out.rd).mono ?_
  rintro e w2 ⟨rfl, bb⟩
  rw [← HQ.out]
  have HB2 := Lib.hid (HB1.out.trans (bb.mono HB1.out.size))
  have HO2 := Lib.hid (HO.out.below bb (Nat.le_refl _)).up
  clear bb
  rcases eqOr q with hb | hb
  · subst hb
    have HF := Lib.hid (rf_bad (l := l) (fun h => by have := h.2; rw [← HTs.out, ← HZs.out, ← HQ.out] at this; cases this))
    go_wp2
    go_ret2
    exact ⟨_, by rw [HF.out.1] <;> rfl, by rw [HF.out.2]; exact OwFra.emptyUp HB2.out.size, HB2.out⟩
  subst hb
  have HF := Lib.hid (rf_good (l := l) ⟨HAll.out, by rw [← HTs.out, ← HZs.out]; exact HQ.out.symm⟩)
  go_wp2
  go_ret2
  exact ⟨_, by rw [HF.out.1] <;> rfl, by rw [HF.out.2, ← HTs.out, ← HZs.out]; exact HO2.out.mono (by have := HB0.out.size; omega) (Nat.le_refl _) (Nat.le_refl _), HB2.out⟩
end Go.Proofs.YtbifkjmmhfnblaaDoor.Ints
