/- A program read from a text, of the model: the whole. -/
import Derived.Test.YtbigoljfanendaaDoorPgV
import Derived.Test.YtbigoljfanendaaDoorInsL
namespace Go.Proofs.YtbigoljfanendaaDoor.Ints
open Go.RowKit
set_option linter.unusedVariables false
set_option linter.unusedSimpArgs false
theorem all_takeI {ts : List (List UInt8)} {k : Nat} (h : ∀ j, j < k → insOne (ts.getD j [])) (hk : insOne (ts.getD k [])) : ∀ j, j < k + 1 → insOne (ts.getD j []) := fun j hj => by
  by_cases he : j = k
  · subst he; exact hk
  · exact h j (by omega)
set_option maxRecDepth 100000 in
set_option maxHeartbeats 8000000 in
theorem specRead7 (s : ByteArray) (w : World) (hs : s.size ≤ 1048576) :
    Calls Tryd.prog 40 #[.string s] w fun e w' => ∃ u zs, e = .returned (.tuple #[u, .bool (rpB s.data.toList)]) ∧ OwIns w' w.heap.size w'.heap.size u zs ∧ (rpB s.data.toList = true → zs = rpV s.data.toList) ∧ Below w.heap.size w w' := by
  obtain ⟨l, hl⟩ : ∃ l, l = s.data.toList := ⟨_, rfl⟩
  rw [← hl]
  have HL := Lib.hid hl
  by_cases hd : s.toList = [46]
  · have HF := Lib.hid (rp_dot (l := l) (by rw [hl, ← ByteArray.toList_eq s]; exact hd))
    have e1 : (s.toList == [46]) = true := by simp [hd]
    have HO := Lib.hid (OwIns.made w)
    clear hd hl
    go_enter Tryd.func40, Tryd.ntmps40
    go_wp2
    go_ret2
    exact ⟨_, [], by rw [HF.out.1] <;> rfl, HO.out, fun _ => HF.out.2.symm, (Below.refl _ _).alloc (Nat.le_refl _) _⟩
  have e1 : (s.toList == [46]) = false := by simpa using hd
  have HDs : Hid (l ≠ [46]) := Lib.hid (by rw [hl, ← ByteArray.toList_eq s]; exact hd)
  obtain ⟨ts, hts⟩ : ∃ ts, ts = pcs 59 l := ⟨_, rfl⟩
  have HTs := Lib.hid hts
  have HSm := Lib.hid (pcs_small 59 s hs)
  rw [← hl, ← hts] at HSm
  have HBad : Hid (¬ rpOk ts → rpB l = false ∧ rpV l = []) := Lib.hid (fun h => rp_bad HDs.out (by rw [← hts]; exact h))
  have HSp := Lib.hid (specSplitC s 59 59 rfl (w.alloc (.cells #[] 74)) hs)
  have HBA : Hid (Below w.heap.size w (w.alloc (.cells #[] 74))) := Lib.hid ((Below.refl _ _).alloc (Nat.le_refl _) _)
  have HOM := Lib.hid (OwIns.made w)
  clear hl hts hs hd
  go_enter Tryd.func40, Tryd.ntmps40
  go_wp2_with fail
  refine HSp.out.mono ?_
  rintro e w1 ⟨u, rfl, hr, hb1⟩
  rw [← HL.out, ← HTs.out] at hr
  have HB1 := Lib.hid (HBA.out.trans (hb1.mono HBA.out.size))
  have HO1 := Lib.hid (HOM.out.below hb1 (Nat.le_refl _)).up
  obtain ⟨b, c, cs, rfl, hcap, hcels, hcell⟩ := hr
  have HC := Lib.hid hcell
  have HK := Lib.hid hcels
  clear hcell hb1 hcels
  go_wp2
  go_loopw [4, 6] (fun o i wr => ∃ (k : Nat), k ≤ ts.length ∧ i = .int .i64 (k : Int) ∧ (∀ j, j < k → insOne (ts.getD j [])) ∧ OwIns wr w.heap.size wr.heap.size o ((ts.take k).map insV) ∧ Cels wr b 9 cs ∧ Below w.heap.size w wr) (fun _ i _ => ts.length - (intOf i).toNat)
  case atStart => exact ⟨0, Nat.zero_le _, rfl, fun j hj => by omega, HO1.out, HK.out, HB1.out⟩
  case round =>
    obtain ⟨k, hk, rfl, hall, hown, hkr, hbel⟩ := hrel
    obtain ⟨go, co, hso⟩ := hown.shape
    have HA := Lib.hid hall
    have HBW := Lib.hid hbel
    have HKR := Lib.hid hkr
    have hln8 := HSm.out.2
    by_cases hlt : k < ts.length
    · have HO := Lib.hid hown
      obtain ⟨n, hn⟩ : ∃ n, n = ((ts.take k).map insV).length := ⟨_, rfl⟩
      rw [← hn] at hso
      subst hso
      obtain ⟨t, ht⟩ : ∃ t, t = ts.getD k [] := ⟨_, rfl⟩
      have hc : wr.cell? ⟨b, k, none⟩ = some (.string (bs t)) := by rw [ht]; exact hkr.cell k (HC.out k hlt)
      have i0' : (0 : Int) ≤ (k : Int) := by omega
      have i1 : (k : Int) < (ts.length : Int) := by omega
      have HT := Lib.hid ht
      have HSz : Hid ((bs t).size ≤ 1048576) := Lib.hid (by rw [bs_size, ht]; exact HSm.out.1 k hlt)
      have HNo : Hid (¬ insOne t → rpB l = false ∧ rpV l = []) := Lib.hid (fun h => HBad.out (fun h2 => h (by rw [HT.out]; exact h2.1 k hlt)))
      clear hbel ht hall hown hn hkr
      go_wp2_with fail
      refine (specOneI (bs t) _ HSz.out).mono ?_
      rintro e w2 ⟨r, q, rfl, hy, hno, bb⟩
      rw [bs_list] at hy hno
      have HY := Lib.hid hy
      have HN := Lib.hid hno
      have HO2 := Lib.hid (HO.out.below bb (Nat.le_refl _)).up
      have HK2 := Lib.hid (HKR.out.below bb HKR.out.lt)
      have HBW2 := Lib.hid (HBW.out.trans (bb.mono HBW.out.size))
      obtain ⟨kd, rg, th, el⟩ := r
      dsimp only
      clear bb hy hno
      rcases eqOr q with hb | hb
      · have HF := Lib.hid (HNo.out (HN.out hb))
        have HB3 : Hid (Below w.heap.size w (w2.alloc (Obj.cells #[.int .i64 kd, .int .i64 rg, .int .i64 th, .int .i64 el] 74))) := Lib.hid (HBW2.out.alloc HBW2.out.size _)
        subst hb
        go_wp2
        go_ret2
        exact ⟨_, (by rw [HF.out.1] <;> rfl), [], OwIns.emptyUp HB3.out.size, (fun h => by rw [HF.out.1] at h; cases h), HB3.out⟩
      have HOne : Hid (insOne t) := Lib.hid (HY.out hb).1
      have HVal : Hid ((⟨kd, rg, th, el⟩ : Ins) = insV t) := Lib.hid (HY.out hb).2
      subst hb
      have HFit : Hid ((⟨kd, rg, th, el⟩ : Ins).fit) := Lib.hid (by rw [HVal.out]; exact ins_fit HOne.out)
      have HSn : Hid ((ts.take (k + 1)).map insV = (ts.take k).map insV ++ [⟨kd, rg, th, el⟩]) := Lib.hid (by rw [map_takeS insV ts k hlt, ← HT.out, HVal.out])
      have HAn : Hid (∀ j, j < k + 1 → insOne (ts.getD j [])) := Lib.hid (all_takeI HA.out (by rw [← HT.out]; exact HOne.out))
      obtain ⟨Z, hZ⟩ : ∃ Z, Z = (ts.take k).map insV := ⟨_, rfl⟩
      have hor := HO2.out
      rw [← hZ] at hor
      have HOR := Lib.hid hor
      have HZ := Lib.hid hZ
      have hlz : Z.length ≤ 1048577 := by rw [hZ]; simp; omega
      have hb6 : ∀ ob ob' : Obj, Hid (Below w2.heap.size w2 ((w2.alloc ob).alloc ob')) := fun ob ob' => Lib.hid (((Below.refl _ _).alloc (Nat.le_refl _) ob).alloc (by simp) ob')
      have kl : Cels (w2.alloc (Obj.cells #[.int .i64 kd, .int .i64 rg, .int .i64 th, .int .i64 el] 74)) w2.heap.size 74 [.int .i64 kd, .int .i64 rg, .int .i64 th, .int .i64 el] := Cels.new _ _ _
      have m0 := kl.cell 0 rfl
      have m1 := kl.cell 1 rfl
      have m2 := kl.cell 2 rfl
      have m3 := kl.cell 3 rfl
      have kn : Cels ((w2.alloc (Obj.cells #[.int .i64 kd, .int .i64 rg, .int .i64 th, .int .i64 el] 74)).alloc (Obj.cells #[.int .i64 kd, .int .i64 rg, .int .i64 th, .int .i64 el] 74)) (w2.heap.size + 1) 74 (Ins.cs ⟨kd, rg, th, el⟩) := by
        have := Cels.new (w2.alloc (Obj.cells #[.int .i64 kd, .int .i64 rg, .int .i64 th, .int .i64 el] 74)) 74 [.int .i64 kd, .int .i64 rg, .int .i64 th, .int .i64 el]
        rwa [World.size_alloc] at this
      have KN := Lib.hid kn
      clear hor hZ kl kn
      go_wp2_with (at_builtin; refine wpList_append_Ins rfl _ _ rfl w.heap.size _ _ Z [⟨kd, rg, th, el⟩] rfl (HOR.out.below (hb6 _ _).out (Nat.le_refl _)).row rfl (rdIns_one KN.out HFit.out) (by simp; omega) (Nat.le_trans HOR.out.base (hb6 _ _).out.size) ?_)
      intro v5 w5 hown6 hgrow6
      have HX := Lib.hid ((HOR.out.below ((Below.refl _ _).alloc (Nat.le_refl _) _) HOR.out.size).up.snoc HFit.out (by omega) (by simpa [csIns_append, csIns_cons, Ins.cs] using hown6) hgrow6)
      have HB6 := Lib.hid ((HBW2.out.alloc HBW2.out.size _).trans HX.out.2)
      have HK6 : Hid (Cels w5 b 9 cs) := Lib.hid (((HK2.out.alloc (Obj.cells #[.int .i64 kd, .int .i64 rg, .int .i64 th, .int .i64 el] 74)).alloc (Obj.cells #[.int .i64 kd, .int .i64 rg, .int .i64 th, .int .i64 el] 74)).grown hgrow6 (fun e => (HOR.out.below (hb6 (Obj.cells #[.int .i64 kd, .int .i64 rg, .int .i64 th, .int .i64 el] 74) (Obj.cells #[.int .i64 kd, .int .i64 rg, .int .i64 th, .int .i64 el] 74)).out (Nat.le_refl _)).nblk ((HK2.out.alloc (Obj.cells #[.int .i64 kd, .int .i64 rg, .int .i64 th, .int .i64 el] 74)).alloc (Obj.cells #[.int .i64 kd, .int .i64 rg, .int .i64 th, .int .i64 el] 74)) (by decide) e))
      clear hown6 hgrow6 m0 m1 m2 m3
      go_wp2
      go_roundw
      case rel => exact ⟨k + 1, by omega, by go_num, HAn.out, by rw [HSn.out, ← HZ.out]; exact HX.out.1, HK6.out, HB6.out⟩
      case measure => simp [intOf]; omega
    · obtain rfl : k = ts.length := by omega
      have hnlt : ¬ ((ts.length : Int) < (ts.length : Int)) := by omega
      rw [List.take_length] at hown hso
      obtain ⟨Z, hZ⟩ : ∃ Z, Z = ts.map insV := ⟨_, rfl⟩
      rw [← hZ] at hown hso
      have HZ := Lib.hid hZ
      have HO := Lib.hid hown
      have hlz : Z.length = ts.length := by rw [hZ, List.length_map]
      rw [hlz] at hso
      subst hso
      have HAll : Hid (AllIns ts) := Lib.hid HA.out
      obtain ⟨q, hq⟩ : ∃ q, q = progB Z := ⟨_, rfl⟩
      have HQ := Lib.hid hq
      have HRp : Hid (rpB l = q) := Lib.hid (by
        rcases eqOr q with h | h
        · rw [h]; exact (HBad.out (fun h2 => by have := h2.2; rw [← HZ.out, ← HQ.out, h] at this; cases this)).1
        · rw [h]; exact (rp_good HDs.out (by rw [← HTs.out]; exact ⟨HAll.out, by rw [← HZ.out, ← HQ.out, h]⟩)).1)
      have HVv : Hid (rpB l = true → Z = rpV l) := Lib.hid (fun h => by
        rw [HRp.out] at h
        rw [(rp_good HDs.out (by rw [← HTs.out]; exact ⟨HAll.out, by rw [← HZ.out, ← HQ.out, h]⟩)).2, ← HTs.out, HZ.out])
      clear hlt hbel hq hZ hown hall hlz hkr
      go_wp2_with fail
      refine (specPIs _ Z _ HO.out.rd).mono ?_
      rintro e w2 ⟨rfl, bb⟩
      rw [← HQ.out]
      have HO3 := Lib.hid (HO.out.below bb (Nat.le_refl _)).up
      have HB3 := Lib.hid (HBW.out.trans (bb.mono HBW.out.size))
      clear bb
      go_wp2
      go_ret2
      exact ⟨_, Z, by rw [HRp.out] <;> rfl, HO3.out, HVv.out, HB3.out⟩
theorem specReadPg (s : ByteArray) (w : World) (hs : s.size ≤ 1048576) :
    Calls Tryd.prog 7 #[.string s] w fun e w' => ∃ u, e = .returned (.tuple #[u, .bool (rpB s.data.toList)]) ∧ OwIns w' w.heap.size w'.heap.size u (rpV s.data.toList) ∧ Below w.heap.size w w' := by
  obtain ⟨q, hq⟩ : ∃ q, q = rpB s.data.toList := ⟨_, rfl⟩
  have HQ := Lib.hid hq
  have HC := Lib.hid (specRead7 s w hs)
  clear hq hs
  go_enter Tryd.func7, Tryd.ntmps7
  go_wp2_with fail
  refine HC.out.mono ?_
  rintro e w1 ⟨u, zs, rfl, ho, hv, hb⟩
  rw [← HQ.out] at hv ⊢
  have HO := Lib.hid ho
  have HV := Lib.hid hv
  have HB := Lib.hid hb
  obtain ⟨a, c, hsh⟩ := ho.shape
  obtain ⟨n, hn⟩ : ∃ n, n = zs.length := ⟨_, rfl⟩
  rw [← hn] at hsh
  subst hsh
  clear ho hv hb hn
  rcases eqOr q with hb | hb
  · have HR : Hid (rpV s.data.toList = []) := Lib.hid (by
      by_cases h1 : s.data.toList = [46]
      · have := (rp_dot h1).1; rw [← HQ.out, hb] at this; cases this
      · by_cases h2 : rpOk (pcs 59 s.data.toList)
        · have := (rp_good h1 h2).1; rw [← HQ.out, hb] at this; cases this
        · exact (rp_bad h1 h2).2)
    subst hb
    go_wp2
    go_ret2
    exact ⟨_, by rw [← HQ.out] <;> rfl, by rw [HR.out]; exact OwIns.emptyUp HB.out.size, HB.out⟩
  have HE := Lib.hid (HV.out hb)
  subst hb
  go_wp2
  go_ret2
  exact ⟨_, by rw [← HQ.out] <;> rfl, by rw [← HE.out]; exact HO.out, HB.out⟩
end Go.Proofs.YtbigoljfanendaaDoor.Ints
