/- Cyclic tag systems read from texts, of the program. -/
import Derived.Test.YtbifkjmmhfnblaaDoorRcV
import Derived.Test.YtbifkjmmhfnblaaDoorMpN
import Derived.Test.YtbifkjmmhfnblaaDoorSplI
import Derived.Test.YtbifkjmmhfnblaaDoorAttCy
namespace Go.Proofs.YtbifkjmmhfnblaaDoor.Ints
open Go.RowKit
set_option linter.unusedVariables false
set_option linter.unusedSimpArgs false
def TwPost (t : List UInt8) (w : World) (e : Ending) (w' : World) : Prop :=
  ((twOk t ∧ ∃ u, e = .returned u ∧ Ow w' w.heap.size w'.heap.size u (twV t)) ∨ (¬ twOk t ∧ e = .panicked [gaveUp 8])) ∧ Below w.heap.size w w'
set_option maxHeartbeats 4000000 in
theorem implTwIn (s : ByteArray) (w : World) (hs : s.size ≤ 1048576) (ht : TabV w) (he : ErrV w) (hm : MaxV w) :
    Calls Tryd.prog 106 #[.string s] w (TwPost s.data.toList w) := by
  obtain ⟨l, hl⟩ : ∃ l, l = s.data.toList := ⟨_, rfl⟩
  rw [← hl]
  by_cases hd : s.toList = [45]
  · have hd2 : l = [45] := by rw [hl, ← ByteArray.toList_eq s]; exact hd
    have e1 : (s.toList == [45]) = true := by simp [hd]
    have HD := Lib.hid hd2
    clear hd hl hd2 ht he hm
    go_enter Tryd.func106, Tryd.ntmps106
    go_wp2
    refine bodyPost_ret (v := .slice none 0 0) (by simp [results, Tryd.f106, go_sem]) rfl ?_
    exact ⟨.inl ⟨.inl HD.out, _, rfl, by rw [HD.out, twV_dash]; exact Ow.empty w⟩, Below.refl _ _⟩
  have e1 : (s.toList == [45]) = false := by simpa using hd
  have HDs : Hid (l ≠ [45]) := Lib.hid (by rw [hl, ← ByteArray.toList_eq s]; exact hd)
  obtain ⟨ts, hts⟩ : ∃ ts, ts = pcs 46 l := ⟨_, rfl⟩
  have HSm := Lib.hid (pcs_small 46 s hs)
  have HSp := Lib.hid (implSplit s 46 ⟨#[46]⟩ w hs rfl hm)
  rw [← hl, ← hts] at HSm HSp
  have HV : Hid (twV l = ts.map valL) := Lib.hid (by rw [hts]; exact twV_pcs HDs.out)
  have HOk : Hid (twOk l ↔ AllNum ts) := Lib.hid ⟨fun h => by rcases h with h | h; exact absurd h HDs.out; rw [hts]; exact h, fun h => .inr (by rw [← hts]; exact h)⟩
  have HTab := Lib.hid ht
  have HErr := Lib.hid he
  clear hl hts hs hd ht he hm
  go_enter Tryd.func106, Tryd.ntmps106
  go_wp2_with fail
  refine HSp.out.mono ?_
  rintro e w1 ⟨u, rfl, hr, hb1⟩
  have HR := Lib.hid hr
  have HB1 := Lib.hid hb1
  obtain ⟨b, c, rfl, _, _, _⟩ := hr
  clear hb1
  by_cases hall : AllNum ts
  · have HA := Lib.hid hall
    clear hall
    go_wp2_with fail
    refine (mapNumY _ _ _ HR.out HSm.out.1 HSm.out.2 (HTab.out.below HB1.out (Nat.le_refl _)) (HErr.out.below HB1.out (Nat.le_refl _)) HA.out).mono ?_
    rintro e w2 ⟨v, rfl, ho, hb2⟩
    have HO := Lib.hid (ho.mono HB1.out.size (Nat.le_refl _) (Nat.le_refl _))
    have HB2 := Lib.hid (HB1.out.trans (hb2.mono HB1.out.size))
    clear ho hb2
    go_wp2
    refine bodyPost_ret (v := v) (by simp [results, Tryd.f106, go_sem]) rfl ?_
    exact ⟨.inl ⟨HOk.out.2 HA.out, _, rfl, by rw [HV.out]; exact HO.out⟩, HB2.out⟩
  · have HA := Lib.hid hall
    clear hall
    go_wp2_with fail
    refine (mapNumN _ _ _ HR.out HSm.out.1 HSm.out.2 (HTab.out.below HB1.out (Nat.le_refl _)) (HErr.out.below HB1.out (Nat.le_refl _)) HA.out).mono ?_
    rintro e w2 ⟨rfl, hb2⟩
    have HB2 := Lib.hid (HB1.out.trans (hb2.mono HB1.out.size))
    clear hb2
    go_wp2
    exact ⟨rfl, .inr ⟨fun h => HA.out (HOk.out.1 h), rfl⟩, HB2.out⟩
def MapTPost (ts : List (List UInt8)) (w : World) (e : Ending) (w' : World) : Prop :=
  ((AllTw ts ∧ ∃ u, e = .returned u ∧ OwQN w' w.heap.size w'.heap.size u (ts.map twV)) ∨ (¬ AllTw ts ∧ e = .panicked [gaveUp 8])) ∧ Below w.heap.size w w'
set_option maxRecDepth 100000 in
set_option maxHeartbeats 8000000 in
theorem mapTag (v : Value) (ts : List (List UInt8)) (w : World) (hr : RdS w v ts) (hp : ∀ j, j < ts.length → (ts.getD j []).length ≤ 1048576) (hl : ts.length ≤ 1048577) (hla : AllTw ts → ts.length ≤ 1048576) (ht : TabV w) (he : ErrV w) (hm : MaxV w) :
    Calls Tryd.prog 105 #[v, .func (Fn.func 106) #[] #[]] w (MapTPost ts w) := by
  obtain ⟨n0, hi, hz0, hz1, hz2⟩ := info_parts infoQ
  have HMax := Lib.hid hm
  have HTab := Lib.hid ht
  have HErr := Lib.hid he
  have HPz := Lib.hid hp
  have HLn := Lib.hid hl
  have HLa := Lib.hid hla
  obtain ⟨b, c, rfl, hcap, hbl, hcell⟩ := hr
  have HC := Lib.hid hcell
  clear hm hp hl hla ht he hcell
  go_enter Tryd.func105, Tryd.ntmps105
  go_wp2
  go_loopw [5, 10] (fun o i wr => ∃ (k : Nat) (ov : Value), o = ov ∧ k ≤ ts.length ∧ i = .int .i64 (k : Int) ∧ (∀ j, j < k → twOk (ts.getD j [])) ∧ GrQ wr w.heap.size ov ((ts.take k).map twV) ∧ Below w.heap.size w wr) (fun _ i _ => ts.length - (intOf i).toNat)
  case atStart => exact ⟨0, _, rfl, Nat.zero_le _, rfl, fun j hj => by omega, by simpa using GrQ.start w w.heap.size, Below.refl _ _⟩
  case round =>
    obtain ⟨k, ov, hov, hk, rfl, hall, hgr, hbel⟩ := hrel
    obtain rfl := hov.symm
    have HA := Lib.hid hall
    have HW := Lib.hid hbel
    have HGR := Lib.hid hgr
    have hln8 := HLn.out
    clear hall hgr
    by_cases hlt : k < ts.length
    · obtain ⟨t, ht⟩ : ∃ t, t = ts.getD k [] := ⟨_, rfl⟩
      have hc : wr.cell? ⟨b, k, none⟩ = some (.string (bs t)) := by rw [ht]; exact (hbel.cell hbl).trans (HC.out k hlt)
      have i0' : (0 : Int) ≤ (k : Int) := by omega
      have i1 : (k : Int) < (ts.length : Int) := by omega
      have HT := Lib.hid ht
      have HSz : Hid ((bs t).size ≤ 1048576) := Lib.hid (by rw [bs_size, ht]; exact HPz.out k hlt)
      clear hbel ht
      go_wp2_with fail
      refine (implTwIn (bs t) _ HSz.out (HTab.out.below HW.out (Nat.le_refl _)) (HErr.out.below HW.out (Nat.le_refl _)) (HMax.out.below HW.out (Nat.le_refl _))).mono ?_
      rintro e w2 ⟨⟨hone, u0, rfl, hp⟩ | ⟨hno, rfl⟩, hb2⟩
      rotate_left
      · have HNo : Hid (¬ AllTw ts) := Lib.hid (fun h => hno (by rw [bs_list, HT.out]; exact h k hlt))
        have HW2 := Lib.hid (HW.out.trans (hb2.mono HW.out.size))
        clear hb2 hno
        go_wp2
        exact ⟨rfl, .inr ⟨HNo.out, rfl⟩, HW2.out⟩
      rw [bs_list] at hone hp
      have HX2 := Lib.hid hb2
      clear hb2
      obtain ⟨ga, gc, hsa⟩ := hp.shape
      obtain ⟨n1, hn1⟩ : ∃ n, n = (twV t).length := ⟨_, rfl⟩
      rw [← hn1] at hsa
      subst hsa
      have HP := Lib.hid hp
      have HOne := Lib.hid hone
      have HSn : Hid ((ts.take (k + 1)).map twV = (ts.take k).map twV ++ [twV t]) := Lib.hid (by rw [map_takeS twV ts k hlt, ← HT.out])
      have HAn : Hid (∀ j, j < k + 1 → twOk (ts.getD j [])) := Lib.hid (all_takeT HA.out (by rw [← HT.out]; exact HOne.out))
      obtain ⟨cs, hown, hcop, hsq⟩ := HGR.out
      have HCO := Lib.hid hcop
      have HSQ := Lib.hid hsq
      have hlk : ((ts.take k).map twV).length = k := by simp; omega
      have HLK := Lib.hid hlk
      have hown1 : w2.ownsRow w.heap.size 22 1 ov k cs := by rw [hlk] at hown; exact ownQ_below hown HX2.out (Nat.le_refl _)
      have HOW := Lib.hid hown1
      have hsz := Nat.le_trans HW.out.size HX2.out.size
      clear hp hown hcop hsq hlk hn1 hone
      go_wp2_with (at_builtin; refine wpList_append_own _ rfl _ _ 51 rfl w.heap.size 22 n0 (.slice none 0 0) 1 24 Tryd.underlying51 hi hz0 hz1 hz2 rfl (by decide) _ _ _ rfl (hown1.alloc _) ⟨_, 0, none⟩ 1 1 [.slice ga n1 gc] rfl rfl ?c1 ?c2 ?c3 ?c4 ?c5 ?_)
      case c1 => exact cellNew1 _ _ _
      case c2 => intro u hu; simp at hu; subst hu; rfl
      case c3 => unfold maxLen; omega
      case c4 => omega
      case c5 => first | omega | (simp; omega)
      intro v' w5 hown2 hgrow _
      have HBA : Hid (Below wr.heap.size wr (w2.alloc (Obj.cells #[.slice ga n1 gc] 22))) := Lib.hid (HX2.out.alloc HX2.out.size _)
      have hbw : Below w2.heap.size w2 (w2.alloc (Obj.cells #[.slice ga n1 gc] 22)) := (Below.refl _ _).alloc (Nat.le_refl _) _
      have HG2 : Hid (GrQ w5 w.heap.size v' ((ts.take (k + 1)).map twV)) := Lib.hid (by
        rw [HSn.out]
        have hlk := HLK.out
        exact rowsQ_snoc (t := twV t) (w0 := wr) (w := w2.alloc (Obj.cells #[.slice ga n1 gc] 22)) HCO.out HSQ.out HBA.out HW.out.size (by rw [hlk]; exact HOW.out.alloc _) (HP.out.below hbw (Nat.le_refl _)).up hgrow (by rw [hlk]; exact hown2))
      have HBX := Lib.hid ((HW.out.trans (HBA.out.mono HW.out.size)).grown hgrow (by simp; omega) (fun q hq => (HOW.out.lt q hq).1))
      clear hown2 hgrow hown1 hbw
      go_wp2
      go_roundw
      case rel => exact ⟨k + 1, v', rfl, by omega, by go_num, HAn.out, HG2.out, HBX.out⟩
      case measure => simp [intOf]; omega
    · obtain rfl : k = ts.length := by omega
      have hnlt : ¬ ((ts.length : Int) < (ts.length : Int)) := by omega
      have HO5 : Hid (OwQN wr w.heap.size wr.heap.size ov (ts.map twV)) := Lib.hid (by
        have h1 := HGR.out
        rw [List.take_length] at h1
        exact h1.own (by rw [List.length_map]; exact HLa.out HA.out) HW.out.size)
      have HAll : Hid (AllTw ts) := Lib.hid HA.out
      clear hlt hbel
      go_wp2
      refine bodyPost_ret (v := ov) (by simp [results, Tryd.f105, go_sem]) rfl ?_
      exact ⟨.inl ⟨HAll.out, _, rfl, HO5.out⟩, HW.out⟩
theorem implTagWords (s : ByteArray) (w : World) (hs : s.size ≤ 1048576) (ht : TabV w) (he : ErrV w) (hm : MaxV w) :
    Calls Tryd.prog 71 #[.string s] w (MapTPost (pcs 44 s.data.toList) w) := by
  have HSm := Lib.hid (pcs_small 44 s hs)
  have HSl : Hid (AllTw (pcs 44 s.data.toList) → (pcs 44 s.data.toList).length ≤ 1048576) := Lib.hid (fun h => by
    have := all_shortT h
    have h2 := Lib.size_eq s
    omega)
  have HSp := Lib.hid (implSplit s 44 ⟨#[44]⟩ w hs rfl hm)
  have HMax := Lib.hid hm
  have HTab := Lib.hid ht
  have HErr := Lib.hid he
  clear hs hm ht he
  go_enter Tryd.func71, Tryd.ntmps71
  go_wp2_with fail
  refine HSp.out.mono ?_
  rintro e w1 ⟨u, rfl, hr, hb1⟩
  have HR := Lib.hid hr
  have HB1 := Lib.hid hb1
  obtain ⟨b, c, rfl, _, _, _⟩ := hr
  clear hb1
  go_wp2_with fail
  refine (mapTag _ _ _ HR.out HSm.out.1 HSm.out.2 HSl.out (HTab.out.below HB1.out (Nat.le_refl _)) (HErr.out.below HB1.out (Nat.le_refl _)) (HMax.out.below HB1.out (Nat.le_refl _))).mono ?_
  rintro e w2 ⟨⟨hall, v, rfl, ho⟩ | ⟨hno, rfl⟩, hb2⟩
  · have HO := Lib.hid (ho.wide HB1.out.size (Nat.le_refl _))
    have HB2 := Lib.hid (HB1.out.trans (hb2.mono HB1.out.size))
    have HA := Lib.hid hall
    clear ho hb2 hall
    go_wp2
    refine bodyPost_ret (v := v) (by simp [results, Tryd.f71, go_sem]) rfl ?_
    exact ⟨.inl ⟨HA.out, _, rfl, HO.out⟩, HB2.out⟩
  · have HB2 := Lib.hid (HB1.out.trans (hb2.mono HB1.out.size))
    have HA := Lib.hid hno
    clear hb2 hno
    go_wp2
    exact ⟨rfl, .inr ⟨HA.out, rfl⟩, HB2.out⟩
theorem clRy (sb : Nat) (s : ByteArray) (w : World) (hc : Cels w sb 9 [.string s]) (hs : s.size ≤ 1048576) (ht : TabV w) (he : ErrV w) (hm : MaxV w) :
    Calls Tryd.prog 70 #[.pointer (some ⟨sb, 0, none⟩)] w (MapTPost (pcs 44 s.data.toList) w) := by
  have k0 := hc.cell 0 rfl
  have HT := Lib.hid (implTagWords s w hs ht he hm)
  clear hc hs hm ht he
  go_enter Tryd.func70, Tryd.ntmps70
  go_wp2_with fail
  refine HT.out.mono ?_
  rintro e w2 ⟨⟨hall, v, rfl, ho⟩ | ⟨hno, rfl⟩, hb2⟩
  · have HO := Lib.hid ho
    have HB2 := Lib.hid hb2
    have HA := Lib.hid hall
    clear ho hb2 hall
    go_wp2
    refine bodyPost_ret (v := v) (by simp [results, Tryd.f70, go_sem]) rfl ?_
    exact ⟨.inl ⟨HA.out, _, rfl, HO.out⟩, HB2.out⟩
  · have HB2 := Lib.hid hb2
    have HA := Lib.hid hno
    clear hb2 hno
    go_wp2
    exact ⟨rfl, .inr ⟨HA.out, rfl⟩, HB2.out⟩
set_option maxHeartbeats 4000000 in
theorem implReadCy (s : ByteArray) (w : World) (hs : s.size ≤ 1048576) (ht : TabV w) (he : ErrV w) (hm : MaxV w) :
    Calls Tryd.prog 32 #[.string s] w fun e w' => ∃ u, e = .returned (.tuple #[.agg #[u], .bool (cyB s.data.toList)]) ∧ OwQN w' w.heap.size w'.heap.size u (cyV s.data.toList) ∧ Below w.heap.size w w' := by
  have hmf : ∀ (fn : Fn) (first cap : Array Value) (w : World), (Instr.makeFunc fn first cap).run Tryd.prog w = .ok (.func fn first cap) w := fun _ _ _ _ => rfl
  obtain ⟨l, hl⟩ : ∃ l, l = s.data.toList := ⟨_, rfl⟩
  have HL := Lib.hid hl
  obtain ⟨W0, hW0⟩ : ∃ W, W = (w.alloc (Obj.cells #[.string s] 9)).alloc (Obj.cells #[.slice none 0 0] 53) := ⟨_, rfl⟩
  have HB0 : Hid (Below w.heap.size w W0) := Lib.hid (by rw [hW0]; exact ((Below.refl _ _).alloc (Nat.le_refl _) _).alloc (by simp) _)
  have KS : Hid (Cels W0 w.heap.size 9 [.string s]) := Lib.hid (by rw [hW0]; exact (Cels.new _ _ _).alloc _)
  have K0 : Hid (Cels W0 (w.heap.size + 1) 53 [.slice none 0 0]) := Lib.hid (by rw [hW0]; have := Cels.new (w.alloc (Obj.cells #[.string s] 9)) 53 [.slice none 0 0]; simpa using this)
  have HTab := Lib.hid (ht.below HB0.out (Nat.le_refl _))
  have HErr := Lib.hid (he.below HB0.out (Nat.le_refl _))
  have HMax := Lib.hid (hm.below HB0.out (Nat.le_refl _))
  have HW0 := Lib.hid hW0.symm
  have HS := Lib.hid hs
  have HLt : Hid (w.heap.size + 1 < W0.heap.size) := Lib.hid K0.out.lt
  have HUp : Hid (∀ W, Below (W0.heap.size + 1) (W0.alloc (.cells #[.nilIface] 73)) W → Below W0.heap.size W0 W) := Lib.hid (fun W hW => ((Below.refl W0.heap.size W0).alloc (Nat.le_refl _) _).trans (hW.mono (Nat.le_succ _)))
  rw [← hl]
  clear hm hs hl hW0 ht he
  by_cases hall : AllTw (pcs 44 l)
  rotate_left
  · have HF := Lib.hid (cy_bad (l := l) (fun h => hall h.1))
    have HC := Lib.hid (attNCy (.pointer (some ⟨w.heap.size, 0, none⟩)) 8 W0 (fun W hW => (clRy w.heap.size s W (KS.out.below (HUp.out W hW) KS.out.lt) HS.out (HTab.out.below (HUp.out W hW) (Nat.le_refl _)) (HErr.out.below (HUp.out W hW) (Nat.le_refl _)) (HMax.out.below (HUp.out W hW) (Nat.le_refl _))).mono (fun e W' h => by
      obtain ⟨⟨ha, _⟩ | ⟨_, he⟩, hb⟩ := h
      · rw [← HL.out] at ha; exact absurd ha hall
      · exact ⟨he, hb.mono (by have := hW.size; simp at this; omega)⟩)))
    clear hall
    go_enter Tryd.func32, Tryd.ntmps32
    go_wp2_with fail
    rw [HW0.out]
    refine HC.out.mono ?_
    rintro e w1 ⟨rfl, hb1⟩
    have HB1 := Lib.hid (HB0.out.trans (hb1.mono HB0.out.size))
    have K1 := Lib.hid (K0.out.below hb1 K0.out.lt)
    clear hb1
    have K6 : Hid (Cels (w1.alloc (Obj.cells #[.slice none 0 0] 53)) (w.heap.size + 1) 53 [.slice none 0 0]) := Lib.hid (K1.out.alloc _)
    have HB6 : Hid (Below w.heap.size w (w1.alloc (Obj.cells #[.slice none 0 0] 53))) := Lib.hid (HB1.out.alloc HB1.out.size _)
    have f1 := K6.out.cell 0 rfl
    have f2 := K6.out.frozen 0
    have F7 := Lib.hid (K6.out.set 0 (.slice none 0 0))
    go_wp2
    have f7 := F7.out
    obtain ⟨Wf, hWf⟩ : ∃ Wf, Wf = ((w1.alloc (Obj.cells #[.slice none 0 0] 53)).setCell ⟨w.heap.size + 1, 0, none⟩ (.slice none 0 0)) := ⟨_, rfl⟩
    have hB : Below w.heap.size w Wf := by rw [hWf]; exact below_set HB6.out (Nat.le_succ _) _ _
    have hO : OwQN Wf w.heap.size Wf.heap.size (.slice none 0 0) [] := OwQN.none hB.size
    rw [← hWf] at f7 ⊢
    have z0 := f7.cell 0 rfl
    clear f1 f2 hWf
    refine bodyPost_ret (v := .tuple #[.agg #[.slice none 0 0], .bool false]) (by simp [results, Tryd.f32, go_sem, z0]) rfl ⟨.slice none 0 0, ?_, ?_, hB⟩
    · rw [HF.out.1]
    · rw [HF.out.2]; exact hO
  obtain ⟨zss, hz⟩ : ∃ z, z = (pcs 44 l).map twV := ⟨_, rfl⟩
  have HZ := Lib.hid hz
  have HC := Lib.hid (attYCy (.pointer (some ⟨w.heap.size, 0, none⟩)) (fun v W => OwQN W (W0.heap.size + 1) W.heap.size v zss) W0 (fun W hW => (clRy w.heap.size s W (KS.out.below (HUp.out W hW) KS.out.lt) HS.out (HTab.out.below (HUp.out W hW) (Nat.le_refl _)) (HErr.out.below (HUp.out W hW) (Nat.le_refl _)) (HMax.out.below (HUp.out W hW) (Nat.le_refl _))).mono (fun e W' h => by
      obtain ⟨⟨_, v, he, ho⟩ | ⟨hn, _⟩, hb⟩ := h
      rotate_left
      · rw [← HL.out] at hn; exact absurd hall hn
      have hsz : W0.heap.size + 1 ≤ W.heap.size := by have := hW.size; simp at this; omega
      rw [← HL.out, ← hz] at ho
      exact ⟨v, he, ho.wide hsz (Nat.le_refl _), hb.mono hsz⟩))
    (fun v W hg _ => hg.low (Nat.lt_succ_self _) 0 .nilIface))
  have HAll := Lib.hid hall
  clear hall hz
  go_enter Tryd.func32, Tryd.ntmps32
  go_wp2_with fail
  rw [HW0.out]
  refine HC.out.mono ?_
  rintro e w1 ⟨v, rfl, ho, hb1⟩
  have HB1 := Lib.hid (HB0.out.trans (hb1.mono HB0.out.size))
  have K1 := Lib.hid (K0.out.below hb1 K0.out.lt)
  obtain ⟨ga, gc, hsh⟩ := ho.shape
  obtain ⟨n1, hn1⟩ : ∃ n, n = zss.length := ⟨_, rfl⟩
  rw [← hn1] at hsh
  subst hsh
  have HO := Lib.hid ho
  have K6 : Hid (Cels (w1.alloc (Obj.cells #[.slice ga n1 gc] 53)) (w.heap.size + 1) 53 [.slice none 0 0]) := Lib.hid (K1.out.alloc _)
  have KC : Hid (Cels (w1.alloc (Obj.cells #[.slice ga n1 gc] 53)) w1.heap.size 53 [.slice ga n1 gc]) := Lib.hid (Cels.new _ _ _)
  have HB6 : Hid (Below w.heap.size w (w1.alloc (Obj.cells #[.slice ga n1 gc] 53))) := Lib.hid (HB1.out.alloc HB1.out.size _)
  have HO6 : Hid (OwQN (w1.alloc (Obj.cells #[.slice ga n1 gc] 53)) (W0.heap.size + 1) (w1.alloc (Obj.cells #[.slice ga n1 gc] 53)).heap.size (.slice ga n1 gc) zss) := Lib.hid ((ho.below ((Below.refl w1.heap.size w1).alloc (Nat.le_refl _) _) (Nat.le_refl _)).wide (Nat.le_refl _) (by simp))
  obtain ⟨q, hq⟩ : ∃ q, q = cycB zss := ⟨_, rfl⟩
  have HQ := Lib.hid hq
  clear hb1 ho hn1 hq
  have m0 := KC.out.cell 0 rfl
  go_wp2_with fail
  refine (implValidCyc _ zss _ HO6.out.rdl).mono ?_
  rintro e w7 ⟨rfl, bb⟩
  rw [← HQ.out]
  have HLt7 : Hid (w1.heap.size < w7.heap.size) := Lib.hid (by have := bb.size; simp at this; omega)
  have K7 := Lib.hid (K6.out.below bb K6.out.lt)
  have KD := Lib.hid (KC.out.below bb KC.out.lt)
  have HB7 := Lib.hid (HB6.out.trans (bb.mono HB6.out.size))
  have HO7 := Lib.hid ((HO6.out.below bb (Nat.le_refl _)).wide (Nat.le_refl _) bb.size)
  clear bb m0
  rcases eqOr q with hb | hb
  · subst hb
    have HF := Lib.hid (cy_bad (l := l) (fun h => by have := h.2; rw [← HZ.out, ← HQ.out] at this; cases this))
    have f1 := K7.out.cell 0 rfl
    have f2 := K7.out.frozen 0
    have F7 := Lib.hid (K7.out.set 0 (.slice none 0 0))
    go_wp2
    have f7 := F7.out
    obtain ⟨Wf, hWf⟩ : ∃ Wf, Wf = (w7.setCell ⟨w.heap.size + 1, 0, none⟩ (.slice none 0 0)) := ⟨_, rfl⟩
    have hB : Below w.heap.size w Wf := by rw [hWf]; exact below_set HB7.out (Nat.le_succ _) _ _
    have hO : OwQN Wf w.heap.size Wf.heap.size (.slice none 0 0) [] := OwQN.none hB.size
    rw [← hWf] at f7 ⊢
    have z0 := f7.cell 0 rfl
    clear f1 f2 hWf
    refine bodyPost_ret (v := .tuple #[.agg #[.slice none 0 0], .bool false]) (by simp [results, Tryd.f32, go_sem, z0]) rfl ⟨.slice none 0 0, ?_, ?_, hB⟩
    · rw [HF.out.1]
    · rw [HF.out.2]; exact hO
  have HF := Lib.hid (cy_good (l := l) ⟨HAll.out, by rw [← HZ.out, ← HQ.out]; exact hb⟩)
  rw [← HZ.out] at HF
  subst hb
  have m0 := KD.out.cell 0 rfl
  have f1 := K7.out.cell 0 rfl
  have f2 := K7.out.frozen 0
  have F7 := Lib.hid (K7.out.set 0 (.slice ga n1 gc))
  go_wp2
  have f7 := F7.out
  obtain ⟨Wf, hWf⟩ : ∃ Wf, Wf = (w7.setCell ⟨w.heap.size + 1, 0, none⟩ (.slice ga n1 gc)) := ⟨_, rfl⟩
  have hB : Below w.heap.size w Wf := by rw [hWf]; exact below_set HB7.out (Nat.le_succ _) _ _
  have hO : OwQN Wf w.heap.size Wf.heap.size (.slice ga n1 gc) zss := by rw [hWf]; exact (HO7.out.low (by have := HLt.out; omega) 0 _).wide (by have := HLt.out; omega) (Nat.le_refl _)
  rw [← hWf] at f7 ⊢
  have z0 := f7.cell 0 rfl
  clear f1 f2 hWf
  refine bodyPost_ret (v := .tuple #[.agg #[.slice ga n1 gc], .bool true]) (by simp [results, Tryd.f32, go_sem, z0]) rfl ⟨.slice ga n1 gc, ?_, ?_, hB⟩
  · rw [HF.out.1]
  · rw [HF.out.2]; exact hO
end Go.Proofs.YtbifkjmmhfnblaaDoor.Ints
