/- Rewriting rules read from a text, of the program. -/
import Derived.Test.YtbigoljfanendaaDoorRqV
import Derived.Test.YtbigoljfanendaaDoorRwV
import Derived.Test.YtbigoljfanendaaDoorCut
import Derived.Test.YtbigoljfanendaaDoorGup
import Derived.Test.YtbigoljfanendaaDoorAttW
namespace Go.Proofs.YtbigoljfanendaaDoor.Ints
open Go.RowKit
set_option linter.unusedVariables false
set_option linter.unusedSimpArgs false
theorem Ow.lowCellW {w : World} {B T : Nat} {v : Value} {zs : List Int} (h : Ow w B T v zs) (k j : Nat) (x : Value) (hk : k < B) : Ow (w.setCell ⟨k, j, none⟩ x) B T v zs := by
  refine ⟨h.len, h.fit, ?_, h.top, by simpa using h.size, h.base⟩
  rcases h.row.2 with ⟨rfl, h0⟩ | ⟨g, cp, cur, rfl, h1, h2, h3⟩
  · exact ⟨h.row.1, .inl ⟨rfl, h0⟩⟩
  · exact ⟨h.row.1, .inr ⟨g, cp, cur, rfl, h1, by rw [Below.heap_setCell w ⟨k, j, none⟩ x g (by show g ≠ k; omega)]; exact h2, h3⟩⟩
theorem implWordY (s : ByteArray) (w : World) (hs : s.size ≤ 1048576) (h : rdB s = true) :
    Calls Tryd.prog 111 #[.string s] w fun e w' => ∃ u, e = .returned u ∧ Ow w' w.heap.size w'.heap.size u (rdV s) ∧ Below w.heap.size w w' := by
  have HR := Lib.hid (implRdWord s w hs)
  rw [h] at HR
  clear hs h
  go_enter Tryd.func111, Tryd.ntmps111
  go_wp2_with fail
  refine HR.out.mono ?_
  rintro e w1 ⟨u, rfl, ho, bb⟩
  have HO := Lib.hid ho
  have HB := Lib.hid bb
  clear ho bb
  go_wp2_with fail
  refine (implGiveY _).mono ?_
  rintro e w2 ⟨rfl, rfl⟩
  go_wp2
  go_ret
  exact ⟨_, rfl, HO.out, HB.out⟩
theorem implWordN (s : ByteArray) (w : World) (hs : s.size ≤ 1048576) (h : rdB s = false) :
    Calls Tryd.prog 111 #[.string s] w fun e w' => e = .panicked [gaveUp 8] ∧ Below w.heap.size w w' := by
  have HR := Lib.hid (implRdWord s w hs)
  rw [h] at HR
  clear hs h
  go_enter Tryd.func111, Tryd.ntmps111
  go_wp2_with fail
  refine HR.out.mono ?_
  rintro e w1 ⟨u, rfl, ho, bb⟩
  have HB := Lib.hid bb
  clear ho bb
  go_wp2_with fail
  refine (implGiveN _).mono ?_
  rintro e w2 ⟨rfl, rfl⟩
  go_wp2
  exact ⟨rfl, rfl, HB.out⟩
def RwPost (t : List UInt8) (w : World) (e : Ending) (w' : World) : Prop :=
  ((rwOne t ∧ ∃ u v, e = .returned (.agg #[u, v]) ∧ Ow w' w.heap.size w'.heap.size u (tpV t).l ∧ Ow w' w.heap.size w'.heap.size v (tpV t).r ∧ Sep u v) ∨ (¬ rwOne t ∧ e = .panicked [gaveUp 8])) ∧ Below w.heap.size w w'
set_option maxHeartbeats 4000000 in
theorem implRewrite (s : ByteArray) (w : World) (hs : s.size ≤ 1048576) (hm : MaxV w) :
    Calls Tryd.prog 72 #[.string s] w (RwPost s.data.toList w) := by
  obtain ⟨l, hl⟩ : ∃ l, l = s.data.toList := ⟨_, rfl⟩
  rw [← hl]
  obtain ⟨W0, hW0⟩ : ∃ W, W = w.alloc (Obj.cells #[.slice none 0 0, .slice none 0 0] 97) := ⟨_, rfl⟩
  have HB0 : Hid (Below w.heap.size w W0) := Lib.hid (by rw [hW0]; exact (Below.refl w.heap.size w).alloc (Nat.le_refl _) _)
  have K0 : Hid (Cels W0 w.heap.size 97 [.slice none 0 0, .slice none 0 0]) := Lib.hid (by rw [hW0]; exact Cels.new _ _ _)
  have HW0 := Lib.hid hW0.symm
  have HMax := Lib.hid (hm.below HB0.out (Nat.le_refl _))
  have HCut := Lib.hid (implCut s 62 ⟨#[62]⟩ W0 hs rfl HMax.out)
  rw [← hl] at HCut
  have HC1 := Lib.hid (rw_cut l)
  have HV1 : Hid (rwOne l → tpV l = ⟨rdV (bs (Lib.cut l [62]).1), rdV (bs (Lib.cut l [62]).2.1)⟩) := Lib.hid (fun h => rw_val h)
  obtain ⟨t0, ht0⟩ : ∃ t, t = (Lib.cut l [62]).1 := ⟨_, rfl⟩
  obtain ⟨t1, ht1⟩ : ∃ t, t = (Lib.cut l [62]).2.1 := ⟨_, rfl⟩
  obtain ⟨fd, hfd⟩ : ∃ t, t = (Lib.cut l [62]).2.2 := ⟨_, rfl⟩
  have h2 := Lib.size_eq s
  rw [← hl] at h2
  have hs0 : (bs t0).size ≤ 1048576 := by
    rw [bs_size]
    rcases cut_pcs 62 l with ⟨_, _, e⟩ | ⟨a, b, _, e2, _, e⟩
    · rw [ht0, e]; show l.length ≤ _; omega
    · rw [ht0, e]; have h3 := congrArg List.length e2; simp at h3; show a.length ≤ _; omega
  have hs1 : (bs t1).size ≤ 1048576 := by
    rw [bs_size]
    rcases cut_pcs 62 l with ⟨_, _, e⟩ | ⟨a, b, _, e2, _, e⟩
    · rw [ht1, e]; show ([] : List UInt8).length ≤ _; simp
    · rw [ht1, e]; have h3 := congrArg List.length e2; simp at h3; show b.length ≤ _; omega
  rw [← ht0, ← ht1, ← hfd] at HCut
  rw [← ht0, ← ht1] at HC1 HV1
  obtain ⟨u0, hu0⟩ : ∃ u, u = bs t0 := ⟨_, rfl⟩
  obtain ⟨u1, hu1⟩ : ∃ u, u = bs t1 := ⟨_, rfl⟩
  rw [← hu0, ← hu1] at HCut HC1 HV1
  rw [← hu0] at hs0
  rw [← hu1] at hs1
  have HS0 := Lib.hid hs0
  have HS1 := Lib.hid hs1
  clear hl hW0 hs hm ht0 ht1 hfd h2 hs0 hs1 hu0 hu1
  rcases eqOr (rdB u0) with hb0 | hb0
  · have HN := Lib.hid (implWordN u0 · HS0.out hb0)
    have HF : Hid (¬ rwOne l) := Lib.hid (fun h => by have := (HC1.out.1 h).1; rw [hb0] at this; cases this)
    clear hb0
    go_enter Tryd.func72, Tryd.ntmps72
    go_wp2_with fail
    rw [HW0.out]
    refine HCut.out.mono ?_
    rintro e w1 ⟨rfl, bb⟩
    have HB1 := Lib.hid (HB0.out.trans (bb.mono HB0.out.size))
    clear bb
    go_wp2_with fail
    refine (HN.out _).mono ?_
    rintro e w2 ⟨rfl, bb⟩
    have HB2 := Lib.hid (HB1.out.trans (bb.mono HB1.out.size))
    clear bb
    go_wp2
    exact ⟨rfl, .inr ⟨HF.out, rfl⟩, HB2.out⟩
  have HY0 := Lib.hid (implWordY u0 · HS0.out hb0)
  rcases eqOr (rdB u1) with hb1 | hb1
  · have HN := Lib.hid (implWordN u1 · HS1.out hb1)
    have HF : Hid (¬ rwOne l) := Lib.hid (fun h => by have := (HC1.out.1 h).2; rw [hb1] at this; cases this)
    clear hb0 hb1
    go_enter Tryd.func72, Tryd.ntmps72
    go_wp2_with fail
    rw [HW0.out]
    refine HCut.out.mono ?_
    rintro e w1 ⟨rfl, bb⟩
    have HB1 := Lib.hid (HB0.out.trans (bb.mono HB0.out.size))
    clear bb
    go_wp2_with fail
    refine (HY0.out _).mono ?_
    rintro e w2 ⟨v0, rfl, _, bb⟩
    have HB2 := Lib.hid (HB1.out.trans (bb.mono HB1.out.size))
    clear bb
    go_wp2_with fail
    refine (HN.out _).mono ?_
    rintro e w3 ⟨rfl, bb⟩
    have HB3 := Lib.hid (HB2.out.trans (bb.mono HB2.out.size))
    clear bb
    go_wp2
    exact ⟨rfl, .inr ⟨HF.out, rfl⟩, HB3.out⟩
  have HY1 := Lib.hid (implWordY u1 · HS1.out hb1)
  have HOne := Lib.hid (HC1.out.2 ⟨hb0, hb1⟩)
  have HVal := Lib.hid (HV1.out HOne.out)
  clear hb0 hb1
  go_enter Tryd.func72, Tryd.ntmps72
  go_wp2_with fail
  rw [HW0.out]
  refine HCut.out.mono ?_
  rintro e w1 ⟨rfl, bb⟩
  have HB1 := Lib.hid (HB0.out.trans (bb.mono HB0.out.size))
  have K1 := Lib.hid (K0.out.below bb K0.out.lt)
  have HLt : Hid (w.heap.size < w1.heap.size) := Lib.hid K1.out.lt
  clear bb
  go_wp2_with fail
  refine (HY0.out _).mono ?_
  rintro e w2 ⟨v0, rfl, ho0, bb⟩
  obtain ⟨ga, gc, hsa⟩ := ho0.shape
  obtain ⟨n1, hn1⟩ : ∃ n, n = (rdV u0).length := ⟨_, rfl⟩
  rw [← hn1] at hsa
  subst hsa
  have HO0 := Lib.hid ho0
  have HB2 := Lib.hid (HB1.out.trans (bb.mono HB1.out.size))
  have K2 := Lib.hid (K1.out.below bb K1.out.lt)
  have HLt2 : Hid (w.heap.size < w2.heap.size) := Lib.hid K2.out.lt
  clear bb ho0 hn1
  go_wp2_with fail
  refine (HY1.out _).mono ?_
  rintro e w3 ⟨v1, rfl, ho1, bb⟩
  obtain ⟨gb, gd, hsb⟩ := ho1.shape
  obtain ⟨n2, hn2⟩ : ∃ n, n = (rdV u1).length := ⟨_, rfl⟩
  rw [← hn2] at hsb
  subst hsb
  have HO0' := Lib.hid (HO0.out.below bb (Nat.le_refl _)).up
  have HSep : Hid (Sep (.slice ga n1 gc) (.slice gb n2 gd)) := Lib.hid (sep_of HO0.out.top ho1.row.lt (Nat.le_refl _))
  have HO1 := Lib.hid ho1
  have HB3 := Lib.hid (HB2.out.trans (bb.mono HB2.out.size))
  have K3 := Lib.hid (K2.out.below bb K2.out.lt)
  clear bb ho1 hn2
  have r2 := K3.out.set 0 (.slice ga n1 gc)
  have f1 := K3.out.cell 0 rfl
  have f2 := K3.out.frozen 0
  have f3 := r2.cell 1 rfl
  have f4 := r2.frozen 1
  have F7 := Lib.hid (r2.set 1 (.slice gb n2 gd))
  clear r2
  go_wp2
  have f7 := F7.out
  obtain ⟨Wf, hWf⟩ : ∃ Wf, Wf = (w3.setCell ⟨w.heap.size, 0, none⟩ (.slice ga n1 gc)).setCell ⟨w.heap.size, 1, none⟩ (.slice gb n2 gd) := ⟨_, rfl⟩
  have hB : Below w.heap.size w Wf := by rw [hWf]; exact below_set (below_set HB3.out (Nat.le_refl _) _ _) (Nat.le_refl _) _ _
  have hA : Ow Wf w.heap.size Wf.heap.size (.slice ga n1 gc) (rdV u0) := by rw [hWf]; exact (((HO0'.out.lowCellW w.heap.size 0 _ HLt.out).lowCellW w.heap.size 1 _ HLt.out).mono (Nat.le_of_lt HLt.out) (by simp) (Nat.le_refl _))
  have hC : Ow Wf w.heap.size Wf.heap.size (.slice gb n2 gd) (rdV u1) := by rw [hWf]; exact (((HO1.out.lowCellW w.heap.size 0 _ HLt2.out).lowCellW w.heap.size 1 _ HLt2.out).mono (Nat.le_of_lt HLt2.out) (by simp) (Nat.le_refl _))
  rw [← hWf] at f7 ⊢
  have z0 := f7.cell 0 rfl
  have z1 := f7.cell 1 rfl
  clear f1 f2 f3 f4 hWf
  refine bodyPost_ret (v := .agg #[(.slice ga n1 gc), (.slice gb n2 gd)]) (by simp [results, Tryd.f72, go_sem, z0, z1]) rfl ?_
  exact ⟨.inl ⟨HOne.out, _, _, rfl, by rw [HVal.out]; exact hA, by rw [HVal.out]; exact hC, HSep.out⟩, hB⟩
def MapWPost (ts : List (List UInt8)) (w : World) (e : Ending) (w' : World) : Prop :=
  ((AllRw ts ∧ ∃ u, e = .returned u ∧ OwRN w' w.heap.size w'.heap.size u (ts.map tpV)) ∨ (¬ AllRw ts ∧ e = .panicked [gaveUp 8])) ∧ Below w.heap.size w w'
set_option maxRecDepth 100000 in
set_option maxHeartbeats 8000000 in
theorem mapRewrite (v : Value) (ts : List (List UInt8)) (w : World) (hr : RdS w v ts) (hp : ∀ j, j < ts.length → (ts.getD j []).length ≤ 1048576) (hl : ts.length ≤ 1048577) (hla : AllRw ts → ts.length ≤ 1048576) (hm : MaxV w) :
    Calls Tryd.prog 71 #[v, .func (Fn.func 72) #[] #[]] w (MapWPost ts w) := by
  obtain ⟨n0, hi, hz0, hz1, hz2⟩ := info_parts infoT
  have HMax := Lib.hid hm
  have HPz := Lib.hid hp
  have HLn := Lib.hid hl
  have HLa := Lib.hid hla
  obtain ⟨b, c, rfl, hcap, hbl, hcell⟩ := hr
  have HC := Lib.hid hcell
  clear hm hp hl hla hcell
  go_enter Tryd.func71, Tryd.ntmps71
  go_wp2
  go_loopw [5, 10] (fun o i wr => ∃ (k : Nat) (ov : Value), o = ov ∧ k ≤ ts.length ∧ i = .int .i64 (k : Int) ∧ (∀ j, j < k → rwOne (ts.getD j [])) ∧ GrT wr w.heap.size ov ((ts.take k).map tpV) ∧ Below w.heap.size w wr) (fun _ i _ => ts.length - (intOf i).toNat)
  case atStart => exact ⟨0, _, rfl, Nat.zero_le _, rfl, fun j hj => by omega, by simpa using GrT.start w w.heap.size, Below.refl _ _⟩
  case round =>
    obtain ⟨k, ov, hov, hk, rfl, hall, hgr, hbel⟩ := hrel
    obtain rfl := hov.symm
    have HA := Lib.hid hall
    have HW := Lib.hid hbel
    have HGR := Lib.hid hgr
    have hln8 := HLn.out
    clear hall hgr
    by_cases hlt : k < ts.length
    · obtain ⟨t, ht⟩ : ∃ t, t = ts.getD k [] := ⟨_, rfl⟩
      have hc : wr.cell? ⟨b, k, none⟩ = some (.string (bs t)) := by rw [ht]; exact (hbel.cell hbl).trans (HC.out k hlt)
      have i0' : (0 : Int) ≤ (k : Int) := by omega
      have i1 : (k : Int) < (ts.length : Int) := by omega
      have HT := Lib.hid ht
      have HSz : Hid ((bs t).size ≤ 1048576) := Lib.hid (by rw [bs_size, ht]; exact HPz.out k hlt)
      clear hbel ht
      go_wp2_with fail
      refine (implRewrite (bs t) _ HSz.out (HMax.out.below HW.out (Nat.le_refl _))).mono ?_
      rintro e w2 ⟨⟨hone, u0, v0, rfl, hp, hq, hsep⟩ | ⟨hno, rfl⟩, hb2⟩
      rotate_left
      · have HNo : Hid (¬ AllRw ts) := Lib.hid (fun h => hno (by rw [bs_list, HT.out]; exact h k hlt))
        have HW2 := Lib.hid (HW.out.trans (hb2.mono HW.out.size))
        clear hb2 hno
        go_wp2
        exact ⟨rfl, .inr ⟨HNo.out, rfl⟩, HW2.out⟩
      rw [bs_list] at hone hp hq
      have HX2 := Lib.hid hb2
      clear hb2
      obtain ⟨ga, gc, hsa⟩ := hp.shape
      obtain ⟨gb, gd, hsb⟩ := hq.shape
      obtain ⟨n1, hn1⟩ : ∃ n, n = (tpV t).l.length := ⟨_, rfl⟩
      obtain ⟨n2, hn2⟩ : ∃ n, n = (tpV t).r.length := ⟨_, rfl⟩
      rw [← hn1] at hsa
      rw [← hn2] at hsb
      subst hsa
      subst hsb
      have HP := Lib.hid hp
      have HQ2 := Lib.hid hq
      have HSEP := Lib.hid hsep
      have HOne := Lib.hid hone
      have HSn : Hid ((ts.take (k + 1)).map tpV = (ts.take k).map tpV ++ [tpV t]) := Lib.hid (by rw [map_takeS tpV ts k hlt, ← HT.out])
      have HAn : Hid (∀ j, j < k + 1 → rwOne (ts.getD j [])) := Lib.hid (all_takeW HA.out (by rw [← HT.out]; exact HOne.out))
      obtain ⟨cs, hown, hcop, hsq⟩ := HGR.out
      have HCO := Lib.hid hcop
      have HSQ := Lib.hid hsq
      have hlk : ((ts.take k).map tpV).length = k := by simp; omega
      have HLK := Lib.hid hlk
      have hown1 : w2.ownsRow w.heap.size 97 2 ov k cs := by rw [hlk] at hown; exact ownC_below hown HX2.out (Nat.le_refl _)
      have HOW := Lib.hid hown1
      have hsz := Nat.le_trans HW.out.size HX2.out.size
      clear hp hq hsep hown hcop hsq hlk hn1 hn2 hone
      go_wp2_with (at_builtin; refine wpList_append_own _ rfl _ _ 46 rfl w.heap.size 97 n0 (.agg #[.slice none 0 0, .slice none 0 0]) 2 48 Tryd.underlying46 hi hz0 hz1 hz2 rfl (by decide) _ _ _ rfl (hown1.alloc _) ⟨_, 0, none⟩ 1 1 [.slice ga n1 gc, .slice gb n2 gd] rfl rfl ?c1 ?c2 ?c3 ?c4 ?c5 ?_)
      case c1 => exact cellNew2 _ _ _ _
      case c2 => intro u hu; simp at hu; rcases hu with rfl | rfl <;> rfl
      case c3 => unfold maxLen; omega
      case c4 => omega
      case c5 => first | omega | (simp; omega)
      intro v' w5 hown2 hgrow _
      have HBA : Hid (Below wr.heap.size wr (w2.alloc (Obj.cells #[.slice ga n1 gc, .slice gb n2 gd] 97))) := Lib.hid (HX2.out.alloc HX2.out.size _)
      have hbw : Below w2.heap.size w2 (w2.alloc (Obj.cells #[.slice ga n1 gc, .slice gb n2 gd] 97)) := (Below.refl _ _).alloc (Nat.le_refl _) _
      have HG2 : Hid (GrT w5 w.heap.size v' ((ts.take (k + 1)).map tpV)) := Lib.hid (by
        rw [HSn.out]
        have hlk := HLK.out
        exact rows_snoc (t := tpV t) (w0 := wr) (w := w2.alloc (Obj.cells #[.slice ga n1 gc, .slice gb n2 gd] 97)) HCO.out HSQ.out HBA.out HW.out.size (by rw [hlk]; exact HOW.out.alloc _) (HP.out.below hbw (Nat.le_refl _)).up (HQ2.out.below hbw (Nat.le_refl _)).up HSEP.out hgrow (by rw [hlk]; exact hown2))
      have HBX := Lib.hid ((HW.out.trans (HBA.out.mono HW.out.size)).grown hgrow (by simp; omega) (fun q hq => (HOW.out.lt q hq).1))
      clear hown2 hgrow hown1 hbw
      go_wp2
      go_roundw
      case rel => exact ⟨k + 1, v', rfl, by omega, by go_num, HAn.out, HG2.out, HBX.out⟩
      case measure => simp [intOf]; omega
    · obtain rfl : k = ts.length := by omega
      have hnlt : ¬ ((ts.length : Int) < (ts.length : Int)) := by omega
      have HO5 : Hid (OwRN wr w.heap.size wr.heap.size ov (ts.map tpV)) := Lib.hid (by
        have h1 := HGR.out
        rw [List.take_length] at h1
        exact h1.own (by rw [List.length_map]; exact HLa.out HA.out) HW.out.size)
      have HAll : Hid (AllRw ts) := Lib.hid HA.out
      clear hlt hbel
      go_wp2
      go_ret
      exact ⟨.inl ⟨HAll.out, _, rfl, HO5.out⟩, HW.out⟩
theorem snocRecL {P : List (List UInt8) → Prop} (h0 : P []) (h1 : ∀ xs c, P xs → P (xs ++ [c])) (l : List (List UInt8)) : P l := by
  have h : ∀ r : List (List UInt8), P r.reverse := fun r => by
    induction r with
    | nil => exact h0
    | cons c r ih => rw [List.reverse_cons]; exact h1 _ _ ih
  have h2 := h l.reverse
  rwa [List.reverse_reverse] at h2
theorem join_long (c : UInt8) (ts : List (List UInt8)) (h : ∀ t ∈ ts, t ≠ []) : ts.length ≤ (Lib.join ts [c]).length := by
  refine snocRecL (P := fun ts => (∀ t ∈ ts, t ≠ []) → ts.length ≤ (Lib.join ts [c]).length) ?_ ?_ ts h
  · intro _; simp
  · intro ts t ih hm
    have ht : 0 < t.length := List.length_pos_iff.2 (hm t (by simp))
    have h1 := ih (fun u hu => hm u (by simp [hu]))
    by_cases hn : ts = []
    · subst hn
      rw [List.nil_append, Lib.join_one]; simp; omega
    · rw [join_snoc _ _ _ hn]
      simp only [List.length_append, List.length_cons, List.length_nil]
      omega
theorem rwOne.ne {t : List UInt8} (h : rwOne t) : t ≠ [] := fun e => by
  have := h.1
  rw [e] at this
  have e2 : pcs 62 [] = [[]] := by simp [pcs, pcRun]
  rw [e2] at this; cases this
theorem all_short {l : List UInt8} (h : AllRw (pcs 32 l)) : (pcs 32 l).length ≤ l.length := by
  have := join_long 32 (pcs 32 l) (fun t ht => by
    obtain ⟨i, hi, e⟩ := List.getElem_of_mem ht
    have := h i hi
    rw [List.getD_eq_getElem?_getD, List.getElem?_eq_getElem hi, e] at this
    exact this.ne)
  rw [join_pcs] at this
  exact this
theorem clRq (sb : Nat) (s : ByteArray) (w : World) (hc : Cels w sb 9 [.string s]) (hs : s.size ≤ 1048576) (hm : MaxV w) :
    Calls Tryd.prog 70 #[.pointer (some ⟨sb, 0, none⟩)] w (MapWPost (pcs 32 s.data.toList) w) := by
  have k0 := hc.cell 0 rfl
  have HSm := Lib.hid (pcs_small 32 s (by omega))
  have HSl : Hid (AllRw (pcs 32 s.data.toList) → (pcs 32 s.data.toList).length ≤ 1048576) := Lib.hid (fun h => by
    have := all_short h
    have h2 := Lib.size_eq s
    omega)
  have HSp := Lib.hid (implSplit s 32 ⟨#[32]⟩ w (by omega) rfl hm)
  have HMax := Lib.hid hm
  clear hc hs hm
  go_enter Tryd.func70, Tryd.ntmps70
  go_wp2_with fail
  refine HSp.out.mono ?_
  rintro e w1 ⟨u, rfl, hr, hb1⟩
  have HR := Lib.hid hr
  have HB1 := Lib.hid hb1
  obtain ⟨b, c, rfl, _, _, _⟩ := hr
  clear hb1
  go_wp2_with fail
  refine (mapRewrite _ _ _ HR.out HSm.out.1 HSm.out.2 HSl.out (HMax.out.below HB1.out (Nat.le_refl _))).mono ?_
  rintro e w2 ⟨⟨hall, v, rfl, ho⟩ | ⟨hno, rfl⟩, hb2⟩
  · have HO := Lib.hid (ho.wide HB1.out.size (Nat.le_refl _))
    have HB2 := Lib.hid (HB1.out.trans (hb2.mono HB1.out.size))
    have HA := Lib.hid hall
    clear ho hb2 hall
    go_wp2
    go_ret
    exact ⟨.inl ⟨HA.out, _, rfl, HO.out⟩, HB2.out⟩
  · have HB2 := Lib.hid (HB1.out.trans (hb2.mono HB1.out.size))
    have HA := Lib.hid hno
    clear hb2 hno
    go_wp2
    exact ⟨rfl, .inr ⟨HA.out, rfl⟩, HB2.out⟩
theorem implReadRw (s : ByteArray) (w : World) (hs : s.size ≤ 1048576) (hm : MaxV w) :
    Calls Tryd.prog 22 #[.string s] w fun e w' => ∃ u, e = .returned (.tuple #[u, .bool (rqB s.data.toList)]) ∧ OwRN w' w.heap.size w'.heap.size u (rqV s.data.toList) ∧ Below w.heap.size w w' := by
  have hmf : ∀ (fn : Fn) (first cap : Array Value) (w : World), (Instr.makeFunc fn first cap).run Tryd.prog w = .ok (.func fn first cap) w := fun _ _ _ _ => rfl
  obtain ⟨l, hl⟩ : ∃ l, l = s.data.toList := ⟨_, rfl⟩
  have HL := Lib.hid hl
  obtain ⟨W0, hW0⟩ : ∃ W, W = w.alloc (Obj.cells #[.string s] 9) := ⟨_, rfl⟩
  have HB0 : Hid (Below w.heap.size w W0) := Lib.hid (by rw [hW0]; exact (Below.refl _ _).alloc (Nat.le_refl _) _)
  have KS : Hid (Cels W0 w.heap.size 9 [.string s]) := Lib.hid (by rw [hW0]; exact Cels.new _ _ _)
  have HMax := Lib.hid (hm.below HB0.out (Nat.le_refl _))
  have HW0 := Lib.hid hW0.symm
  have HS := Lib.hid hs
  have HUp : Hid (∀ W, Below (W0.heap.size + 1) (W0.alloc (.cells #[.nilIface] 69)) W → Below W0.heap.size W0 W) := Lib.hid (fun W hW => ((Below.refl W0.heap.size W0).alloc (Nat.le_refl _) _).trans (hW.mono (Nat.le_succ _)))
  rw [← hl]
  clear hm hs hl hW0
  by_cases hall : AllRw (pcs 32 l)
  rotate_left
  · have HF := Lib.hid (rq_bad (l := l) (fun h => hall h.1))
    have HC := Lib.hid (attNRdW (.pointer (some ⟨w.heap.size, 0, none⟩)) 8 W0 (fun W hW => (clRq w.heap.size s W (KS.out.below (HUp.out W hW) KS.out.lt) HS.out (HMax.out.below (HUp.out W hW) (Nat.le_refl _))).mono (fun e W' h => by
      obtain ⟨⟨ha, _⟩ | ⟨_, he⟩, hb⟩ := h
      · rw [← HL.out] at ha; exact absurd ha hall
      · exact ⟨he, hb.mono (by have := hW.size; simp at this; omega)⟩)))
    clear hall
    go_enter Tryd.func22, Tryd.ntmps22
    go_wp2_with fail
    rw [HW0.out]
    refine HC.out.mono ?_
    rintro e w1 ⟨rfl, hb1⟩
    have HB1 := Lib.hid (HB0.out.trans (hb1.mono HB0.out.size))
    clear hb1
    go_wp2
    go_ret2
    exact ⟨_, by rw [HF.out.1] <;> rfl, by rw [HF.out.2]; exact OwRN.none HB1.out.size, HB1.out⟩
  obtain ⟨ts, hts⟩ : ∃ ts, ts = pcs 32 l := ⟨_, rfl⟩
  have HTs := Lib.hid hts
  obtain ⟨zs, hzs⟩ : ∃ zs, zs = ts.map tpV := ⟨_, rfl⟩
  have HZs := Lib.hid hzs
  have HC := Lib.hid (attYRdW (.pointer (some ⟨w.heap.size, 0, none⟩)) (fun v W => OwRN W (W0.heap.size + 1) W.heap.size v zs) W0 (fun W hW => (clRq w.heap.size s W (KS.out.below (HUp.out W hW) KS.out.lt) HS.out (HMax.out.below (HUp.out W hW) (Nat.le_refl _))).mono (fun e W' h => by
      obtain ⟨⟨_, v, he, ho⟩ | ⟨hn, _⟩, hb⟩ := h
      rotate_left
      · rw [← HL.out] at hn; exact absurd hall hn
      have hsz : W0.heap.size + 1 ≤ W.heap.size := by have := hW.size; simp at this; omega
      rw [← HL.out, ← hts, ← hzs] at ho
      exact ⟨v, he, ho.wide hsz (Nat.le_refl _), hb.mono hsz⟩))
    (fun v W hg _ => by
      have := hg.onlyQ ((Only.refl (fun k => k = W0.heap.size) W).set (p := ⟨W0.heap.size, 0, none⟩) rfl .nilIface) (fun b hb _ h => by omega)
      simpa using this))
  have HAll := Lib.hid hall
  clear hall hts hzs
  go_enter Tryd.func22, Tryd.ntmps22
  go_wp2_with fail
  rw [HW0.out]
  refine HC.out.mono ?_
  rintro e w1 ⟨v, rfl, ho, hb1⟩
  have HB1 := Lib.hid (HB0.out.trans (hb1.mono HB0.out.size))
  have HO := Lib.hid ho
  obtain ⟨av, cv, hsh⟩ := ho.shape
  obtain ⟨n, hn⟩ : ∃ n, n = zs.length := ⟨_, rfl⟩
  rw [← hn] at hsh
  subst hsh
  obtain ⟨q, hq⟩ : ∃ q, q = rwsB zs := ⟨_, rfl⟩
  have HQ := Lib.hid hq
  clear hb1 ho hn hq
  go_wp2_with fail
  refine (implValidRws _ zs _ HO.out.rdt).mono ?_
  rintro e w2 ⟨rfl, bb⟩
  rw [← HQ.out]
  have HB2 := Lib.hid (HB1.out.trans (bb.mono HB1.out.size))
  have HO2 := Lib.hid ((HO.out.below bb (Nat.le_refl _)).wide (B' := w.heap.size) (by have := HB0.out.size; omega) bb.size)
  clear bb
  rcases eqOr q with hb | hb
  · subst hb
    have HF := Lib.hid (rq_bad (l := l) (fun h => by have := h.2; rw [← HTs.out, ← HZs.out, ← HQ.out] at this; cases this))
    go_wp2
    go_ret2
    exact ⟨_, by rw [HF.out.1] <;> rfl, by rw [HF.out.2]; exact OwRN.none HB2.out.size, HB2.out⟩
  subst hb
  have HF := Lib.hid (rq_good (l := l) ⟨by rw [← HTs.out] at HAll ⊢; exact HAll.out, by rw [← HTs.out, ← HZs.out]; exact HQ.out.symm⟩)
  go_wp2
  go_ret2
  exact ⟨_, by rw [HF.out.1] <;> rfl, by rw [HF.out.2, ← HTs.out, ← HZs.out]; exact HO2.out, HB2.out⟩
end Go.Proofs.YtbigoljfanendaaDoor.Ints
