/- Contracts of BordersOf, of the model and of the program. -/
import Derived.Test.YtgfidlppocheoaaPer
import Derived.Test.YtgfidlppocheoaaRev
import Derived.Test.YtgfidlppocheoaaWord
namespace Go.Proofs.Ytgfidlppocheoaa.Ints
open Go.RowKit
set_option linter.unusedVariables false

noncomputable def boL (zs : List Int) : List Int := if wordB zs = true then asc zs zs.length zs.length else []
noncomputable def boC (zs : List Int) : Int := if wordB zs = true then 0 else 1
theorem bo_bad {zs : List Int} (h : wordB zs = false) : boL zs = [] ∧ boC zs = 1 := by simp [boL, boC, h]
theorem bo_good {zs : List Int} (h : wordB zs = true) : boL zs = asc zs zs.length zs.length ∧ boC zs = 0 := by simp [boL, boC, h]
theorem ownI_below {w w' : World} {B C : Nat} {t : TypeId} {s : Nat} {v : Value} {n : Nat} {xs : List Value} (h : w.ownsRow B t s v n xs) (hb : Below C w w') (hC : w.heap.size ≤ C) : w'.ownsRow B t s v n xs := by
  rcases h.2 with ⟨rfl, h0⟩ | ⟨g, cp, cur, rfl, h1, h2, h3⟩
  · exact ⟨h.1, .inl ⟨rfl, h0⟩⟩
  · have hlt := (h.lt g rfl).2
    exact ⟨h.1, .inr ⟨g, cp, cur, rfl, h1, by rw [hb.block g (by omega)]; exact h2, h3⟩⟩
set_option maxHeartbeats 4000000 in
theorem implBo (v : Value) (zs : List Int) (w : World) (h : Rd w v zs) (hz : zs.length ≤ 400) :
    Calls Try.prog 29 #[v] w fun e w' => ∃ (u : Value), e = .returned u ∧ ∃ xs : List Int, w'.ownsRow w.heap.size 3 1 u xs.length (xs.map (Value.int .i64)) ∧ xs.reverse = asc zs zs.length zs.length ∧ Below w.heap.size w w' := by
  have HV := Lib.hid h
  obtain ⟨_, _, a, c, rfl, hcap, _⟩ := h
  obtain ⟨i0, hi, hz0, hz1, hz2⟩ := info_parts infoI
  go_enter Try.func29, Try.ntmps29
  go_wp2_with fail
  refine (implTable _ zs _ HV.out hz).mono ?_
  rintro e w1 ⟨r, rfl, ho, hb⟩
  have HB := Lib.hid hb
  obtain ⟨g, rfl, hg1, hg2, hown⟩ := ho.ex
  rw [tabL_length] at hown ⊢
  have htab : ∀ i, i < zs.length + 1 → w1.cell? ⟨g, i, none⟩ = some (.int .i64 (mb zs i)) := fun i hi => by
    rw [hown.cellAt i (by omega)]
    exact mapAt' (by rw [tabL_length]; omega) (tabL_at _ _ _ hi)
  have HT := Lib.hid htab
  obtain ⟨m, hm⟩ : ∃ m, m = mb zs zs.length := ⟨_, rfl⟩
  have hc : w1.cell? ⟨g, zs.length, none⟩ = some (.int .i64 m) := by rw [hm]; exact htab zs.length (by omega)
  have HM := Lib.hid hm
  have i1 : (zs.length : Int) < (zs.length : Int) + 1 := by omega
  clear ho hb hown hm htab
  go_wp2
  go_loopw [4, 5] (fun o s wr => ∃ (cc : Int) (xs : List Int) (ov : Value), o = ov ∧ s = .int .i64 cc ∧ Desc zs zs.length cc xs ∧ wr.ownsRow w1.heap.size 3 1 ov xs.length (xs.map (Value.int .i64)) ∧ Below w1.heap.size w1 wr) (fun _ s _ => (intOf s + 1).toNat)
  case atStart => exact ⟨m, [], _, rfl, rfl, by rw [HM.out]; exact Desc.start zs zs.length, by simpa using World.ownsRow_nil w1 w1.heap.size 3 1, Below.refl _ _⟩
  case round =>
    obtain ⟨cc, xs, ov, hov, rfl, hd, hown, hbel⟩ := hrel
    obtain rfl := hov.symm
    have HW := Lib.hid hbel
    by_cases h0 : 0 ≤ cc
    · have hxl := hd.len
      obtain ⟨k, rfl, hk, hst⟩ := hd.step h0
      have HS := Lib.hid hst
      obtain ⟨q, hq⟩ : ∃ q, q = mb zs k := ⟨_, rfl⟩
      have hqr := mb_range zs k
      rw [← hq] at hqr HS
      have HCQ : Hid (∀ W, Below w1.heap.size wr W → W.cell? ⟨g, k, none⟩ = some (.int .i64 q)) := Lib.hid (fun W hW => by rw [hq]; exact (hW.cell (p := ⟨g, k, none⟩) hg2).trans ((hbel.cell (p := ⟨g, k, none⟩) hg2).trans (HT.out k (by omega))))
      have hsz := hbel.size
      have j1 : (0 : Int) ≤ (k : Int) := by omega
      have j2 : (k : Int) < (zs.length : Int) + 1 := by omega
      clear hd hst hq hbel h0
      go_wp2_with (at_builtin; refine wpList_append_own _ rfl _ _ 50 rfl w1.heap.size 3 i0 (.int .i64 0) 1 8 Try.underlying50 hi hz0 hz1 hz2 rfl (by decide) _ _ _ rfl (hown.alloc _) ⟨_, 0, none⟩ 1 1 [.int .i64 (k : Int)] rfl rfl ?c1 ?c2 ?c3 ?c4 ?c5 ?_)
      try (case c1 => exact cellNew _ _ _)
      case c2 => first | exact oneCell _ | rfl
      case c3 => unfold maxLen; omega
      case c4 => omega
      case c5 => first | omega | (simp; omega)
      intro v' w3 hown1 hgrow _
      have hb : Below w1.heap.size wr w3 := ((Below.refl w1.heap.size wr).alloc hsz (Obj.cells #[Value.int IntKind.i64 (k : Int)] 3)).grown hgrow (by simp; omega) (fun q hq => (hown.lt q hq).1)
      have HO3 : Hid (w3.ownsRow w1.heap.size 3 1 v' (xs ++ [(k : Int)]).length ((xs ++ [(k : Int)]).map (Value.int .i64))) := Lib.hid (by simpa using hown1)
      have HB3 := Lib.hid (HW.out.trans hb)
      have hcq := HCQ.out w3 hb
      clear hown1 hgrow hb hown
      go_wp2
      go_roundw
      case rel => exact ⟨q, xs ++ [(k : Int)], v', rfl, rfl, HS.out, HO3.out, HB3.out⟩
      case measure => simp [intOf]; omega
    · have HD := Lib.hid (hd.done h0)
      have hb0 : decide (0 ≤ cc) = false := decide_eq_false h0
      have HBW := Lib.hid (HB.out.trans (hbel.mono HB.out.size))
      have HO : Hid (wr.ownsRow w.heap.size 3 1 ov xs.length (xs.map (Value.int .i64))) := Lib.hid (by
        refine ⟨hown.1, ?_⟩
        rcases hown.2 with hn | ⟨g', cap, cur, hv, hbb, rest⟩
        · exact .inl hn
        · exact .inr ⟨g', cap, cur, hv, Nat.le_trans HB.out.size hbb, rest⟩)
      clear hd h0 hown hbel
      go_wp2
      go_ret
      exact ⟨_, rfl, xs, HO.out, HD.out, HBW.out⟩
theorem closBo (x : Int) (w : World) : Calls Try.prog 30 #[.int .i64 x] w fun e w' => e = .returned (.int .i64 x) ∧ w = w' := by
  go_enter Try.func30, Try.ntmps30
  go_wp2
  go_ret
  exact ⟨rfl, rfl⟩
set_option maxHeartbeats 4000000 in
theorem mapBo (v : Value) (xs : List Int) (B : Nat) (w : World) (h : w.ownsRow B 3 1 v xs.length (xs.map (Value.int .i64))) (hl : xs.length ≤ 1000) (hf : ∀ x ∈ xs, 0 ≤ x ∧ x ≤ 1000) :
    Calls Try.prog 28 #[v, .func (Fn.func 30) #[] #[]] w fun e w' => ∃ u, e = .returned u ∧ Ow w' w.heap.size w'.heap.size u xs ∧ Below w.heap.size w w' := by
  have HV : Hid (∃ (a : Option Addr) (c : Nat), v = .slice a xs.length c ∧ (xs ≠ [] → ∃ b, a = some ⟨b, 0, none⟩ ∧ b < w.heap.size ∧ ∀ i, i < xs.length → w.cell? ⟨b, i, none⟩ = some (.int .i64 (xs.getD i 0)))) := Lib.hid (by
    rcases h.2 with ⟨hv, h0⟩ | ⟨g, cp, cur, hv, h1, h2, h3⟩
    · have hn : xs = [] := List.length_eq_zero_iff.1 h0
      subst hn
      exact ⟨_, _, hv, fun hne => absurd rfl hne⟩
    · refine ⟨_, _, hv, fun _ => ⟨g, rfl, (h.lt g (by rw [hv]; rfl)).2, fun i hi => ?_⟩⟩
      subst hv
      rw [h.cellAt i (by simpa using hi)]
      exact mapAt' hi rfl)
  obtain ⟨a, c, rfl, hr⟩ := HV.out
  have HC := Lib.hid hr
  have HF := Lib.hid hf
  obtain ⟨i0, hi, hz0, hz1, hz2⟩ := info_parts infoE
  clear h hr hf HV
  go_enter Try.func28, Try.ntmps28
  go_wp2
  go_loopw [5, 10] (fun o s wr => ∃ (k : Nat) (ov : Value), o = ov ∧ k ≤ xs.length ∧ s = .int .i64 k ∧ Ow wr w.heap.size wr.heap.size ov (xs.take k) ∧ Below w.heap.size w wr) (fun _ s _ => xs.length - (intOf s).toNat)
  case atStart => exact ⟨0, _, rfl, Nat.zero_le _, rfl, Ow.empty w, Below.refl _ _⟩
  case round =>
    obtain ⟨k, ov, hov, hk, rfl, hown, hbel⟩ := hrel
    obtain rfl := hov.symm
    have HW := Lib.hid hbel
    have HOV := Lib.hid hown
    by_cases hlt : k < xs.length
    · obtain ⟨b, rfl, hb, hcell⟩ := HC.out (by intro h0; rw [h0] at hlt; simp at hlt)
      obtain ⟨x, hx⟩ : ∃ x, x = xs.getD k 0 := ⟨_, rfl⟩
      have hc : wr.cell? ⟨b, k, none⟩ = some (.int .i64 x) := by rw [hx]; exact (hbel.cell (p := ⟨b, k, none⟩) hb).trans (hcell k hlt)
      have hxm : x ∈ xs := by rw [hx, List.getD_eq_getElem?_getD, List.getElem?_eq_getElem hlt]; exact List.getElem_mem hlt
      have HX := Lib.hid (HF.out x hxm)
      have HS : Hid (xs.take (k + 1) = xs.take k ++ [x]) := Lib.hid (by rw [List.take_succ_eq_append_getElem hlt, hx, List.getD_eq_getElem?_getD, List.getElem?_eq_getElem hlt]; rfl)
      obtain ⟨ys, hys⟩ : ∃ ys, ys = xs.take k := ⟨_, rfl⟩
      have hyl : ys.length ≤ 1000 := by rw [hys, List.length_take]; omega
      rw [← hys] at HS hown HOV
      have i0' : (0 : Int) ≤ (k : Int) := by omega
      have i1 : (k : Int) < (xs.length : Int) := by omega
      have hrow := hown.row.alloc (Obj.cells #[Value.int IntKind.i64 x] 2)
      have hbs := hown.base
      clear hbel hcell hx hxm hys hown
      go_wp2_with fail
      refine (closBo x _).mono ?_
      rintro e w1 ⟨rfl, rfl⟩
      go_wp2_with (at_builtin; refine wpList_append_own _ rfl _ _ 24 rfl w.heap.size 2 i0 (.int .i64 0) 1 8 Try.underlying24 hi hz0 hz1 hz2 rfl (by decide) _ _ _ rfl hrow ⟨_, 0, none⟩ 1 1 [.int .i64 x] rfl rfl ?c1 ?c2 ?c3 ?c4 ?c5 ?_)
      try (case c1 => exact cellNew _ _ _)
      case c2 => first | exact oneCell _ | rfl
      case c3 => unfold maxLen; omega
      case c4 => omega
      case c5 => first | omega | (simp; omega)
      intro v' w3 hown1 hgrow _
      obtain ⟨ho, hb3⟩ := HOV.out.snoc (by have := HX.out; omega) (by omega) hown1 hgrow
      have HO3 := Lib.hid ho
      have HB3 := Lib.hid (HW.out.trans hb3)
      clear hown1 hgrow ho hb3 hrow
      go_wp2
      go_roundw
      case rel => exact ⟨k + 1, v', rfl, by omega, by go_num, by rw [HS.out]; exact HO3.out, HB3.out⟩
      case measure => simp [intOf]; omega
    · obtain rfl : k = xs.length := by omega
      have HO : Hid (Ow wr w.heap.size wr.heap.size ov xs) := Lib.hid (by rw [List.take_length] at hown; exact hown)
      have hnlt : ¬ ((xs.length : Int) < (xs.length : Int)) := by omega
      clear hown hbel hlt HOV
      go_wp2
      go_ret
      exact ⟨_, rfl, HO.out, HW.out⟩
set_option maxHeartbeats 4000000 in
theorem implBordersOf (v : Value) (zs : List Int) (w : World) (h : Rd w v zs) :
    Calls Try.prog 12 #[v] w fun e w' => ∃ r, e = .returned (.tuple #[r, .int .i64 (boC zs)]) ∧ Ow w' w.heap.size w'.heap.size r (boL zs) ∧ Below w.heap.size w w' := by
  have HV := Lib.hid h
  obtain ⟨_, _, a, c, rfl, hcap, _⟩ := h
  rcases eqOr (wordB zs) with hn | hn
  · have HN := Lib.hid hn
    have e := Lib.hid (bo_bad hn)
    clear hn
    go_enter Try.func12, Try.ntmps12
    go_wp2_with (go_at_call 26; refine (implWord _ zs _ HV.out).mono ?_; rintro e2 w' ⟨rfl, hb⟩; rw [HN.out]; have HB := Lib.hid hb; clear hb)
    go_ret2
    exact ⟨_, by rw [e.out.2] <;> rfl, by rw [e.out.1]; exact Ow.emptyUp HB.out.size, HB.out⟩
  have HN := Lib.hid hn
  have e0 := Lib.hid (bo_good hn)
  have hz := (wordB_iff hn).1
  clear hn
  go_enter Try.func12, Try.ntmps12
  go_wp2_with fail
  refine (implWord _ zs _ HV.out).mono ?_
  rintro e2 w0 ⟨rfl, hb⟩
  rw [HN.out]
  have HB0 := Lib.hid hb
  clear hb
  go_wp2_with fail
  refine (implBo _ zs _ (HV.out.below HB0.out (Nat.le_refl _)) hz).mono ?_
  rintro e w1 ⟨u, rfl, xs, ho, hrev, hb⟩
  have HB := Lib.hid (HB0.out.trans (hb.mono HB0.out.size))
  have HO := Lib.hid ho
  have HREV := Lib.hid hrev
  have hxl : xs.length ≤ 1000 := by
    have h1 := congrArg List.length hrev
    have h2 := asc_len zs zs.length zs.length
    rw [List.length_reverse] at h1; omega
  have HF : Hid (∀ x ∈ xs, 0 ≤ x ∧ x ≤ 1000) := Lib.hid (fun x hx => by
    have := asc_mem zs zs.length zs.length x (by rw [← hrev]; simpa using hx)
    omega)
  clear hb ho hrev
  go_wp2_with fail
  refine (mapBo _ xs _ _ HO.out hxl HF.out).mono ?_
  rintro e w2 ⟨r, rfl, ho, hb⟩
  have HO2 := Lib.hid ho
  have HB2 := Lib.hid (HB.out.trans (hb.mono HB.out.size))
  clear hb ho
  go_wp2_with (go_at_call 31; refine (libReverse _ xs _ _ _ HO2.out).mono ?_; rintro e2 w3 ⟨rfl, ho, hg⟩; have HB3 := Lib.hid (HB2.out.trans (hg.mono HB.out.size)); have HO3 := Lib.hid (ho.mono (B' := w.heap.size) HB.out.size ho.size (Nat.le_refl _)); clear ho hg)
  go_ret2
  exact ⟨_, by rw [e0.out.2] <;> rfl, by rw [e0.out.1, ← HREV.out]; exact HO3.out, HB3.out⟩
end Go.Proofs.Ytgfidlppocheoaa.Ints
