/- Contracts of BordersOf, of the model and of the program. -/
import Derived.Test.YtknlpoeolicinaaPer
import Derived.Test.YtknlpoeolicinaaRev
namespace Go.Proofs.Ytknlpoeolicinaa.Ints
open Go.RowKit
set_option linter.unusedVariables false

noncomputable def boL (zs : List Int) : List Int := if wordB zs = true then asc zs zs.length zs.length else []
noncomputable def boC (zs : List Int) : Int := if wordB zs = true then 0 else 1
theorem bo_bad {zs : List Int} (h : wordB zs = false) : boL zs = [] ∧ boC zs = 1 := by simp [boL, boC, h]
theorem bo_good {zs : List Int} (h : wordB zs = true) : boL zs = asc zs zs.length zs.length ∧ boC zs = 0 := by simp [boL, boC, h]
set_option maxHeartbeats 4000000 in
theorem specBordersOf (v : Value) (zs : List Int) (w : World) (h : Rd w v zs) :
    Calls Try.prog 31 #[v] w fun e w' => ∃ r, e = .returned (.tuple #[r, .int .i64 (boC zs)]) ∧ Ow w' w.heap.size w'.heap.size r (boL zs) ∧ Below w.heap.size w w' := by
  have HV := Lib.hid h
  obtain ⟨_, _, a, c, rfl, hcap, _⟩ := h
  rcases eqOr (wordB zs) with hn | hn
  · have HN := Lib.hid hn
    have e := Lib.hid (bo_bad hn)
    clear hn
    go_enter Try.func31, Try.ntmps31
    go_wp2_with (go_at_call 44; refine (specWord _ zs _ HV.out).mono ?_; rintro e2 w' ⟨rfl, rfl⟩; rw [HN.out])
    go_ret2
    exact ⟨_, by rw [e.out.2] <;> rfl, by rw [e.out.1]; exact Ow.empty w, Below.refl _ _⟩
  have HN := Lib.hid hn
  have e0 := Lib.hid (bo_good hn)
  have hz := (wordB_iff hn).1
  clear hn
  obtain ⟨i0, hi, hz0, hz1, hz2⟩ := info_parts infoE
  go_enter Try.func31, Try.ntmps31
  go_wp2_with fail
  refine (specWord _ zs _ HV.out).mono ?_
  rintro e2 w' ⟨rfl, rfl⟩
  rw [HN.out]
  have HB1 := Lib.hid ((Below.refl w.heap.size w).alloc (Nat.le_refl _) (Obj.cells #[] 2))
  go_wp2
  go_loopw [4, 5] (fun o s wr => ∃ (k : Nat) (ov : Value), o = ov ∧ s = .int .i64 k ∧ k ≤ zs.length ∧ Ow wr w.heap.size wr.heap.size ov (asc zs zs.length k) ∧ Below w.heap.size w wr) (fun _ s _ => zs.length - (intOf s).toNat)
  case atStart => exact ⟨0, _, rfl, rfl, Nat.zero_le _, Ow.made w, HB1.out⟩
  case round =>
    obtain ⟨k, ov, hov, rfl, hk, hown, hbel⟩ := hrel
    obtain rfl := hov.symm
    have HW := Lib.hid hbel
    have HOV := Lib.hid hown
    have hal := asc_len zs zs.length k
    by_cases hlt : k < zs.length
    · have hv' := HV.out.below hbel (Nat.le_refl _)
      have hc0 := hv'.cut (zs.length - k) zs.length (by omega) (Nat.le_refl _)
      rw [List.take_length] at hc0
      have hf0 := hv'.front k (by omega)
      obtain ⟨wd, hwd⟩ : ∃ x, x = wr.drew := ⟨_, rfl⟩
      have hbd : Below wr.heap.size wr wd := by rw [hwd]; exact (Below.refl _ _).drew
      obtain ⟨ad, had⟩ : ∃ ad, ad = (if c = zs.length - k then a else Option.map (fun x => x.add (zs.length - k)) a) := ⟨_, rfl⟩
      have hc1 : Rd wd (.slice ad (zs.length - (zs.length - k)) (c - (zs.length - k))) (zs.drop (zs.length - k)) := by rw [had]; exact hc0.below hbd (Nat.le_refl _)
      have hf1 : Rd wd (.slice a k c) (zs.take k) := hf0.below hbd (Nat.le_refl _)
      obtain ⟨xs, hxs⟩ : ∃ xs, xs = zs.take k := ⟨_, rfl⟩
      obtain ⟨ys, hys⟩ : ∃ ys, ys = zs.drop (zs.length - k) := ⟨_, rfl⟩
      rw [← hys] at hc1
      rw [← hxs] at hf1
      have HC := Lib.hid hc1
      have HF := Lib.hid hf1
      have HAD := Lib.hid had
      have HWD := Lib.hid hwd
      have HBD := Lib.hid ((HW.out.trans (hbd.mono HW.out.size)))
      have HOD : Hid (Ow wd w.heap.size wd.heap.size ov (asc zs zs.length k)) := Lib.hid ((hown.below hbd (Nat.le_refl _)).up)
      have i1 : (k : Int) ≤ (zs.length : Int) := by omega
      have i2 : (k : Int) < (zs.length : Int) := by omega
      have i3 : (0 : Int) ≤ (zs.length : Int) - (k : Int) := by omega
      have i4 : ((zs.length : Int) - (k : Int)).toNat = zs.length - k := by omega
      have i5 : IntKind.i64.wrap ((zs.length : Int) - (k : Int)) = (zs.length : Int) - (k : Int) := by rw [IntKind.wrap_i64]; omega
      have i6 : (zs.length : Int) - (k : Int) ≤ (zs.length : Int) := by omega
      have i7 : (k : Int) ≤ (c : Int) := by omega
      have i8 : (0 : Int) ≤ (k : Int) := by omega
      have i9 : (zs.length : Int) - (k : Int) ≤ (c : Int) := by omega
      obtain ⟨A, hA⟩ : ∃ A, A = asc zs zs.length k := ⟨_, rfl⟩
      rw [← hA] at HOD hal
      by_cases hs : xs = ys
      · have HS : Hid (decide (xs = ys) = true) := Lib.hid (decide_eq_true hs)
        have HE : Hid (asc zs zs.length (k + 1) = A ++ [(k : Int)]) := Lib.hid (by rw [asc_pos ((isB_same hlt).2 (by rw [← hxs, ← hys]; exact hs)), hA])
        clear hs hxs hys hbel hv' hc0 hf0 hc1 hf1 had hwd hbd hown HOV hA
        go_wp2_with fail
        go_still_tail 9, (by kernel_rfl)
        change wpList _ _ _ _ _ wr.drew
        rw [← HWD.out, ← HAD.out]
        go_wp2_with fail
        refine (specSame _ _ xs ys _ HF.out HC.out).mono ?_
        rintro e w2 ⟨rfl, hb⟩
        rw [HS.out]
        have HB2 := Lib.hid (HBD.out.trans (hb.mono HBD.out.size))
        have HO2 := Lib.hid ((HOD.out.below hb (Nat.le_refl _)).up)
        have hrow := HO2.out.row.alloc (Obj.cells #[Value.int IntKind.i64 (k : Int)] 2)
        clear hb
        go_wp2_with (at_builtin; refine wpList_append_own _ rfl _ _ 22 rfl w.heap.size 2 i0 (.int .i64 0) 1 8 Try.underlying22 hi hz0 hz1 hz2 rfl (by decide) _ _ _ rfl hrow ⟨_, 0, none⟩ 1 1 [.int .i64 (k : Int)] rfl rfl ?c1 ?c2 ?c3 ?c4 ?c5 ?_)
        case c1 => exact cellNew _ _ _
        case c2 => first | exact oneCell _ | rfl
        case c3 => unfold maxLen; omega
        case c4 => omega
        case c5 => have := HB2.out.size; first | omega | (simp; omega)
        intro v' w3 hown1 hgrow _
        obtain ⟨ho, hb⟩ := HO2.out.snoc (by omega) (by omega) hown1 hgrow
        have HO3 := Lib.hid ho
        have HB3 := Lib.hid (HB2.out.trans hb)
        clear hown1 hgrow ho hb hrow
        go_wp2
        go_roundw
        case rel => exact ⟨k + 1, v', rfl, by go_num, by omega, by rw [HE.out]; exact HO3.out, HB3.out⟩
        case measure => simp [intOf]; omega
      · have HS : Hid (decide (xs = ys) = false) := Lib.hid (decide_eq_false hs)
        have HE : Hid (asc zs zs.length (k + 1) = A) := Lib.hid (by rw [asc_neg (fun g => hs (by rw [hxs, hys]; exact (isB_same hlt).1 g)), hA])
        clear hs hxs hys hbel hv' hc0 hf0 hc1 hf1 had hwd hbd hown HOV hA
        go_wp2_with fail
        go_still_tail 9, (by kernel_rfl)
        change wpList _ _ _ _ _ wr.drew
        rw [← HWD.out, ← HAD.out]
        go_wp2_with fail
        refine (specSame _ _ xs ys _ HF.out HC.out).mono ?_
        rintro e w2 ⟨rfl, hb⟩
        rw [HS.out]
        have HB2 := Lib.hid (HBD.out.trans (hb.mono HBD.out.size))
        have HO2 := Lib.hid ((HOD.out.below hb (Nat.le_refl _)).up)
        clear hb
        go_wp2
        go_roundw
        case rel => exact ⟨k + 1, ov, rfl, by go_num, by omega, by rw [HE.out]; exact HO2.out, HB2.out⟩
        case measure => simp [intOf]; omega
    · obtain rfl : k = zs.length := by omega
      obtain ⟨ga, gc, hg⟩ := hown.shape
      have i1 : ¬ (zs.length : Int) < (zs.length : Int) := by omega
      clear hown hbel
      subst hg
      go_wp2
      go_ret2
      exact ⟨_, by rw [e0.out.2] <;> rfl, by rw [e0.out.1]; exact HOV.out, HW.out⟩
set_option maxHeartbeats 4000000 in
theorem implBordersOf (v : Value) (zs : List Int) (w : World) (h : Rd w v zs) :
    Calls Try.prog 32 #[v] w fun e w' => ∃ r, e = .returned (.tuple #[r, .int .i64 (boC zs)]) ∧ Ow w' w.heap.size w'.heap.size r (boL zs) ∧ Below w.heap.size w w' := by
  have HV := Lib.hid h
  obtain ⟨_, _, a, c, rfl, hcap, _⟩ := h
  rcases eqOr (wordB zs) with hn | hn
  · have HN := Lib.hid hn
    have e := Lib.hid (bo_bad hn)
    clear hn
    go_enter Try.func32, Try.ntmps32
    go_wp2_with (go_at_call 17; refine (implWord _ zs _ HV.out).mono ?_; rintro e2 w' ⟨rfl, hb⟩; rw [HN.out]; have HB := Lib.hid hb; clear hb)
    go_ret2
    exact ⟨_, by rw [e.out.2] <;> rfl, by rw [e.out.1]; exact Ow.emptyUp HB.out.size, HB.out⟩
  have HN := Lib.hid hn
  have e0 := Lib.hid (bo_good hn)
  have hz := (wordB_iff hn).1
  clear hn
  obtain ⟨i0, hi, hz0, hz1, hz2⟩ := info_parts infoE
  go_enter Try.func32, Try.ntmps32
  go_wp2_with fail
  refine (implWord _ zs _ HV.out).mono ?_
  rintro e2 w0 ⟨rfl, hb⟩
  rw [HN.out]
  have HB0 := Lib.hid hb
  clear hb
  go_wp2_with fail
  refine (implTable _ zs _ (HV.out.below HB0.out (Nat.le_refl _)) hz).mono ?_
  rintro e w1 ⟨r, rfl, ho, hb⟩
  have HB := Lib.hid (HB0.out.trans (hb.mono HB0.out.size))
  obtain ⟨g, rfl, hg1, hg2, hown⟩ := ho.ex
  rw [tabL_length] at hown ⊢
  have htab : ∀ i, i < zs.length + 1 → w1.cell? ⟨g, i, none⟩ = some (.int .i64 (mb zs i)) := fun i hi => by
    rw [hown.cellAt i (by omega)]
    exact mapAt' (by rw [tabL_length]; omega) (tabL_at _ _ _ hi)
  have HT := Lib.hid htab
  obtain ⟨m, hm⟩ : ∃ m, m = mb zs zs.length := ⟨_, rfl⟩
  have hc : w1.cell? ⟨g, zs.length, none⟩ = some (.int .i64 m) := by rw [hm]; exact htab zs.length (by omega)
  have HM := Lib.hid hm
  have i1 : (zs.length : Int) < (zs.length : Int) + 1 := by omega
  clear ho hb hown hm htab
  go_wp2
  go_loopw [5, 6] (fun o s wr => ∃ (cc : Int) (xs : List Int) (ov : Value), o = ov ∧ s = .int .i64 cc ∧ Desc zs zs.length cc xs ∧ Ow wr w1.heap.size wr.heap.size ov xs ∧ Below w1.heap.size w1 wr) (fun _ s _ => (intOf s + 1).toNat)
  case atStart => exact ⟨m, [], _, rfl, rfl, by rw [HM.out]; exact Desc.start zs zs.length, Ow.empty w1, Below.refl _ _⟩
  case round =>
    obtain ⟨cc, xs, ov, hov, rfl, hd, hown, hbel⟩ := hrel
    obtain rfl := hov.symm
    have HW := Lib.hid hbel
    have HOV := Lib.hid hown
    by_cases h0 : 0 ≤ cc
    · have hxl := hd.len
      obtain ⟨k, rfl, hk, hst⟩ := hd.step h0
      have HS := Lib.hid hst
      obtain ⟨q, hq⟩ : ∃ q, q = mb zs k := ⟨_, rfl⟩
      have hqr := mb_range zs k
      rw [← hq] at hqr HS
      have HCQ : Hid (∀ W, Below w1.heap.size wr W → W.cell? ⟨g, k, none⟩ = some (.int .i64 q)) := Lib.hid (fun W hW => by rw [hq]; exact (hW.cell (p := ⟨g, k, none⟩) hg2).trans ((hbel.cell (p := ⟨g, k, none⟩) hg2).trans (HT.out k (by omega))))
      have hrow := hown.row.alloc (Obj.cells #[Value.int IntKind.i64 (k : Int)] 2)
      have hbs := hown.base
      have j1 : (0 : Int) ≤ (k : Int) := by omega
      have j2 : (k : Int) < (zs.length : Int) + 1 := by omega
      clear hd hst hq hown hbel h0
      go_wp2_with (at_builtin; refine wpList_append_own _ rfl _ _ 22 rfl w1.heap.size 2 i0 (.int .i64 0) 1 8 Try.underlying22 hi hz0 hz1 hz2 rfl (by decide) _ _ _ rfl hrow ⟨_, 0, none⟩ 1 1 [.int .i64 (k : Int)] rfl rfl ?c1 ?c2 ?c3 ?c4 ?c5 ?_)
      case c2 => first | exact oneCell _ | rfl
      case c3 => unfold maxLen; omega
      case c4 => omega
      case c5 => first | omega | (simp; omega)
      intro v' w3 hown1 hgrow _
      obtain ⟨ho, hb⟩ := HOV.out.snoc (by omega) (by omega) hown1 hgrow
      have HO3 := Lib.hid ho
      have HB3 := Lib.hid (HW.out.trans hb)
      have hcq := HCQ.out w3 hb
      clear hown1 hgrow ho hb hrow
      go_wp2
      go_roundw
      case rel => exact ⟨q, xs ++ [(k : Int)], v', rfl, rfl, HS.out, HO3.out, HB3.out⟩
      case measure => simp [intOf]; omega
    · have HD := Lib.hid (hd.done h0)
      have hb0 : decide (0 ≤ cc) = false := decide_eq_false h0
      have HBW := Lib.hid (HB.out.trans (hbel.mono HB.out.size))
      clear hd h0 hown hbel
      go_wp2_with (go_at_call 60; refine (libReverse _ xs _ _ _ HOV.out).mono ?_; rintro e2 w2 ⟨rfl, ho, hg⟩; have HB2 := Lib.hid (HBW.out.trans (hg.mono HB.out.size)); have HO2 := Lib.hid (ho.mono (B' := w.heap.size) HB.out.size ho.size (Nat.le_refl _)); clear ho hg)
      go_ret2
      exact ⟨_, by rw [e0.out.2] <;> rfl, by rw [e0.out.1, ← HD.out]; exact HO2.out, HB2.out⟩
end Go.Proofs.Ytknlpoeolicinaa.Ints
