/- Valid rewriting rules: the model's and the program's tests. -/
import Derived.Test.YtbigoljfanendaaDoorRws2
import Derived.Test.YtbigoljfanendaaDoorWords
namespace Go.Proofs.YtbigoljfanendaaDoor.Ints
open Go.RowKit
set_option linter.unusedVariables false
set_option linter.unusedSimpArgs false
noncomputable def rwB (t : Tp) : Bool := wordB t.l && (wordB t.r && decide (0 < t.l.length))
noncomputable def rwA (ts : List Tp) : Bool := ts.all rwB
noncomputable def rwsB (ts : List Tp) : Bool := decide (1 ≤ ts.length ∧ ts.length ≤ 60) && rwA ts
theorem rwA_true {ts : List Tp} (h : ∀ i, i < ts.length → rwB (ts.getD i tp0) = true) : rwA ts = true := by
  rw [rwA, List.all_eq_true]
  intro x hx
  obtain ⟨i, hi, rfl⟩ := List.getElem_of_mem hx
  have := h i hi
  rwa [List.getD_eq_getElem?_getD, List.getElem?_eq_getElem hi] at this
theorem rwA_false {ts : List Tp} {i : Nat} (hi : i < ts.length) (h : rwB (ts.getD i tp0) = false) : rwA ts = false := by
  rw [rwA, List.all_eq_false]
  refine ⟨_, List.getElem_mem hi, ?_⟩
  rw [List.getD_eq_getElem?_getD, List.getElem?_eq_getElem hi] at h
  simp at h
  simp [h]
theorem rwA_at {ts : List Tp} (h : rwA ts = true) {i : Nat} (hi : i < ts.length) : rwB (ts.getD i tp0) = true := by
  rw [rwA, List.all_eq_true] at h
  have := h _ (List.getElem_mem hi)
  rwa [List.getD_eq_getElem?_getD, List.getElem?_eq_getElem hi]
theorem rwsB_len {ts : List Tp} (h : rwsB ts = true) : 1 ≤ ts.length ∧ ts.length ≤ 60 := by
  simp only [rwsB, Bool.and_eq_true, decide_eq_true_iff] at h
  exact h.1
theorem rwsB_all {ts : List Tp} (h : rwsB ts = true) : rwA ts = true := by
  simp only [rwsB, Bool.and_eq_true, decide_eq_true_iff] at h
  exact h.2
theorem rwB_both {t : Tp} (h : rwB t = true) : Word t.l ∧ Word t.r ∧ 0 < t.l.length := by
  simp only [rwB, Bool.and_eq_true, decide_eq_true_iff] at h
  exact ⟨wordB_iff h.1, wordB_iff h.2.1, h.2.2⟩
set_option maxHeartbeats 2000000 in
theorem specRws (v : Value) (ts : List Tp) (w : World) (h : RdT w v ts) :
    Calls Tryd.prog 67 #[v] w fun e w' => e = .returned (.bool (rwsB ts)) ∧ w = w' := by
  have HV := Lib.hid h
  have hl := h.len
  obtain ⟨_, a, c, rfl, hcap, hr⟩ := h
  by_cases h1 : 1 ≤ ts.length
  rotate_left
  · have HF : Hid (rwsB ts = false) := Lib.hid (by simp [rwsB, h1])
    have g1 : (ts.length : Int) < 1 := by omega
    go_enter Tryd.func67, Tryd.ntmps67
    go_wp2
    go_ret
    exact ⟨by rw [HF.out] <;> rfl, rfl⟩
  by_cases h2 : ts.length ≤ 60
  rotate_left
  · have HF : Hid (rwsB ts = false) := Lib.hid (by simp [rwsB, h2])
    have g1 : ¬ (ts.length : Int) < 1 := by omega
    have g2 : (60 : Int) < (ts.length : Int) := by omega
    go_enter Tryd.func67, Tryd.ntmps67
    go_wp2
    go_ret
    exact ⟨by rw [HF.out] <;> rfl, rfl⟩
  have g1 : ¬ (ts.length : Int) < 1 := by omega
  have g2 : ¬ (60 : Int) < (ts.length : Int) := by omega
  have HT : Hid (rwsB ts = rwA ts) := Lib.hid (by simp [rwsB, h1, h2])
  go_enter Tryd.func67, Tryd.ntmps67
  go_wp2
  go_loop [3] (fun s => ∃ k : Nat, k ≤ ts.length ∧ s = .int .i64 k ∧ ∀ i, i < k → rwB (ts.getD i tp0) = true) (fun s => ts.length - (intOf s).toNat)
  case atStart => exact ⟨0, Nat.zero_le _, rfl, fun i hi => by omega⟩
  case round =>
    obtain ⟨k, hk, rfl, hall⟩ := hrel
    have HA := Lib.hid hall
    clear hall
    by_cases hlt : k < ts.length
    · obtain ⟨b, o, rfl, hb, hcell⟩ := hr (by intro h0; rw [h0] at hlt; simp at hlt)
      obtain ⟨x, y, c0, c1, hx, hy⟩ := hcell k hlt
      obtain ⟨t, ht⟩ : ∃ t, t = ts.getD k tp0 := ⟨_, rfl⟩
      rw [← ht] at hx hy
      obtain ⟨l, r⟩ := t
      dsimp only at hx hy
      have HX := Lib.hid hx
      have HY := Lib.hid hy
      obtain ⟨hxl, _, ax, cx, rfl, _, _⟩ := hx
      obtain ⟨_, _, ay, cy, rfl, _, _⟩ := hy
      have HZ := Lib.hid ht
      have i0 : (0 : Int) ≤ (k : Int) := by omega
      have i1 : (k : Int) < (ts.length : Int) := by omega
      clear hcell hr ht
      rcases eqOr (wordB l) with hn | hn
      · have HN := Lib.hid hn
        have HF : Hid (rwA ts = false) := Lib.hid (rwA_false hlt (by rw [← HZ.out]; simp [rwB, hn]))
        clear hn
        go_wp2_with fail
        refine (specWord _ l _ HX.out).mono ?_
        rintro e w1 ⟨rfl, rfl⟩
        rw [HN.out]
        go_wp2
        go_ret
        exact ⟨by rw [HT.out, HF.out] <;> rfl, rfl⟩
      have HN := Lib.hid hn
      clear hn
      rcases eqOr (wordB r) with hn | hn
      · have HN2 := Lib.hid hn
        have HF : Hid (rwA ts = false) := Lib.hid (rwA_false hlt (by rw [← HZ.out]; simp [rwB, hn]))
        clear hn
        go_wp2_with fail
        refine (specWord _ l _ HX.out).mono ?_
        rintro e w1 ⟨rfl, rfl⟩
        rw [HN.out]
        go_wp2_with fail
        refine (specWord _ r _ HY.out).mono ?_
        rintro e w1 ⟨rfl, rfl⟩
        rw [HN2.out]
        go_wp2
        go_ret
        exact ⟨by rw [HT.out, HF.out] <;> rfl, rfl⟩
      have HN2 := Lib.hid hn
      clear hn
      by_cases hp : 0 < l.length
      rotate_left
      · have HF : Hid (rwA ts = false) := Lib.hid (rwA_false hlt (by rw [← HZ.out]; simp [rwB, hp]))
        have hp' : (l.length : Int) = 0 := by omega
        go_wp2_with fail
        refine (specWord _ l _ HX.out).mono ?_
        rintro e w1 ⟨rfl, rfl⟩
        rw [HN.out]
        go_wp2_with fail
        refine (specWord _ r _ HY.out).mono ?_
        rintro e w1 ⟨rfl, rfl⟩
        rw [HN2.out]
        go_wp2
        go_ret
        exact ⟨by rw [HT.out, HF.out] <;> rfl, rfl⟩
      have hp' : ¬ (l.length : Int) = 0 := by omega
      have HM : Hid (∀ i, i < k + 1 → rwB (ts.getD i tp0) = true) := Lib.hid (fun i hi => by
        by_cases he : i = k
        · subst he; rw [← HZ.out]; simp [rwB, HN.out, HN2.out, hp]
        · exact HA.out i (by omega))
      go_wp2_with fail
      refine (specWord _ l _ HX.out).mono ?_
      rintro e w1 ⟨rfl, rfl⟩
      rw [HN.out]
      go_wp2_with fail
      refine (specWord _ r _ HY.out).mono ?_
      rintro e w1 ⟨rfl, rfl⟩
      rw [HN2.out]
      go_wp2
      go_round
      case rel => exact ⟨k + 1, by omega, by go_num, HM.out⟩
      case measure => simp [intOf]; omega
    · obtain rfl : k = ts.length := by omega
      have HF := Lib.hid (rwA_true (ts := ts) (fun i hi => HA.out i hi))
      have hnlt : ¬ ((ts.length : Int) < (ts.length : Int)) := by omega
      go_wp2
      go_ret
      exact ⟨by rw [HT.out, HF.out] <;> rfl, rfl⟩
set_option maxRecDepth 100000 in
theorem implHasW (u v : Value) (xs ys : List Int) (w : World) (hu : Rd w u xs) (hv : Rd w v ys) :
    Calls Tryd.prog 145 #[.agg #[u, v]] w fun e w' => e = .returned (.bool (wordB xs && wordB ys)) ∧ Below w.heap.size w w' := by
  have HU := Lib.hid hu
  have HV := Lib.hid hv
  obtain ⟨_, _, a, c, rfl, _, _⟩ := hu
  obtain ⟨_, _, a2, c2, rfl, _, _⟩ := hv
  obtain ⟨W0, hW0⟩ : ∃ x, x = w.alloc (Obj.cells #[.slice a xs.length c, .slice a2 ys.length c2] 97) := ⟨_, rfl⟩
  have HB0 : Hid (Below w.heap.size w W0) := Lib.hid (by rw [hW0]; exact (Below.refl _ _).alloc (Nat.le_refl _) _)
  have K0 : Cels W0 w.heap.size 97 [.slice a xs.length c, .slice a2 ys.length c2] := by rw [hW0]; exact Cels.new _ _ _
  have z0 := K0.cell 0 rfl
  have z1 := K0.cell 1 rfl
  have HL : Hid (RdL (W0.alloc (.cells #[.slice a xs.length c, .slice a2 ys.length c2] 32)) (.slice (some ⟨w.heap.size + 1, 0, none⟩) 2 2) [xs, ys]) := Lib.hid ((show w.heap.size + 1 = W0.heap.size by rw [hW0]; simp) ▸ rdl_two (HU.out.below HB0.out (Nat.le_refl _)) (HV.out.below HB0.out (Nat.le_refl _)))
  have HB1 : Hid (Below w.heap.size w (W0.alloc (.cells #[.slice a xs.length c, .slice a2 ys.length c2] 32))) := Lib.hid (HB0.out.alloc HB0.out.size _)
  have HW0 := Lib.hid hW0.symm
  have HE : Hid (allW [xs, ys] = (wordB xs && wordB ys)) := Lib.hid (allW_two xs ys)
  clear hW0 K0
  go_enter Tryd.func145, Tryd.ntmps145
  go_wp2_with fail
  rw [HW0.out]
  go_wp2_with (go_at_call 180; refine (areWords_any _ [xs, ys] _ HL.out).mono ?_; rintro e w1 ⟨rfl, hb⟩; have HB2 := Lib.hid (HB1.out.trans (hb.mono HB1.out.size)); clear hb)
  go_ret
  exact ⟨by rw [HE.out] <;> rfl, HB2.out⟩
theorem implIsVal (u v : Value) (xs ys : List Int) (w : World) (hu : Rd w u xs) (hv : Rd w v ys) :
    Calls Tryd.prog 113 #[.agg #[u, v]] w fun e w' => e = .returned (.bool (rwB ⟨xs, ys⟩)) ∧ Below w.heap.size w w' := by
  have HU := Lib.hid hu
  have HV := Lib.hid hv
  obtain ⟨_, _, a, c, rfl, _, _⟩ := hu
  obtain ⟨_, _, a2, c2, rfl, _, _⟩ := hv
  obtain ⟨W0, hW0⟩ : ∃ x, x = w.alloc (Obj.cells #[.slice a xs.length c, .slice a2 ys.length c2] 97) := ⟨_, rfl⟩
  have HB0 : Hid (Below w.heap.size w W0) := Lib.hid (by rw [hW0]; exact (Below.refl _ _).alloc (Nat.le_refl _) _)
  have K0 : Cels W0 w.heap.size 97 [.slice a xs.length c, .slice a2 ys.length c2] := by rw [hW0]; exact Cels.new _ _ _
  have z0 := K0.cell 0 rfl
  have z1 := K0.cell 1 rfl
  have HW0 := Lib.hid hW0.symm
  clear hW0 K0
  by_cases hp : 0 < xs.length
  rotate_left
  · have HF : Hid (rwB ⟨xs, ys⟩ = false) := Lib.hid (by simp [rwB, hp])
    have hp' : ¬ (0 : Int) < (xs.length : Int) := by omega
    go_enter Tryd.func113, Tryd.ntmps113
    go_wp2_with fail
    rw [HW0.out]
    go_wp2
    go_ret
    exact ⟨by rw [HF.out] <;> rfl, HB0.out⟩
  have HF : Hid (rwB ⟨xs, ys⟩ = (wordB xs && wordB ys)) := Lib.hid (by simp [rwB, hp])
  have hp' : (0 : Int) < (xs.length : Int) := by omega
  go_enter Tryd.func113, Tryd.ntmps113
  go_wp2_with fail
  rw [HW0.out]
  go_wp2_with (go_at_call 145; refine (implHasW _ _ xs ys _ (HU.out.below HB0.out (Nat.le_refl _)) (HV.out.below HB0.out (Nat.le_refl _))).mono ?_; rintro e w1 ⟨rfl, hb⟩; have HB2 := Lib.hid (HB0.out.trans (hb.mono HB0.out.size)); clear hb)
  go_ret
  exact ⟨by rw [HF.out] <;> rfl, HB2.out⟩
set_option maxHeartbeats 1000000 in
theorem eachRw (v : Value) (ts : List Tp) (w : World) (h : RdT w v ts) :
    Calls Tryd.prog 144 #[.func (Fn.func 113) #[] #[], v] w fun e w' => e = .returned (.bool (rwA ts)) ∧ Below w.heap.size w w' := by
  have HH := Lib.hid h
  have hl := h.len
  obtain ⟨_, a, c, rfl, hcap, hr⟩ := h
  clear hr
  go_enter Tryd.func144, Tryd.ntmps144
  go_wp2
  go_loopw [9] (fun s wr => ∃ k : Nat, k ≤ ts.length ∧ s = .int .i64 k ∧ (∀ i, i < k → rwB (ts.getD i tp0) = true) ∧ Below w.heap.size w wr) (fun s _ => ts.length - (intOf s).toNat)
  case atStart => exact ⟨0, Nat.zero_le _, rfl, fun i hi => by omega, Below.refl _ _⟩
  case round =>
    obtain ⟨k, hk, rfl, hall, hbel⟩ := hrel
    have HA := Lib.hid hall
    have HB := Lib.hid hbel
    clear hall hbel
    by_cases hlt : k < ts.length
    · obtain ⟨_, a', c', he, _, hr⟩ := HH.out.below HB.out (Nat.le_refl _)
      obtain ⟨b, o, ha, hb, hcell⟩ := hr (by intro h0; rw [h0] at hlt; simp at hlt)
      simp only [Value.slice.injEq] at he
      obtain ⟨rfl, _, rfl⟩ := he
      subst ha
      obtain ⟨x, y, c0, c1, hx, hy⟩ := hcell k hlt
      obtain ⟨t, ht⟩ : ∃ t, t = ts.getD k tp0 := ⟨_, rfl⟩
      rw [← ht] at hx hy
      obtain ⟨l, r⟩ := t
      dsimp only at hx hy
      have HX := Lib.hid hx
      have HY := Lib.hid hy
      obtain ⟨_, _, ax, cx, rfl, _, _⟩ := hx
      obtain ⟨_, _, ay, cy, rfl, _, _⟩ := hy
      have HZ := Lib.hid ht
      have i0 : (0 : Int) ≤ (k : Int) := by omega
      have i1 : (k : Int) < (ts.length : Int) := by omega
      have HQ : Hid (Below wr.heap.size wr (wr.alloc (Obj.cells #[.slice ax l.length cx, .slice ay r.length cy] 97))) := Lib.hid ((Below.refl _ _).alloc (Nat.le_refl _) _)
      have HBA : Hid (Below w.heap.size w (wr.alloc (Obj.cells #[.slice ax l.length cx, .slice ay r.length cy] 97))) := Lib.hid (HB.out.alloc HB.out.size _)
      clear hcell hr ht
      cases hw : rwB ⟨l, r⟩ with
      | true =>
        have HW := Lib.hid hw
        have HN : Hid (∀ i, i < k + 1 → rwB (ts.getD i tp0) = true) := Lib.hid (fun i hi => by
          by_cases he : i = k
          · subst he; rw [← HZ.out]; exact HW.out
          · exact HA.out i (by omega))
        clear hw
        go_wp2_with (go_at_call 113; refine (implIsVal _ _ l r _ (HX.out.below HQ.out (Nat.le_refl _)) (HY.out.below HQ.out (Nat.le_refl _))).mono ?_; rintro e w2 ⟨rfl, hb⟩; rw [HW.out]; have HB2 := Lib.hid (HBA.out.trans (hb.mono HBA.out.size)); clear hb)
        go_roundw
        case rel => exact ⟨k + 1, by omega, by go_num, HN.out, HB2.out⟩
        case measure => simp [intOf]; omega
      | false =>
        have HW := Lib.hid hw
        have HF := Lib.hid (rwA_false hlt (by rw [← HZ.out]; exact hw))
        clear hw
        go_wp2_with (go_at_call 113; refine (implIsVal _ _ l r _ (HX.out.below HQ.out (Nat.le_refl _)) (HY.out.below HQ.out (Nat.le_refl _))).mono ?_; rintro e w2 ⟨rfl, hb⟩; rw [HW.out]; have HB2 := Lib.hid (HBA.out.trans (hb.mono HBA.out.size)); clear hb)
        go_ret
        exact ⟨by rw [HF.out] <;> rfl, HB2.out⟩
    · obtain rfl : k = ts.length := by omega
      have HF := Lib.hid (rwA_true (ts := ts) (fun i hi => HA.out i hi))
      go_wp2
      go_ret
      exact ⟨by rw [HF.out] <;> rfl, HB.out⟩
theorem implValidRws (v : Value) (ts : List Tp) (w : World) (h : RdT w v ts) :
    Calls Tryd.prog 73 #[v] w fun e w' => e = .returned (.bool (rwsB ts)) ∧ Below w.heap.size w w' := by
  have H := Lib.hid h
  have hl := h.len
  obtain ⟨_, a, c, rfl, hcap, _⟩ := h
  by_cases h1 : 1 ≤ ts.length
  rotate_left
  · have HF : Hid (rwsB ts = false) := Lib.hid (by simp [rwsB, h1])
    have g1 : ¬ (1 : Int) ≤ (ts.length : Int) := by omega
    go_enter Tryd.func73, Tryd.ntmps73
    go_wp2
    go_ret
    exact ⟨by rw [HF.out] <;> rfl, Below.refl _ _⟩
  by_cases h2 : ts.length ≤ 60
  rotate_left
  · have HF : Hid (rwsB ts = false) := Lib.hid (by simp [rwsB, h2])
    have g1 : (1 : Int) ≤ (ts.length : Int) := by omega
    have g2 : ¬ (ts.length : Int) ≤ 60 := by omega
    go_enter Tryd.func73, Tryd.ntmps73
    go_wp2
    go_ret
    exact ⟨by rw [HF.out] <;> rfl, Below.refl _ _⟩
  have g1 : (1 : Int) ≤ (ts.length : Int) := by omega
  have g2 : (ts.length : Int) ≤ 60 := by omega
  have HT : Hid (rwsB ts = rwA ts) := Lib.hid (by simp [rwsB, h1, h2])
  go_enter Tryd.func73, Tryd.ntmps73
  go_wp2_with (first | (go_at_call 144; refine (eachRw _ ts _ H.out).mono ?_; rintro e w1 ⟨rfl, hb⟩; have HB2 := Lib.hid hb; clear hb) | go_in)
  go_ret
  exact ⟨by rw [HT.out] <;> rfl, HB2.out⟩
end Go.Proofs.YtbigoljfanendaaDoor.Ints
