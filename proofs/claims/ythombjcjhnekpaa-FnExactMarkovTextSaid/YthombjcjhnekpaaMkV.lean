/- Valid Markov rules: the model's and the program's tests. -/
import Derived.Test.YthombjcjhnekpaaMks2
import Derived.Test.YthombjcjhnekpaaRwV
namespace Go.Proofs.Ythombjcjhnekpaa.Ints
open Go.RowKit
set_option linter.unusedVariables false
set_option linter.unusedSimpArgs false
noncomputable def mkB (t : Mk) : Bool := wordB t.l && wordB t.r
noncomputable def mkA (ts : List Mk) : Bool := ts.all mkB
noncomputable def mksB (ts : List Mk) : Bool := decide (1 ≤ ts.length ∧ ts.length ≤ 60) && mkA ts
theorem mkA_true {ts : List Mk} (h : ∀ i, i < ts.length → mkB (ts.getD i mk0) = true) : mkA ts = true := by
  rw [mkA, List.all_eq_true]
  intro x hx
  obtain ⟨i, hi, rfl⟩ := List.getElem_of_mem hx
  have := h i hi
  rwa [List.getD_eq_getElem?_getD, List.getElem?_eq_getElem hi] at this
theorem mkA_false {ts : List Mk} {i : Nat} (hi : i < ts.length) (h : mkB (ts.getD i mk0) = false) : mkA ts = false := by
  rw [mkA, List.all_eq_false]
  refine ⟨_, List.getElem_mem hi, ?_⟩
  rw [List.getD_eq_getElem?_getD, List.getElem?_eq_getElem hi] at h
  simp at h
  simp [h]
theorem mkA_at {ts : List Mk} (h : mkA ts = true) {i : Nat} (hi : i < ts.length) : mkB (ts.getD i mk0) = true := by
  rw [mkA, List.all_eq_true] at h
  have := h _ (List.getElem_mem hi)
  rwa [List.getD_eq_getElem?_getD, List.getElem?_eq_getElem hi]
theorem mksB_len {ts : List Mk} (h : mksB ts = true) : 1 ≤ ts.length ∧ ts.length ≤ 60 := by
  simp only [mksB, Bool.and_eq_true, decide_eq_true_iff] at h
  exact h.1
theorem mksB_all {ts : List Mk} (h : mksB ts = true) : mkA ts = true := by
  simp only [mksB, Bool.and_eq_true, decide_eq_true_iff] at h
  exact h.2
theorem mkB_both {t : Mk} (h : mkB t = true) : Word t.l ∧ Word t.r := by
  simp only [mkB, Bool.and_eq_true] at h
  exact ⟨wordB_iff h.1, wordB_iff h.2⟩
set_option maxHeartbeats 2000000 in
theorem specMks (v : Value) (ts : List Mk) (w : World) (h : RdM w v ts) :
    Calls Try.prog 57 #[v] w fun e w' => e = .returned (.bool (mksB ts)) ∧ w = w' := by
  have HV := Lib.hid h
  have hl := h.len
  obtain ⟨_, a, c, rfl, hcap, hr⟩ := h
  by_cases h1 : 1 ≤ ts.length
  rotate_left
  · have HF : Hid (mksB ts = false) := Lib.hid (by simp [mksB, h1])
    have g1 : (ts.length : Int) < 1 := by omega
    go_enter Try.func57, Try.ntmps57
    go_wp2
    go_ret
    exact ⟨by rw [HF.out] <;> rfl, rfl⟩
  by_cases h2 : ts.length ≤ 60
  rotate_left
  · have HF : Hid (mksB ts = false) := Lib.hid (by simp [mksB, h2])
    have g1 : ¬ (ts.length : Int) < 1 := by omega
    have g2 : (60 : Int) < (ts.length : Int) := by omega
    go_enter Try.func57, Try.ntmps57
    go_wp2
    go_ret
    exact ⟨by rw [HF.out] <;> rfl, rfl⟩
  have g1 : ¬ (ts.length : Int) < 1 := by omega
  have g2 : ¬ (60 : Int) < (ts.length : Int) := by omega
  have HT : Hid (mksB ts = mkA ts) := Lib.hid (by simp [mksB, h1, h2])
  go_enter Try.func57, Try.ntmps57
  go_wp2
  go_loop [3] (fun s => ∃ k : Nat, k ≤ ts.length ∧ s = .int .i64 k ∧ ∀ i, i < k → mkB (ts.getD i mk0) = true) (fun s => ts.length - (intOf s).toNat)
  case atStart => exact ⟨0, Nat.zero_le _, rfl, fun i hi => by omega⟩
  case round =>
    obtain ⟨k, hk, rfl, hall⟩ := hrel
    have HA := Lib.hid hall
    clear hall
    by_cases hlt : k < ts.length
    · obtain ⟨b, o, rfl, hb, hcell⟩ := hr (by intro h0; rw [h0] at hlt; simp at hlt)
      obtain ⟨x, y, c0, c1, c2, hx, hy⟩ := hcell k hlt
      obtain ⟨t, ht⟩ : ∃ t, t = ts.getD k mk0 := ⟨_, rfl⟩
      rw [← ht] at hx hy c2
      obtain ⟨l, r, bb⟩ := t
      dsimp only at hx hy c2
      have HX := Lib.hid hx
      have HY := Lib.hid hy
      obtain ⟨hxl, _, ax, cx, rfl, _, _⟩ := hx
      obtain ⟨_, _, ay, cy, rfl, _, _⟩ := hy
      have HZ := Lib.hid ht
      have i0 : (0 : Int) ≤ (k : Int) := by omega
      have i1 : (k : Int) < (ts.length : Int) := by omega
      clear hcell hr ht
      rcases eqOr (wordB l) with hn | hn
      · have HN := Lib.hid hn
        have HF : Hid (mkA ts = false) := Lib.hid (mkA_false hlt (by rw [← HZ.out]; simp [mkB, hn]))
        clear hn
        go_wp2_with fail
        refine (specWord _ l _ HX.out).mono ?_
        rintro e w1 ⟨rfl, rfl⟩
        rw [HN.out]
        go_wp2
        go_ret
        exact ⟨by rw [HT.out, HF.out] <;> rfl, rfl⟩
      have HN := Lib.hid hn
      clear hn
      rcases eqOr (wordB r) with hn | hn
      · have HN2 := Lib.hid hn
        have HF : Hid (mkA ts = false) := Lib.hid (mkA_false hlt (by rw [← HZ.out]; simp [mkB, hn]))
        clear hn
        go_wp2_with fail
        refine (specWord _ l _ HX.out).mono ?_
        rintro e w1 ⟨rfl, rfl⟩
        rw [HN.out]
        go_wp2_with fail
        refine (specWord _ r _ HY.out).mono ?_
        rintro e w1 ⟨rfl, rfl⟩
        rw [HN2.out]
        go_wp2
        go_ret
        exact ⟨by rw [HT.out, HF.out] <;> rfl, rfl⟩
      have HN2 := Lib.hid hn
      clear hn
      have HM : Hid (∀ i, i < k + 1 → mkB (ts.getD i mk0) = true) := Lib.hid (fun i hi => by
        by_cases he : i = k
        · subst he; rw [← HZ.out]; simp [mkB, HN.out, HN2.out]
        · exact HA.out i (by omega))
      go_wp2_with fail
      refine (specWord _ l _ HX.out).mono ?_
      rintro e w1 ⟨rfl, rfl⟩
      rw [HN.out]
      go_wp2_with fail
      refine (specWord _ r _ HY.out).mono ?_
      rintro e w1 ⟨rfl, rfl⟩
      rw [HN2.out]
      go_wp2
      go_round
      case rel => exact ⟨k + 1, by omega, by go_num, HM.out⟩
      case measure => simp [intOf]; omega
    · obtain rfl : k = ts.length := by omega
      have HF := Lib.hid (mkA_true (ts := ts) (fun i hi => HA.out i hi))
      have hnlt : ¬ ((ts.length : Int) < (ts.length : Int)) := by omega
      go_wp2
      go_ret
      exact ⟨by rw [HT.out, HF.out] <;> rfl, rfl⟩
theorem specValidMks (v : Value) (ts : List Mk) (w : World) (h : RdM w v ts) :
    Calls Try.prog 23 #[v] w fun e w' => e = .returned (.bool (mksB ts)) ∧ Below w.heap.size w w' := by
  have H := Lib.hid h
  clear h
  go_enter Try.func23, Try.ntmps23
  go_wp2_with (go_at_call 57; refine (specMks _ ts _ H.out).mono ?_; rintro e w' ⟨rfl, rfl⟩)
  go_ret
  exact ⟨rfl, Below.refl _ _⟩
theorem implSides (bb : Bool) (u v : Value) (xs ys : List Int) (w : World) (hu : Rd w u xs) (hv : Rd w v ys) :
    Calls Try.prog 84 #[.agg #[u, v, .bool bb]] w fun e w' => e = .returned (.agg #[u, v]) ∧ Below w.heap.size w w' := by
  obtain ⟨_, _, a, c, rfl, _, _⟩ := hu
  obtain ⟨_, _, a2, c2, rfl, _, _⟩ := hv
  go_enter Try.func84, Try.ntmps84
  go_wp2_with fail
  obtain ⟨W, hW⟩ : ∃ W, W = (w.alloc (Obj.cells #[.slice a xs.length c, .slice a2 ys.length c2, .bool bb] 73)).alloc (Obj.cells #[.slice a xs.length c, .slice a2 ys.length c2] 64) := ⟨_, rfl⟩
  have hB : Below w.heap.size w W := by rw [hW]; exact ((Below.refl _ _).alloc (Nat.le_refl _) _).alloc (by simp) _
  have hK : Cels W (w.heap.size + 1) 64 [.slice a xs.length c, .slice a2 ys.length c2] := by rw [hW]; have h := Cels.new (w.alloc (Obj.cells #[.slice a xs.length c, .slice a2 ys.length c2, .bool bb] 73)) 64 [.slice a xs.length c, .slice a2 ys.length c2]; rw [World.size_alloc] at h; exact h
  rw [← hW]
  have z0 := hK.cell 0 rfl
  have z1 := hK.cell 1 rfl
  clear hW
  refine bodyPost_ret (v := .agg #[.slice a xs.length c, .slice a2 ys.length c2]) (by simp [results, Try.f84, go_sem, z0, z1]) rfl ⟨rfl, hB⟩
theorem implIsValM (bb : Bool) (u v : Value) (xs ys : List Int) (w : World) (hu : Rd w u xs) (hv : Rd w v ys) :
    Calls Try.prog 60 #[.agg #[u, v, .bool bb]] w fun e w' => e = .returned (.bool (mkB ⟨xs, ys, bb⟩)) ∧ Below w.heap.size w w' := by
  have HU := Lib.hid hu
  have HV := Lib.hid hv
  obtain ⟨_, _, a, c, rfl, _, _⟩ := hu
  obtain ⟨_, _, a2, c2, rfl, _, _⟩ := hv
  obtain ⟨W0, hW0⟩ : ∃ x, x = w.alloc (Obj.cells #[.slice a xs.length c, .slice a2 ys.length c2, .bool bb] 73) := ⟨_, rfl⟩
  have HB0 : Hid (Below w.heap.size w W0) := Lib.hid (by rw [hW0]; exact (Below.refl _ _).alloc (Nat.le_refl _) _)
  have K0 : Cels W0 w.heap.size 73 [.slice a xs.length c, .slice a2 ys.length c2, .bool bb] := by rw [hW0]; exact Cels.new _ _ _
  have z0 := K0.cell 0 rfl
  have z1 := K0.cell 1 rfl
  have z2 := K0.cell 2 rfl
  have HW0 := Lib.hid hW0.symm
  clear hW0 K0
  go_enter Try.func60, Try.ntmps60
  go_wp2_with fail
  rw [HW0.out]
  refine (implSides bb _ _ xs ys _ (HU.out.below HB0.out (Nat.le_refl _)) (HV.out.below HB0.out (Nat.le_refl _))).mono ?_
  rintro e w1 ⟨rfl, hb⟩
  have HB1 := Lib.hid (HB0.out.trans (hb.mono HB0.out.size))
  clear hb
  go_wp2_with fail
  refine (implHasW _ _ xs ys _ (HU.out.below HB1.out (Nat.le_refl _)) (HV.out.below HB1.out (Nat.le_refl _))).mono ?_
  rintro e w2 ⟨rfl, hb⟩
  have HB2 := Lib.hid (HB1.out.trans (hb.mono HB1.out.size))
  clear hb
  go_wp2
  go_ret
  exact ⟨rfl, HB2.out⟩
set_option maxHeartbeats 1000000 in
theorem eachMk (v : Value) (ts : List Mk) (w : World) (h : RdM w v ts) :
    Calls Try.prog 83 #[.func (Fn.func 60) #[] #[], v] w fun e w' => e = .returned (.bool (mkA ts)) ∧ Below w.heap.size w w' := by
  have HH := Lib.hid h
  have hl := h.len
  obtain ⟨_, a, c, rfl, hcap, hr⟩ := h
  clear hr
  go_enter Try.func83, Try.ntmps83
  go_wp2
  go_loopw [9] (fun s wr => ∃ k : Nat, k ≤ ts.length ∧ s = .int .i64 k ∧ (∀ i, i < k → mkB (ts.getD i mk0) = true) ∧ Below w.heap.size w wr) (fun s _ => ts.length - (intOf s).toNat)
  case atStart => exact ⟨0, Nat.zero_le _, rfl, fun i hi => by omega, Below.refl _ _⟩
  case round =>
    obtain ⟨k, hk, rfl, hall, hbel⟩ := hrel
    have HA := Lib.hid hall
    have HB := Lib.hid hbel
    clear hall hbel
    by_cases hlt : k < ts.length
    · obtain ⟨_, a', c', he, _, hr⟩ := HH.out.below HB.out (Nat.le_refl _)
      obtain ⟨b, o, ha, hb, hcell⟩ := hr (by intro h0; rw [h0] at hlt; simp at hlt)
      simp only [Value.slice.injEq] at he
      obtain ⟨rfl, _, rfl⟩ := he
      subst ha
      obtain ⟨x, y, c0, c1, c2, hx, hy⟩ := hcell k hlt
      obtain ⟨t, ht⟩ : ∃ t, t = ts.getD k mk0 := ⟨_, rfl⟩
      rw [← ht] at hx hy c2
      obtain ⟨l, r, bb⟩ := t
      dsimp only at hx hy c2
      have HX := Lib.hid hx
      have HY := Lib.hid hy
      obtain ⟨_, _, ax, cx, rfl, _, _⟩ := hx
      obtain ⟨_, _, ay, cy, rfl, _, _⟩ := hy
      have HZ := Lib.hid ht
      have i0 : (0 : Int) ≤ (k : Int) := by omega
      have i1 : (k : Int) < (ts.length : Int) := by omega
      have HQ : Hid (Below wr.heap.size wr (wr.alloc (Obj.cells #[.slice ax l.length cx, .slice ay r.length cy, .bool bb] 73))) := Lib.hid ((Below.refl _ _).alloc (Nat.le_refl _) _)
      have HBA : Hid (Below w.heap.size w (wr.alloc (Obj.cells #[.slice ax l.length cx, .slice ay r.length cy, .bool bb] 73))) := Lib.hid (HB.out.alloc HB.out.size _)
      clear hcell hr ht
      cases hw : mkB ⟨l, r, bb⟩ with
      | true =>
        have HW := Lib.hid hw
        have HN : Hid (∀ i, i < k + 1 → mkB (ts.getD i mk0) = true) := Lib.hid (fun i hi => by
          by_cases he : i = k
          · subst he; rw [← HZ.out]; exact HW.out
          · exact HA.out i (by omega))
        clear hw
        go_wp2_with (go_at_call 60; refine (implIsValM bb _ _ l r _ (HX.out.below HQ.out (Nat.le_refl _)) (HY.out.below HQ.out (Nat.le_refl _))).mono ?_; rintro e w2 ⟨rfl, hb⟩; rw [HW.out]; have HB2 := Lib.hid (HBA.out.trans (hb.mono HBA.out.size)); clear hb)
        go_roundw
        case rel => exact ⟨k + 1, by omega, by go_num, HN.out, HB2.out⟩
        case measure => simp [intOf]; omega
      | false =>
        have HW := Lib.hid hw
        have HF := Lib.hid (mkA_false hlt (by rw [← HZ.out]; exact hw))
        clear hw
        go_wp2_with (go_at_call 60; refine (implIsValM bb _ _ l r _ (HX.out.below HQ.out (Nat.le_refl _)) (HY.out.below HQ.out (Nat.le_refl _))).mono ?_; rintro e w2 ⟨rfl, hb⟩; rw [HW.out]; have HB2 := Lib.hid (HBA.out.trans (hb.mono HBA.out.size)); clear hb)
        go_ret
        exact ⟨by rw [HF.out] <;> rfl, HB2.out⟩
    · obtain rfl : k = ts.length := by omega
      have HF := Lib.hid (mkA_true (ts := ts) (fun i hi => HA.out i hi))
      go_wp2
      go_ret
      exact ⟨by rw [HF.out] <;> rfl, HB.out⟩
theorem implValidMks (v : Value) (ts : List Mk) (w : World) (h : RdM w v ts) :
    Calls Try.prog 25 #[v] w fun e w' => e = .returned (.bool (mksB ts)) ∧ Below w.heap.size w w' := by
  have H := Lib.hid h
  have hl := h.len
  obtain ⟨_, a, c, rfl, hcap, _⟩ := h
  by_cases h1 : 1 ≤ ts.length
  rotate_left
  · have HF : Hid (mksB ts = false) := Lib.hid (by simp [mksB, h1])
    have g1 : ¬ (1 : Int) ≤ (ts.length : Int) := by omega
    go_enter Try.func25, Try.ntmps25
    go_wp2
    go_ret
    exact ⟨by rw [HF.out] <;> rfl, Below.refl _ _⟩
  by_cases h2 : ts.length ≤ 60
  rotate_left
  · have HF : Hid (mksB ts = false) := Lib.hid (by simp [mksB, h2])
    have g1 : (1 : Int) ≤ (ts.length : Int) := by omega
    have g2 : ¬ (ts.length : Int) ≤ 60 := by omega
    go_enter Try.func25, Try.ntmps25
    go_wp2
    go_ret
    exact ⟨by rw [HF.out] <;> rfl, Below.refl _ _⟩
  have g1 : (1 : Int) ≤ (ts.length : Int) := by omega
  have g2 : (ts.length : Int) ≤ 60 := by omega
  have HT : Hid (mksB ts = mkA ts) := Lib.hid (by simp [mksB, h1, h2])
  go_enter Try.func25, Try.ntmps25
  go_wp2_with (first | (go_at_call 83; refine (eachMk _ ts _ H.out).mono ?_; rintro e w1 ⟨rfl, hb⟩; have HB2 := Lib.hid hb; clear hb) | go_in)
  go_ret
  exact ⟨by rw [HT.out] <;> rfl, HB2.out⟩
end Go.Proofs.Ythombjcjhnekpaa.Ints
