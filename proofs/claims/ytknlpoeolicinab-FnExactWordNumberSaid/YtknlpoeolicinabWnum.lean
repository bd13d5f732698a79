/- Contracts of WordNumber, of the model and of the program. -/
import Derived.Test.YtknlpoeolicinabVcalc
import Derived.Test.YtknlpoeolicinabRank
import Derived.Deep.RegionHeld3
namespace Go.Proofs.Ytknlpoeolicinab.Ints
open Go.RowKit
set_option linter.unusedVariables false

noncomputable def wnGo (b : Int) : List Int → Int → Option Int
  | [], V => some V
  | x :: xs, V => if (canOf (V * b + (x + 1))).length ≤ 40 then wnGo b xs (V * b + (x + 1)) else none
noncomputable def wnL (zs : List Int) (b : Int) : List Int := if overB zs b = true then (match wnGo b zs 0 with | some V => canOf V | none => []) else []
noncomputable def wnC (zs : List Int) (b : Int) : Int := if overB zs b = true then (match wnGo b zs 0 with | some _ => 0 | none => 5) else 2
theorem wn_bad {zs : List Int} {b : Int} (h : overB zs b = false) : wnL zs b = [] ∧ wnC zs b = 2 := by simp [wnL, wnC, h]
theorem wn_full {zs : List Int} {b : Int} (h : overB zs b = true) (k : wnGo b zs 0 = none) : wnL zs b = [] ∧ wnC zs b = 5 := by simp [wnL, wnC, h, k]
theorem wn_good {zs : List Int} {b V : Int} (h : overB zs b = true) (k : wnGo b zs 0 = some V) : wnL zs b = canOf V ∧ wnC zs b = 0 := by simp [wnL, wnC, h, k]
theorem getD_cons {zs : List Int} {k : Nat} (h : k < zs.length) : zs.drop k = zs.getD k 0 :: zs.drop (k + 1) := by
  rw [List.drop_eq_getElem_cons h]
  congr 1
  simp [List.getD_eq_getElem?_getD, List.getElem?_eq_getElem h]
theorem wn_step {zs : List Int} {b V : Int} {k : Nat} (h : k < zs.length) (hl : (canOf (V * b + (zs.getD k 0 + 1))).length ≤ 40) : wnGo b (zs.drop k) V = wnGo b (zs.drop (k + 1)) (V * b + (zs.getD k 0 + 1)) := by
  rw [getD_cons h, wnGo, if_pos hl]
theorem wn_stop {zs : List Int} {b V : Int} {k : Nat} (h : k < zs.length) (hl : ¬ (canOf (V * b + (zs.getD k 0 + 1))).length ≤ 40) : wnGo b (zs.drop k) V = none := by
  rw [getD_cons h, wnGo, if_neg hl]
theorem wn_end {zs : List Int} {b V : Int} {k : Nat} (h : zs.length ≤ k) : wnGo b (zs.drop k) V = some V := by rw [List.drop_eq_nil_of_le h, wnGo]
theorem nn_len {a : Int} {k : Nat} (h0 : 0 ≤ a) (h : (canOf a).length ≤ k) : Nn k a := by
  obtain ⟨h1, h2⟩ := canOf_spec h0
  have := nn_of h1 h
  rwa [h2] at this
theorem nn_horner {V b x : Int} {k : Nat} (h : Nn k V) (b0 : 1 ≤ b) (b1 : b ≤ 1000000) (x0 : 0 ≤ x) (x1 : x < 1000000) : Nn (k + 1 + 1) (V * b + x) := by
  rcases Int.lt_or_eq_of_le b1 with hb | hb
  · exact (h.mul (nn_small (a := b) (by omega) hb)).add ((nn_small x0 x1).up (by omega))
  · refine ⟨by have := Int.mul_nonneg h.nn (show 0 ≤ b by omega); omega, ?_⟩
    have := h.lt; have := h.nn
    rw [hb, Pw, Pw]
    omega
theorem limbs_val {n : Int} (h : 0 ≤ n) : limbs n = canOf n := by
  obtain ⟨h1, h2⟩ := limbs_can h
  exact (canOf_eq h1 h2).symm
structure WnInv (zs : List Int) (b : Int) (k : Nat) (V : Int) : Prop where
  nn : Nn 40 V
  eq : wnGo b zs 0 = wnGo b (zs.drop k) V

set_option maxHeartbeats 1000000 in
theorem specL04Word (v : Value) (zs : List Int) (b : Int) (w : World) (h : Rd w v zs) (h1 : 1 ≤ b) (h2 : b ≤ 10) :
    Calls Try.prog 58 #[v, .int .i64 b] w fun e w' => e = .returned (.bool (wordB zs && digB b zs)) ∧ w = w' := by
  obtain ⟨hl, hf, a, c, rfl, hcap, hr⟩ := h
  by_cases hz : zs.length ≤ 400
  rotate_left
  · have HF : Hid ((wordB zs && digB b zs) = false) := Lib.hid (by rw [wordB_false fun H => hz H.1]; rfl)
    have hz' : (400 : Int) < (zs.length : Int) := by omega
    obtain ⟨q, hq⟩ : ∃ q, q = (wordB zs && digB b zs) := ⟨_, rfl⟩
    rw [← hq] at HF ⊢
    clear hz hr hq
    go_enter Try.func58, Try.ntmps58
    go_wp2
    go_ret
    exact ⟨by rw [HF.out] <;> rfl, rfl⟩
  have hz' : ¬ (400 : Int) < (zs.length : Int) := by omega
  have HE : Hid ((wordB zs && digB b zs) = digB b zs) := Lib.hid (by
    by_cases hd : Dig b zs
    · rw [digB_true hd, wordB_true ⟨hz, fun i hi => by have := hd i hi; omega⟩]; rfl
    · rw [digB_false hd]; simp)
  rw [HE.out]
  go_enter Try.func58, Try.ntmps58
  go_wp2
  go_loop [5] (fun s => ∃ k : Nat, k ≤ zs.length ∧ s = .int .i64 k ∧ ∀ i, i < k → 0 ≤ zs.getD i 0 ∧ zs.getD i 0 < b) (fun s => zs.length - (intOf s).toNat)
  case atStart => exact ⟨0, Nat.zero_le _, rfl, fun i hi => by omega⟩
  case round =>
    obtain ⟨k, hk, rfl, hall⟩ := hrel
    have HA := Lib.hid hall
    clear hall
    by_cases hlt : k < zs.length
    · obtain ⟨bb, o, rfl, hb, hcell⟩ := hr (by intro h0; rw [h0] at hlt; simp at hlt)
      have hc := hcell k hlt
      obtain ⟨x, hx⟩ : ∃ x, x = zs.getD k 0 := ⟨_, rfl⟩
      rw [← hx] at hc
      have HX := Lib.hid hx
      clear hcell hr hx
      by_cases hg : 0 ≤ x ∧ x < b
      · have HN : Hid (∀ i, i < k + 1 → 0 ≤ zs.getD i 0 ∧ zs.getD i 0 < b) := Lib.hid (fun i hi => by
          by_cases he : i = k
          · subst he; rw [← HX.out]; exact hg
          · exact HA.out i (by omega))
        obtain ⟨hg0, hg1⟩ := hg
        have hg2 : x ≤ b - 1 := by omega
        go_wp2
        go_round
        case rel => exact ⟨k + 1, by omega, by go_num, HN.out⟩
        case measure => simp [intOf]; omega
      · have HF : Hid (digB b zs = false) := Lib.hid (digB_false fun H => hg (by rw [HX.out]; exact H k hlt))
        by_cases h0 : 0 ≤ x
        · have h3 : ¬ x ≤ b - 1 := by omega
          have h4 : decide (x ≤ b - 1) = false := decide_eq_false h3
          clear hg h3
          go_wp2
          go_ret
          exact ⟨by rw [HF.out] <;> rfl, rfl⟩
        · have h4 : decide (0 ≤ x) = false := decide_eq_false h0
          clear hg h0
          go_wp2
          go_ret
          exact ⟨by rw [HF.out] <;> rfl, rfl⟩
    · obtain rfl : k = zs.length := by omega
      have HF : Hid (digB b zs = true) := Lib.hid (digB_true fun i hi => HA.out i hi)
      go_wp2
      go_ret
      exact ⟨by rw [HF.out] <;> rfl, rfl⟩
theorem overB_false1 {zs : List Int} {b : Int} (h : ¬ 1 ≤ b) : overB zs b = false := by simp [overB, h]
theorem overB_false2 {zs : List Int} {b : Int} (h : ¬ b ≤ 10) : overB zs b = false := by simp [overB, h]
theorem overB_mid {zs : List Int} {b : Int} (h1 : 1 ≤ b) (h2 : b ≤ 10) : overB zs b = (wordB zs && digB b zs) := by simp [overB, h1, h2]
theorem overB_dig {zs : List Int} {b : Int} (h : overB zs b = true) : (1 ≤ b ∧ b ≤ 10) ∧ Word zs ∧ Dig b zs := by
  simp only [overB, Bool.and_eq_true, decide_eq_true_eq] at h
  refine ⟨h.1, wordB_iff h.2.1, ?_⟩
  have := h.2.2
  simpa [digB] using this
set_option maxRecDepth 100000 in
set_option maxHeartbeats 4000000 in
theorem specWordNumber (v : Value) (zs : List Int) (b : Int) (w : World) (hv : Rd w v zs) :
    Calls Try.prog 25 #[v, .int .i64 b] w fun e w' => ∃ r, e = .returned (.tuple #[r, .int .i64 (wnC zs b)]) ∧ Ow w' w.heap.size w'.heap.size r (wnL zs b) ∧ Below w.heap.size w w' := by
  have HV := Lib.hid hv
  by_cases h1 : 1 ≤ b
  rotate_left
  · have e := Lib.hid (wn_bad (overB_false1 (zs := zs) h1))
    clear hv
    go_enter Try.func25, Try.ntmps25
    go_wp2_with go_in
    go_ret2
    exact ⟨_, by rw [e.out.2] <;> rfl, by rw [e.out.1]; exact Ow.empty w, Below.refl _ _⟩
  by_cases h2 : b ≤ 10
  rotate_left
  · have e := Lib.hid (wn_bad (overB_false2 (zs := zs) h2))
    clear hv
    go_enter Try.func25, Try.ntmps25
    go_wp2_with go_in
    go_ret2
    exact ⟨_, by rw [e.out.2] <;> rfl, by rw [e.out.1]; exact Ow.empty w, Below.refl _ _⟩
  have hmid := overB_mid (zs := zs) h1 h2
  rcases eqOr (overB zs b) with ho | ho
  · have e := Lib.hid (wn_bad ho)
    rw [hmid] at ho
    have HO := Lib.hid ho
    clear hv hmid ho
    go_enter Try.func25, Try.ntmps25
    go_wp2_with (first | (go_at_call 58; refine (specL04Word _ zs b _ HV.out h1 h2).mono ?_; rintro e2 w' ⟨rfl, rfl⟩; rw [HO.out]) | go_in)
    go_ret2
    exact ⟨_, by rw [e.out.2] <;> rfl, by rw [e.out.1]; exact Ow.empty w, Below.refl _ _⟩
  have HOV := Lib.hid ho
  have HDG := Lib.hid (overB_dig ho).2.2
  rw [hmid] at ho
  have HO := Lib.hid ho
  clear hmid ho
  obtain ⟨_, _, a, c, rfl, _, _⟩ := hv
  go_enter Try.func25, Try.ntmps25
  go_wp2_with fail
  refine (specInT _ _ _ _ h1 h2).mono ?_
  rintro e w' ⟨rfl, rfl⟩
  go_wp2_with fail
  refine (specL04Word _ zs b _ HV.out h1 h2).mono ?_
  rintro e2 w' ⟨rfl, rfl⟩
  rw [HO.out]
  have HB1 := Lib.hid ((Below.refl w.heap.size w).alloc (Nat.le_refl _) (Obj.cells #[] 2))
  have HM : Hid (Ow (w.alloc (.cells #[] 2)) w.heap.size (w.alloc (.cells #[] 2)).heap.size (.slice (some ⟨w.heap.size, 0, none⟩) 0 0) (canOf 0)) := Lib.hid (by rw [zero_can]; exact Ow.made w)
  go_wp2
  go_loopw [6, 7] (fun o s wr => ∃ (k : Nat) (V : Int) (ov : Value), o = ov ∧ k ≤ zs.length ∧ s = .int .i64 k ∧ WnInv zs b k V ∧ Ow wr w.heap.size wr.heap.size ov (canOf V) ∧ Below w.heap.size w wr) (fun _ s _ => zs.length - (intOf s).toNat)
  case atStart => exact ⟨0, 0, _, rfl, Nat.zero_le _, rfl, ⟨⟨by omega, Pw_pos _⟩, rfl⟩, HM.out, HB1.out⟩
  case round =>
    obtain ⟨k, V, ov, hov, hk, rfl, hinv, hown, hbel⟩ := hrel
    obtain rfl := hov.symm
    have HI := Lib.hid hinv
    have HOWN := Lib.hid hown
    have HW := Lib.hid hbel
    by_cases hlt : k < zs.length
    · obtain ⟨_, _, a2, c2, he, _, hr⟩ := HV.out
      obtain ⟨bb, o, ha, hb, hcell⟩ := hr (by intro h0; rw [h0] at hlt; simp at hlt)
      simp only [Value.slice.injEq] at he
      obtain ⟨rfl, _, rfl⟩ := he
      subst ha
      obtain ⟨x, hx⟩ : ∃ x, x = zs.getD k 0 := ⟨_, rfl⟩
      have HCELL : Hid (w.cell? ⟨bb, o + k, none⟩ = some (.int .i64 x)) := Lib.hid (by rw [hx]; exact hcell k hlt)
      have HBB := Lib.hid hb
      obtain ⟨x0, x1⟩ := HDG.out k hlt
      rw [← hx] at x0 x1
      have hc : wr.cell? ⟨bb, o + k, none⟩ = some (.int .i64 x) := (hbel.cell hb).trans HCELL.out
      have i0' : (0 : Int) ≤ (k : Int) := by omega
      have i1 : (k : Int) < (zs.length : Int) := by omega
      have iw : IntKind.i64.wrap (x + 1) = x + 1 := by rw [IntKind.wrap_i64]; omega
      have HX := Lib.hid hx
      have hinv2 := hinv
      clear hcell hr hx hown hbel hinv hb
      have NV := Lib.hid hinv2.nn
      have NB : Hid (Nn 1 b) := Lib.hid (nn_small (by omega) (by omega))
      have NVB : Hid (Nn 41 (V * b)) := Lib.hid (Nn.mul (k := 40) (l := 1) NV.out NB.out)
      have NX : Hid (Nn 41 (x + 1)) := Lib.hid (Nn.up (k := 1) (nn_small (by omega) (by omega)) (by omega))
      have FB : Hid (0 ≤ b ∧ b ≤ 1000000000000000000) := Lib.hid ⟨by omega, by omega⟩
      have FX : Hid (0 ≤ x + 1 ∧ x + 1 ≤ 1000000000000000000) := Lib.hid ⟨by omega, by omega⟩
      have LB := Lib.hid (limbs_val (n := b) (by omega))
      have LX := Lib.hid (limbs_val (n := x + 1) (by omega))
      clear hinv2
      have HTT : Hid (Below w.heap.size w wr.drew) := Lib.hid HW.out.drew
      have XO : Hid (Ow wr.drew w.heap.size wr.drew.heap.size ov (canOf V)) := Lib.hid ⟨HOWN.out.len, HOWN.out.fit, HOWN.out.row.drew, HOWN.out.top, HOWN.out.size, HOWN.out.base⟩
      obtain ⟨Z, hZ⟩ : ∃ Z, Z = canOf (V * b + (x + 1)) := ⟨_, rfl⟩
      have HZ := Lib.hid hZ
      by_cases hfull : Z.length ≤ 40
      · have HN : Hid (WnInv zs b (k + 1) (V * b + (x + 1))) := Lib.hid (by
          refine ⟨nn_len ?_ (by rw [← hZ]; exact hfull), ?_⟩
          · have := Int.mul_nonneg HI.out.nn.nn (show 0 ≤ b by omega); omega
          · rw [HI.out.eq, wn_step hlt (by rw [← HX.out, ← hZ]; exact hfull), HX.out])
        have j1 : ¬ (40 : Int) < (Z.length : Int) := by omega
        clear hZ hfull
        go_wp2_with fail
        go_region_held3 (fun w' => w'.cell? ⟨bb, o + k, none⟩ = some (.int .i64 x))
          (first | assumption | exact hc | exact (HTT.out.cell HBB.out).trans HCELL.out)
          (first
            | (go_at_call 60; with_reducible refine (specLimbs b _ FB.out.1 FB.out.2).mono ?_; rintro e3 w3 ⟨ua, rfl, ho3, hb3⟩; rw [LB.out] at ho3; replace XO := Lib.hid ((XO.out.below hb3 (Nat.le_refl _)).up); (try replace XA := Lib.hid ((XA.out.below hb3 (Nat.le_refl _)).up)); (try replace XB := Lib.hid ((XB.out.below hb3 (Nat.le_refl _)).up)); (try replace XD := Lib.hid ((XD.out.below hb3 (Nat.le_refl _)).up)); replace HTT := Lib.hid (HTT.out.trans (hb3.mono HTT.out.size)); have XA := Lib.hid ho3; clear ho3 hb3)
            | (go_at_call 60; with_reducible refine (specLimbs (x + 1) _ FX.out.1 FX.out.2).mono ?_; rintro e3 w3 ⟨ud, rfl, ho3, hb3⟩; rw [LX.out] at ho3; replace XO := Lib.hid ((XO.out.below hb3 (Nat.le_refl _)).up); (try replace XA := Lib.hid ((XA.out.below hb3 (Nat.le_refl _)).up)); (try replace XB := Lib.hid ((XB.out.below hb3 (Nat.le_refl _)).up)); (try replace XD := Lib.hid ((XD.out.below hb3 (Nat.le_refl _)).up)); replace HTT := Lib.hid (HTT.out.trans (hb3.mono HTT.out.size)); have XD := Lib.hid ho3; clear ho3 hb3)
            | (go_at_call 59; refine (sMul _ _ V b 40 1 _ XO.out.rd XA.out.rd NV.out NB.out (by omega) (by omega)).mono ?_; rintro e3 w3 ⟨ub, rfl, ho3, hb3⟩; replace XO := Lib.hid ((XO.out.below hb3 (Nat.le_refl _)).up); (try replace XA := Lib.hid ((XA.out.below hb3 (Nat.le_refl _)).up)); (try replace XB := Lib.hid ((XB.out.below hb3 (Nat.le_refl _)).up)); (try replace XD := Lib.hid ((XD.out.below hb3 (Nat.le_refl _)).up)); replace HTT := Lib.hid (HTT.out.trans (hb3.mono HTT.out.size)); have XB := Lib.hid ho3; clear ho3 hb3)
            | (go_at_call 49; refine (sAdd _ _ (V * b) (x + 1) 41 _ XB.out.rd XD.out.rd NVB.out NX.out (by omega)).mono ?_; rintro e3 w3 ⟨ue, rfl, ho3, hb3⟩; rw [← HZ.out] at ho3; have HT0 := Lib.hid HTT.out.size; replace HTT := Lib.hid (HTT.out.trans (hb3.mono HTT.out.size)); have XE := Lib.hid (ho3.mono (B' := w.heap.size) HT0.out (Nat.le_refl _) (Nat.le_refl _)); obtain ⟨ge, ce, hge⟩ := ho3.shape; subst hge; clear ho3 hb3))
        all_goals
          go_wp2
          go_roundw
          case rel => exact ⟨k + 1, V * b + (x + 1), _, rfl, by omega, by go_num, HN.out, by rw [← HZ.out]; exact XE.out, HTT.out⟩
          case measure => simp [intOf]; omega
      · have HN : Hid (wnGo b zs 0 = none) := Lib.hid (by
          rw [HI.out.eq, wn_stop hlt (by rw [← HX.out, ← hZ]; exact hfull)])
        have e := Lib.hid (wn_full HOV.out HN.out)
        have j1 : (40 : Int) < (Z.length : Int) := by omega
        clear hZ hfull
        go_wp2_with fail
        go_region_held3 (fun w' => w'.cell? ⟨bb, o + k, none⟩ = some (.int .i64 x))
          (first | assumption | exact hc | exact (HTT.out.cell HBB.out).trans HCELL.out)
          (first
            | (go_at_call 60; with_reducible refine (specLimbs b _ FB.out.1 FB.out.2).mono ?_; rintro e3 w3 ⟨ua, rfl, ho3, hb3⟩; rw [LB.out] at ho3; replace XO := Lib.hid ((XO.out.below hb3 (Nat.le_refl _)).up); (try replace XA := Lib.hid ((XA.out.below hb3 (Nat.le_refl _)).up)); (try replace XB := Lib.hid ((XB.out.below hb3 (Nat.le_refl _)).up)); (try replace XD := Lib.hid ((XD.out.below hb3 (Nat.le_refl _)).up)); replace HTT := Lib.hid (HTT.out.trans (hb3.mono HTT.out.size)); have XA := Lib.hid ho3; clear ho3 hb3)
            | (go_at_call 60; with_reducible refine (specLimbs (x + 1) _ FX.out.1 FX.out.2).mono ?_; rintro e3 w3 ⟨ud, rfl, ho3, hb3⟩; rw [LX.out] at ho3; replace XO := Lib.hid ((XO.out.below hb3 (Nat.le_refl _)).up); (try replace XA := Lib.hid ((XA.out.below hb3 (Nat.le_refl _)).up)); (try replace XB := Lib.hid ((XB.out.below hb3 (Nat.le_refl _)).up)); (try replace XD := Lib.hid ((XD.out.below hb3 (Nat.le_refl _)).up)); replace HTT := Lib.hid (HTT.out.trans (hb3.mono HTT.out.size)); have XD := Lib.hid ho3; clear ho3 hb3)
            | (go_at_call 59; refine (sMul _ _ V b 40 1 _ XO.out.rd XA.out.rd NV.out NB.out (by omega) (by omega)).mono ?_; rintro e3 w3 ⟨ub, rfl, ho3, hb3⟩; replace XO := Lib.hid ((XO.out.below hb3 (Nat.le_refl _)).up); (try replace XA := Lib.hid ((XA.out.below hb3 (Nat.le_refl _)).up)); (try replace XB := Lib.hid ((XB.out.below hb3 (Nat.le_refl _)).up)); (try replace XD := Lib.hid ((XD.out.below hb3 (Nat.le_refl _)).up)); replace HTT := Lib.hid (HTT.out.trans (hb3.mono HTT.out.size)); have XB := Lib.hid ho3; clear ho3 hb3)
            | (go_at_call 49; refine (sAdd _ _ (V * b) (x + 1) 41 _ XB.out.rd XD.out.rd NVB.out NX.out (by omega)).mono ?_; rintro e3 w3 ⟨ue, rfl, ho3, hb3⟩; rw [← HZ.out] at ho3; have HT0 := Lib.hid HTT.out.size; replace HTT := Lib.hid (HTT.out.trans (hb3.mono HTT.out.size)); have XE := Lib.hid (ho3.mono (B' := w.heap.size) HT0.out (Nat.le_refl _) (Nat.le_refl _)); obtain ⟨ge, ce, hge⟩ := ho3.shape; subst hge; clear ho3 hb3))
        all_goals
          go_wp2
          go_ret2
          exact ⟨_, by rw [e.out.2] <;> rfl, by rw [e.out.1]; exact Ow.emptyUp HTT.out.size, HTT.out⟩
    · have e := Lib.hid (wn_good HOV.out (by rw [hinv.eq, wn_end (by omega)]))
      obtain ⟨ga, gc, hg⟩ := hown.shape
      have i1 : ¬ (k : Int) < (zs.length : Int) := by omega
      clear hown hbel hinv
      obtain ⟨Z, hZ⟩ : ∃ Z, Z = canOf V := ⟨_, rfl⟩
      rw [← hZ] at hg HOWN
      have HZ := Lib.hid hZ
      clear hZ
      subst hg
      go_wp2
      go_ret2
      exact ⟨_, by rw [e.out.2] <;> rfl, by rw [e.out.1, ← HZ.out]; exact HOWN.out, HW.out⟩
set_option maxHeartbeats 4000000 in
theorem implWordNumber (v : Value) (zs : List Int) (b : Int) (w : World) (hv : Rd w v zs) :
    Calls Try.prog 26 #[v, .int .i64 b] w fun e w' => ∃ r, e = .returned (.tuple #[r, .int .i64 (wnC zs b)]) ∧ Ow w' w.heap.size w'.heap.size r (wnL zs b) ∧ Below w.heap.size w w' := by
  have HV := Lib.hid hv
  rcases eqOr (overB zs b) with ho | ho
  · have e := Lib.hid (wn_bad ho)
    have HO := Lib.hid ho
    clear hv ho
    go_enter Try.func26, Try.ntmps26
    go_wp2_with (go_at_call 61; refine (implOver _ zs b _ HV.out).mono ?_; rintro e2 w' ⟨rfl, hb⟩; rw [HO.out]; have HB := Lib.hid hb; clear hb)
    go_ret2
    exact ⟨_, by rw [e.out.2] <;> rfl, by rw [e.out.1]; exact Ow.emptyUp HB.out.size, HB.out⟩
  have HO := Lib.hid ho
  have HDG := Lib.hid (overB_dig ho).2.2
  obtain ⟨h1, h2⟩ := (overB_dig ho).1
  clear ho
  obtain ⟨_, _, a, c, rfl, _, _⟩ := hv
  go_enter Try.func26, Try.ntmps26
  go_wp2_with fail
  refine (implOver _ zs b _ HV.out).mono ?_
  rintro e2 w0 ⟨rfl, hb⟩
  rw [HO.out]
  have HB0 := Lib.hid hb
  have HV0 := Lib.hid (HV.out.below hb (Nat.le_refl _))
  have HM : Hid (Ow w0 w.heap.size w0.heap.size (.slice none 0 0) (canOf 0)) := Lib.hid (by rw [zero_can]; exact Ow.emptyUp hb.size)
  clear hb
  go_wp2
  go_loopw [6, 15] (fun o s wr => ∃ (k : Nat) (V : Int) (ov : Value), o = ov ∧ k ≤ zs.length ∧ s = .int .i64 k ∧ WnInv zs b k V ∧ Ow wr w.heap.size wr.heap.size ov (canOf V) ∧ Below w0.heap.size w0 wr) (fun _ s _ => zs.length - (intOf s).toNat)
  case atStart => exact ⟨0, 0, _, rfl, Nat.zero_le _, rfl, ⟨⟨by omega, Pw_pos _⟩, rfl⟩, HM.out, Below.refl _ _⟩
  case round =>
    obtain ⟨k, V, ov, hov, hk, rfl, hinv, hown, hbel⟩ := hrel
    obtain rfl := hov.symm
    have HI := Lib.hid hinv
    have HOWN := Lib.hid hown
    have HW := Lib.hid (HB0.out.trans (hbel.mono HB0.out.size))
    have HW0 := Lib.hid hbel
    by_cases hlt : k < zs.length
    · obtain ⟨_, _, a2, c2, he, _, hr⟩ := HV0.out
      obtain ⟨bb, o, ha, hb, hcell⟩ := hr (by intro h0; rw [h0] at hlt; simp at hlt)
      simp only [Value.slice.injEq] at he
      obtain ⟨rfl, _, rfl⟩ := he
      subst ha
      obtain ⟨x, hx⟩ : ∃ x, x = zs.getD k 0 := ⟨_, rfl⟩
      have hc : wr.cell? ⟨bb, o + k, none⟩ = some (.int .i64 x) := by rw [hx]; exact (hbel.cell hb).trans (hcell k hlt)
      obtain ⟨x0, x1⟩ := HDG.out k hlt
      rw [← hx] at x0 x1
      have i0' : (0 : Int) ≤ (k : Int) := by omega
      have i1 : (k : Int) < (zs.length : Int) := by omega
      have HX := Lib.hid hx
      have hsz := HW.out.size
      clear hcell hr hx hown hbel hinv hb
      obtain ⟨Z, hZ⟩ : ∃ Z, Z = canOf (V * b + (x + 1)) := ⟨_, rfl⟩
      have HZ := Lib.hid hZ
      by_cases hfull : Z.length ≤ 40
      · have HN : Hid (WnInv zs b (k + 1) (V * b + (x + 1))) := Lib.hid (by
          refine ⟨nn_len ?_ (by rw [← hZ]; exact hfull), ?_⟩
          · have := Int.mul_nonneg HI.out.nn.nn (show 0 ≤ b by omega); omega
          · rw [HI.out.eq, wn_step hlt (by rw [← HX.out, ← hZ]; exact hfull), HX.out])
        have j1 : ¬ (40 : Int) < (Z.length : Int) := by omega
        clear hZ hfull
        go_wp2_with fail
        refine (iMbs _ V b (x + 1) 40 _ HOWN.out.rd HI.out.nn (by omega) h1 (by omega) (by omega) (by omega)).mono ?_
        rintro e3 w3 ⟨r3, rfl, ho, hb⟩
        rw [← HZ.out] at ho
        have HO3 := Lib.hid (ho.mono hsz (Nat.le_refl _) (Nat.le_refl _))
        have HB3 := Lib.hid (HW0.out.trans (hb.mono HW0.out.size))
        obtain ⟨ge, ce, hge⟩ := ho.shape
        subst hge
        clear ho hb
        go_wp2
        go_roundw
        case rel => exact ⟨k + 1, V * b + (x + 1), _, rfl, by omega, by go_num, HN.out, by rw [← HZ.out]; exact HO3.out, HB3.out⟩
        case measure => simp [intOf]; omega
      · have HN : Hid (wnGo b zs 0 = none) := Lib.hid (by
          rw [HI.out.eq, wn_stop hlt (by rw [← HX.out, ← hZ]; exact hfull)])
        have e := Lib.hid (wn_full HO.out HN.out)
        have j1 : (40 : Int) < (Z.length : Int) := by omega
        clear hZ hfull
        go_wp2_with fail
        refine (iMbs _ V b (x + 1) 40 _ HOWN.out.rd HI.out.nn (by omega) h1 (by omega) (by omega) (by omega)).mono ?_
        rintro e3 w3 ⟨r3, rfl, ho, hb⟩
        rw [← HZ.out] at ho
        have HB3 := Lib.hid (HW.out.trans (hb.mono HW.out.size))
        obtain ⟨ge, ce, hge⟩ := ho.shape
        subst hge
        clear ho hb
        go_wp2
        go_ret2
        exact ⟨_, by rw [e.out.2] <;> rfl, by rw [e.out.1]; exact Ow.emptyUp HB3.out.size, HB3.out⟩
    · have e := Lib.hid (wn_good HO.out (by rw [hinv.eq, wn_end (by omega)]))
      obtain ⟨ga, gc, hg⟩ := hown.shape
      have i1 : ¬ (k : Int) < (zs.length : Int) := by omega
      clear hown hbel hinv
      obtain ⟨Z, hZ⟩ : ∃ Z, Z = canOf V := ⟨_, rfl⟩
      rw [← hZ] at hg HOWN
      have HZ := Lib.hid hZ
      clear hZ
      subst hg
      go_wp2
      go_ret2
      exact ⟨_, by rw [e.out.2] <;> rfl, by rw [e.out.1, ← HZ.out]; exact HOWN.out, HW.out⟩
end Go.Proofs.Ytknlpoeolicinab.Ints
