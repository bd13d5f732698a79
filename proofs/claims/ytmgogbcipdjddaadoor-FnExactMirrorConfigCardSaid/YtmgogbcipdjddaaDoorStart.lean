/- Contracts of StartConfig, of the model and of the program; marks held on configurations. -/
import Derived.Test.YtmgogbcipdjddaaDoorHeld
import Derived.Test.YtmgogbcipdjddaaDoorConf
import Derived.Test.YtmgogbcipdjddaaDoorTurI
import Derived.Test.YtmgogbcipdjddaaDoorTrE
import Derived.Test.YtmgogbcipdjddaaDoorWord
namespace Go.Proofs.YtmgogbcipdjddaaDoor.Ints
open Go.RowKit
set_option linter.unusedVariables false
set_option linter.unusedSimpArgs false
theorem heldConf (st : Int) (u : Value) (n : Nat) (v : Value) (m : Nat) (k0 : Int) (w : World) (h : Rd w u (marks k0 n)) (h' : Rd w v (marks (k0 + (n : Int)) m)) (h0 : 0 ≤ k0) (h1 : k0 ≤ 100000000000) :
    Calls Tryd.prog 29 #[.agg #[.int .i64 st, u, v], .int .i64 k0] w fun e w' => e = .returned (.int .i64 (k0 + (n : Int) + (m : Int))) ∧ Below w.heap.size w w' := by
  have H := Lib.hid h
  have H' := Lib.hid h'
  have hl := h.len
  have hl' := h'.len
  obtain ⟨_, _, a, c, rfl, _, _⟩ := h
  obtain ⟨_, _, a', c', rfl, _, _⟩ := h'
  simp only [length_marks] at hl hl' H H' ⊢
  have hn : ¬ k0 + (n : Int) < 0 := by omega
  have hn' : ¬ k0 + (n : Int) + (m : Int) < 0 := by omega
  have HB : ∀ x : Obj, Hid (Below w.heap.size w (w.alloc x)) := fun x => Lib.hid ((Below.refl _ _).alloc (Nat.le_refl _) _)
  have HN : Hid (0 ≤ k0 + (n : Int) ∧ k0 + (n : Int) ≤ 1000000000000 ∧ k0 ≤ 1000000000000) := Lib.hid (by omega)
  clear h1 hl hl'
  go_enter Tryd.func29, Tryd.ntmps29
  go_wp2_with fail
  refine (heldInts _ n k0 _ (H.out.below (HB _).out (Nat.le_refl _)) h0 HN.out.2.2).mono ?_
  rintro e w1 ⟨rfl, hw⟩
  obtain rfl := hw
  go_wp2_with fail
  refine (heldInts _ m (k0 + (n : Int)) _ (H'.out.below (HB _).out (Nat.le_refl _)) HN.out.1 HN.out.2.1).mono ?_
  rintro e w2 ⟨rfl, hw⟩
  obtain rfl := hw
  go_wp2
  go_ret
  exact ⟨rfl, (HB _).out⟩
set_option maxHeartbeats 1000000 in
theorem specTrim5 (v : Value) (Z : List Int) (w : World) (h : Rd w v Z) :
    Calls Tryd.prog 87 #[v] w fun e w' => ∃ r, e = .returned r ∧ Ow w' w.heap.size w'.heap.size r (tr Z) ∧ Below w.heap.size w w' := by
  have H := Lib.hid h
  obtain ⟨hl, hf, a, c, rfl, hcap, hr⟩ := h
  go_enter Tryd.func87, Tryd.ntmps87
  go_wp2
  go_loop [3] (fun s => ∃ m : Nat, m ≤ Z.length ∧ s = .int .i64 m ∧ trE Z Z.length = trE Z m) (fun s => (intOf s).toNat)
  case atStart => exact ⟨Z.length, Nat.le_refl _, rfl, rfl⟩
  case round =>
    obtain ⟨m, hm, rfl, he⟩ := hrel
    have HE := Lib.hid he
    clear he
    cases m with
    | zero =>
      have HF : Hid (Rd w (.slice a 0 c) (tr Z)) := Lib.hid (by have := H.out.take 0 (Nat.zero_le _); rw [tr, HE.out]; exact this)
      have i9 : (0 : Nat) ≤ c := by omega
      go_wp2_with fail
      refine (specOwn _ (tr Z) _ HF.out).mono ?_
      rintro e5 w5 ⟨r5, rfl, ho5, hb5⟩
      have HO := Lib.hid ho5
      have HB := Lib.hid hb5
      clear ho5 hb5
      go_wp2
      go_ret
      exact ⟨_, rfl, HO.out, HB.out⟩
    | succ m =>
      obtain ⟨b, o, rfl, hb, hcell⟩ := hr (by intro h0; rw [h0] at hm; simp at hm)
      obtain ⟨x, hx⟩ : ∃ x, x = Z.getD m 0 := ⟨_, rfl⟩
      have hc : w.cell? ⟨b, o + m, none⟩ = some (.int .i64 x) := by rw [hx]; exact hcell m (by omega)
      have hp : (0 : Int) < ((m + 1 : Nat) : Int) := by omega
      have hp2 : (0 : Int) < (m : Int) + 1 := by omega
      have i0 : (0 : Int) ≤ (m : Int) := by omega
      have i1 : (m : Int) < (Z.length : Int) := by omega
      have hx2 : m + 1 ≤ c := by omega
      have hx3 : (m : Int) + 1 ≤ (c : Int) := by omega
      have hx4 : ((m : Int) + 1).toNat = m + 1 := by omega
      by_cases h0 : x = 0
      · have hz : (x == 0) = true := by simp [h0]
        have HS : Hid (trE Z (m + 1) = trE Z m) := Lib.hid (by rw [trE, if_pos (by rw [← hx]; exact h0)])
        clear hx h0 hcell hr
        go_wp2
        go_round
        case rel => exact ⟨m, by omega, by first | rfl | simp | go_num, by rw [HE.out, HS.out]⟩
        case measure => simp [intOf]
      · have hz : (x == 0) = false := by simp [h0]
        have HF : Hid (Rd w (.slice (some ⟨b, o, none⟩) (m + 1) c) (tr Z)) := Lib.hid (by
          have := H.out.take (m + 1) hm
          rw [tr, HE.out, trE, if_neg (by rw [← hx]; exact h0)]; exact this)
        clear hx h0 hcell hr
        go_wp2_with fail
        refine (specOwn _ (tr Z) _ HF.out).mono ?_
        rintro e5 w5 ⟨r5, rfl, ho5, hb5⟩
        have HO := Lib.hid ho5
        have HB := Lib.hid hb5
        clear ho5 hb5
        go_wp2
        go_ret
        exact ⟨_, rfl, HO.out, HB.out⟩
/-- All letters below sy. -/
def Ovr (sy : Int) (zs : List Int) : Prop := ∀ i, i < zs.length → zs.getD i 0 < sy
open Classical in
noncomputable def ovB (sy : Int) (zs : List Int) : Bool := decide (Ovr sy zs)
theorem ovB_word {sy : Int} {zs : List Int} (h : wordB zs = true) : ovB sy zs = digB sy zs := by
  have hw := (wordB_iff h).2
  by_cases hd : Dig sy zs
  · rw [digB_true hd]; simp only [ovB, decide_eq_true_eq]; exact fun i hi => (hd i hi).2
  · rw [digB_false hd]; simp only [ovB, decide_eq_false_iff_not]; exact fun H => hd fun i hi => ⟨(hw i hi).1, H i hi⟩
theorem specOver (v : Value) (zs : List Int) (sy : Int) (w : World) (h : Rd w v zs) :
    Calls Tryd.prog 55 #[v, .int .i64 sy] w fun e w' => e = .returned (.bool (ovB sy zs)) ∧ w = w' := by
  obtain ⟨hl, hf, a, c, rfl, hcap, hr⟩ := h
  go_enter Tryd.func55, Tryd.ntmps55
  go_wp2
  go_loop [5] (fun s => ∃ k : Nat, k ≤ zs.length ∧ s = .int .i64 k ∧ ∀ i, i < k → zs.getD i 0 < sy) (fun s => zs.length - (intOf s).toNat)
  case atStart => exact ⟨0, Nat.zero_le _, rfl, fun i hi => by omega⟩
  case round =>
    obtain ⟨k, hk, rfl, hall⟩ := hrel
    have HA := Lib.hid hall
    clear hall
    by_cases hlt : k < zs.length
    · obtain ⟨b, o, rfl, hb, hcell⟩ := hr (by intro h0; rw [h0] at hlt; simp at hlt)
      obtain ⟨x, hx⟩ : ∃ x, x = zs.getD k 0 := ⟨_, rfl⟩
      have hc : w.cell? ⟨b, o + k, none⟩ = some (.int .i64 x) := by rw [hx]; exact hcell k hlt
      have i0 : (0 : Int) ≤ (k : Int) := by omega
      have i1 : (k : Int) < (zs.length : Int) := by omega
      have HX := Lib.hid hx
      clear hcell hr hx
      by_cases hg : x < sy
      · have hng : ¬ sy ≤ x := by omega
        have HG := Lib.hid hg
        have HN : Hid (∀ i, i < k + 1 → zs.getD i 0 < sy) := Lib.hid (fun i hi => by
          by_cases he : i = k
          · subst he; rw [← HX.out]; exact HG.out
          · exact HA.out i (by omega))
        clear hg
        go_wp2
        go_round
        case rel => exact ⟨k + 1, by omega, by go_num, HN.out⟩
        case measure => simp [intOf]; omega
      · have hng : sy ≤ x := by omega
        have HF : Hid (ovB sy zs = false) := Lib.hid (by simp only [ovB, decide_eq_false_iff_not]; exact fun H => hg (by have := H k hlt; rw [← HX.out] at this; exact this))
        clear hg
        go_wp2
        go_ret
        exact ⟨by rw [HF.out] <;> rfl, rfl⟩
    · obtain rfl : k = zs.length := by omega
      have HF : Hid (ovB sy zs = true) := Lib.hid (by simp only [ovB, decide_eq_true_eq]; exact HA.out)
      clear hr hlt
      have hnlt : ¬ ((zs.length : Int) < (zs.length : Int)) := by omega
      go_wp2
      go_ret
      exact ⟨by rw [HF.out] <;> rfl, rfl⟩
theorem specStart (v : Value) (zs : List Int) (w : World) (h : Rd w v zs) :
    Calls Tryd.prog 56 #[v] w fun e w' => ∃ u0 u1, e = .returned (.agg #[.int .i64 0, u0, u1]) ∧ Ow w' w.heap.size w'.heap.size u0 [] ∧ Ow w' w.heap.size w'.heap.size u1 (tr zs) ∧ Sep u0 u1 ∧ Below w.heap.size w w' := by
  have H := Lib.hid h
  clear h
  obtain ⟨W0, hW0⟩ : ∃ W, W = (w.alloc (Obj.cells #[.int .i64 0, .slice none 0 0, .slice none 0 0] 35)).alloc (.cells #[] 2) := ⟨_, rfl⟩
  have HB : Hid (Below w.heap.size w W0) := Lib.hid (by rw [hW0]; exact ((Below.refl w.heap.size w).alloc (Nat.le_refl _) _).alloc (by simp) _)
  have KC : Hid (Cels W0 w.heap.size 35 [.int .i64 0, .slice none 0 0, .slice none 0 0]) := Lib.hid (by rw [hW0]; exact (Cels.new _ _ _).alloc _)
  have HO0 : Hid (Ow W0 (w.heap.size + 1) W0.heap.size (.slice (some ⟨w.heap.size + 1, 0, none⟩) 0 0) []) := Lib.hid (by rw [hW0]; have h := Ow.made (w.alloc (Obj.cells #[.int .i64 0, .slice none 0 0, .slice none 0 0] 35)); simp only [World.size_alloc] at h; simp only [World.size_alloc]; exact h)
  have HSZ : Hid (w.heap.size + 2 = W0.heap.size) := Lib.hid (by rw [hW0]; simp)
  have HW0 := Lib.hid hW0.symm
  clear hW0
  go_enter Tryd.func56, Tryd.ntmps56
  go_wp2_with fail
  rw [HW0.out]
  refine (specTrim5 _ zs _ (H.out.below HB.out (Nat.le_refl _))).mono ?_
  rintro e w1 ⟨u, rfl, ho, hb1⟩
  have HSEP := Lib.hid (sep_of HO0.out.top ho.row.lt HO0.out.size)
  have HO1 := Lib.hid ho
  replace HO0 := Lib.hid (HO0.out.below hb1 HO0.out.size)
  replace KC := Lib.hid (KC.out.below hb1 KC.out.lt)
  have HB1 := Lib.hid (HB.out.trans (hb1.mono HB.out.size))
  obtain ⟨ga, gc, hu⟩ := ho.shape
  subst hu
  have HSA : Hid (w.heap.size ≤ W0.heap.size) := Lib.hid HB.out.size
  clear ho hb1
  have HF3 := Lib.hid (put3 KC.out (.int .i64 0) (.slice (some ⟨w.heap.size + 1, 0, none⟩) 0 0) (.slice ga (tr zs).length gc))
  obtain ⟨f1, f2, f3, f4, f5, f6, f7⟩ := HF3.out
  have HG3 := Lib.hid (put3g KC.out (.int .i64 0) (.slice (some ⟨w.heap.size + 1, 0, none⟩) 0 0) (.slice ga (tr zs).length gc))
  go_wp2
  obtain ⟨W, hW⟩ : ∃ W, W = ((w1.setCell ⟨w.heap.size, 0, none⟩ (.int .i64 0)).setCell ⟨w.heap.size, 1, none⟩ (.slice (some ⟨w.heap.size + 1, 0, none⟩) 0 0)).setCell ⟨w.heap.size, 2, none⟩ (.slice ga (tr zs).length gc) := ⟨_, rfl⟩
  have hB : Below w.heap.size w W := by
    rw [hW]
    exact below_set (below_set (below_set HB1.out (by omega) _ _) (by omega) _ _) (by omega) _ _
  have hG := HG3.out
  rw [← hW] at f7 hG ⊢
  have z0 := f7.cell 0 rfl
  have z1 := f7.cell 1 rfl
  have z2 := f7.cell 2 rfl
  clear f1 f2 f3 f4 f5 f6 hW
  refine bodyPost_ret (v := .agg #[.int .i64 0, .slice (some ⟨w.heap.size + 1, 0, none⟩) 0 0, .slice ga (tr zs).length gc]) (by simp [results, Tryd.f56, go_sem, z0, z1, z2]) rfl ⟨_, _, rfl, ((HO0.out.grown hG (Or.inr (HO0.out.nblk KC.out (by decide)))).up.mono (by omega) (Nat.le_refl _) (Nat.le_refl _)), ((HO1.out.grown hG (Or.inr (HO1.out.nblk KC.out (by decide)))).up.mono HSA.out (Nat.le_refl _) (Nat.le_refl _)), HSEP.out, hB⟩
/-- StartConfig's code and cells. -/
noncomputable def scC (sy st : Int) (ms : List Ru) (zs : List Int) : Int := if machB sy st ms = true then (if wordB zs = true then (if digB sy zs = true then (if (tr zs).length ≤ 200 then 0 else 5) else 2) else 1) else 1
noncomputable def scR (sy st : Int) (ms : List Ru) (zs : List Int) : List Int := if scC sy st ms zs = 0 then tr zs else []
def scL : List Int := []
theorem sc_bad {sy st : Int} {ms : List Ru} {zs : List Int} {k : Int} (h : scC sy st ms zs = k) (hk : k ≠ 0) : scR sy st ms zs = [] := by rw [scR, h, if_neg hk]
set_option maxHeartbeats 4000000 in
theorem specStartConfig (sy st : Int) (v : Value) (ms : List Ru) (u : Value) (zs : List Int) (w : World) (hv : RdR w v ms) (hu : Rd w u zs) :
    Calls Tryd.prog 26 #[.agg #[.int .i64 sy, .int .i64 st, v], u] w fun e w' => ∃ u0 u1, e = .returned (.tuple #[.agg #[.int .i64 0, u0, u1], .int .i64 (scC sy st ms zs)]) ∧ Ow w' w.heap.size w'.heap.size u0 scL ∧ Ow w' w.heap.size w'.heap.size u1 (scR sy st ms zs) ∧ Sep u0 u1 ∧ Below w.heap.size w w' := by
  have HV := Lib.hid hv
  have HU := Lib.hid hu
  obtain ⟨_, _, a, c, rfl, _, _⟩ := hv
  obtain ⟨_, _, a1, c1, rfl, _, _⟩ := hu
  obtain ⟨W0, hW0⟩ : ∃ W, W = (w.alloc (Obj.cells #[.int .i64 sy, .int .i64 st, .slice a ms.length c] 33)).alloc (Obj.cells #[.int .i64 0, .slice none 0 0, .slice none 0 0] 35) := ⟨_, rfl⟩
  have HB : Hid (Below w.heap.size w W0) := Lib.hid (by rw [hW0]; exact ((Below.refl w.heap.size w).alloc (Nat.le_refl _) _).alloc (by simp) _)
  have K1 : Hid (Cels W0 w.heap.size 33 [.int .i64 sy, .int .i64 st, .slice a ms.length c]) := Lib.hid (by rw [hW0]; exact (Cels.new _ _ _).alloc _)
  have KC : Hid (Cels W0 (w.heap.size + 1) 35 [.int .i64 0, .slice none 0 0, .slice none 0 0]) := Lib.hid (by rw [hW0]; have h := Cels.new (w.alloc (Obj.cells #[.int .i64 sy, .int .i64 st, .slice a ms.length c] 33)) 35 [.int .i64 0, .slice none 0 0, .slice none 0 0]; simp only [World.size_alloc] at h; exact h)
  have HW0 := Lib.hid hW0.symm
  clear hW0
  obtain ⟨bm, hbm⟩ : ∃ b, b = machB sy st ms := ⟨_, rfl⟩
  have HM := Lib.hid hbm
  obtain ⟨bw, hbw⟩ : ∃ b, b = wordB zs := ⟨_, rfl⟩
  have HWD := Lib.hid hbw
  obtain ⟨bo, hbo⟩ : ∃ b, b = digB sy zs := ⟨_, rfl⟩
  have HOV := Lib.hid hbo
  clear hbm hbw hbo
  go_enter Tryd.func26, Tryd.ntmps26
  go_wp2_with fail
  rw [HW0.out]
  refine (specIs w.heap.size sy st _ ms _ (HV.out.below HB.out (Nat.le_refl _)) (K1.out.cell 0 rfl) (K1.out.cell 1 rfl) (K1.out.cell 2 rfl)).mono ?_
  rintro e w1 ⟨rfl, hb1⟩
  rw [← HM.out]
  replace K1 := Lib.hid (K1.out.below hb1 K1.out.lt)
  replace KC := Lib.hid (KC.out.below hb1 KC.out.lt)
  have HB1 := Lib.hid (HB.out.trans (hb1.mono HB.out.size))
  clear hb1
  rcases eqOr bm with hb | hb
  · subst hb
    have hcode : scC sy st ms zs = 1 := by simp [scC, ← HM.out]
    have e := Lib.hid (And.intro hcode (sc_bad hcode (by decide)))
    clear hcode
    have HF3 := Lib.hid (put3 KC.out (.int .i64 0) (.slice none 0 0) (.slice none 0 0))
    obtain ⟨f1, f2, f3, f4, f5, f6, f7⟩ := HF3.out
    have HG3 := Lib.hid (put3g KC.out (.int .i64 0) (.slice none 0 0) (.slice none 0 0))
    go_wp2
    obtain ⟨W, hW⟩ : ∃ W, W = ((w1.setCell ⟨w.heap.size + 1, 0, none⟩ (.int .i64 0)).setCell ⟨w.heap.size + 1, 1, none⟩ (.slice none 0 0)).setCell ⟨w.heap.size + 1, 2, none⟩ (.slice none 0 0) := ⟨_, rfl⟩
    have hB : Below w.heap.size w W := by
      rw [hW]
      exact below_set (below_set (below_set HB1.out (by omega) _ _) (by omega) _ _) (by omega) _ _
    have hG := HG3.out
    rw [← hW] at f7 hG ⊢
    have z0 := f7.cell 0 rfl
    have z1 := f7.cell 1 rfl
    have z2 := f7.cell 2 rfl
    clear f1 f2 f3 f4 f5 f6 hW
    rw [e.out.1, e.out.2, scL]
    refine bodyPost_ret (v := .tuple #[.agg #[.int .i64 0, .slice none 0 0, .slice none 0 0], .int .i64 1]) (by simp [results, Tryd.f26, go_sem, z0, z1, z2]) rfl ⟨_, _, rfl, Ow.emptyUp hB.size, Ow.emptyUp hB.size, ⟨.inl rfl, .inl rfl⟩, hB⟩
  subst hb
  go_wp2_with fail
  refine (specWord _ zs _ (HU.out.below HB1.out (Nat.le_refl _))).mono ?_
  rintro e1 w1' ⟨rfl, hw⟩
  obtain rfl := hw
  rw [← HWD.out]
  rcases eqOr bw with hb | hb
  · subst hb
    have hcode : scC sy st ms zs = 1 := by simp [scC, ← HM.out, ← HWD.out]
    have e := Lib.hid (And.intro hcode (sc_bad hcode (by decide)))
    clear hcode
    have HF3 := Lib.hid (put3 KC.out (.int .i64 0) (.slice none 0 0) (.slice none 0 0))
    obtain ⟨f1, f2, f3, f4, f5, f6, f7⟩ := HF3.out
    have HG3 := Lib.hid (put3g KC.out (.int .i64 0) (.slice none 0 0) (.slice none 0 0))
    go_wp2
    obtain ⟨W, hW⟩ : ∃ W, W = ((w1.setCell ⟨w.heap.size + 1, 0, none⟩ (.int .i64 0)).setCell ⟨w.heap.size + 1, 1, none⟩ (.slice none 0 0)).setCell ⟨w.heap.size + 1, 2, none⟩ (.slice none 0 0) := ⟨_, rfl⟩
    have hB : Below w.heap.size w W := by
      rw [hW]
      exact below_set (below_set (below_set HB1.out (by omega) _ _) (by omega) _ _) (by omega) _ _
    have hG := HG3.out
    rw [← hW] at f7 hG ⊢
    have z0 := f7.cell 0 rfl
    have z1 := f7.cell 1 rfl
    have z2 := f7.cell 2 rfl
    clear f1 f2 f3 f4 f5 f6 hW
    rw [e.out.1, e.out.2, scL]
    refine bodyPost_ret (v := .tuple #[.agg #[.int .i64 0, .slice none 0 0, .slice none 0 0], .int .i64 1]) (by simp [results, Tryd.f26, go_sem, z0, z1, z2]) rfl ⟨_, _, rfl, Ow.emptyUp hB.size, Ow.emptyUp hB.size, ⟨.inl rfl, .inl rfl⟩, hB⟩
  subst hb
  have y0 := K1.out.cell 0 rfl
  have HOD := Lib.hid (ovB_word (sy := sy) HWD.out.symm)
  go_wp2_with fail
  refine (specOver _ zs sy _ (HU.out.below HB1.out (Nat.le_refl _))).mono ?_
  rintro e1 w1' ⟨rfl, hw⟩
  obtain rfl := hw
  rw [HOD.out, ← HOV.out]
  clear y0
  rcases eqOr bo with hb | hb
  · subst hb
    have hcode : scC sy st ms zs = 2 := by simp [scC, ← HM.out, ← HWD.out, ← HOV.out]
    have e := Lib.hid (And.intro hcode (sc_bad hcode (by decide)))
    clear hcode
    have HF3 := Lib.hid (put3 KC.out (.int .i64 0) (.slice none 0 0) (.slice none 0 0))
    obtain ⟨f1, f2, f3, f4, f5, f6, f7⟩ := HF3.out
    have HG3 := Lib.hid (put3g KC.out (.int .i64 0) (.slice none 0 0) (.slice none 0 0))
    go_wp2
    obtain ⟨W, hW⟩ : ∃ W, W = ((w1.setCell ⟨w.heap.size + 1, 0, none⟩ (.int .i64 0)).setCell ⟨w.heap.size + 1, 1, none⟩ (.slice none 0 0)).setCell ⟨w.heap.size + 1, 2, none⟩ (.slice none 0 0) := ⟨_, rfl⟩
    have hB : Below w.heap.size w W := by
      rw [hW]
      exact below_set (below_set (below_set HB1.out (by omega) _ _) (by omega) _ _) (by omega) _ _
    have hG := HG3.out
    rw [← hW] at f7 hG ⊢
    have z0 := f7.cell 0 rfl
    have z1 := f7.cell 1 rfl
    have z2 := f7.cell 2 rfl
    clear f1 f2 f3 f4 f5 f6 hW
    rw [e.out.1, e.out.2, scL]
    refine bodyPost_ret (v := .tuple #[.agg #[.int .i64 0, .slice none 0 0, .slice none 0 0], .int .i64 2]) (by simp [results, Tryd.f26, go_sem, z0, z1, z2]) rfl ⟨_, _, rfl, Ow.emptyUp hB.size, Ow.emptyUp hB.size, ⟨.inl rfl, .inl rfl⟩, hB⟩
  subst hb
  have HC : Hid (scC sy st ms zs = if (tr zs).length ≤ 200 then 0 else 5) := Lib.hid (by simp [scC, ← HM.out, ← HWD.out, ← HOV.out])
  go_wp2_with fail
  refine (specStart _ zs _ (HU.out.below HB1.out (Nat.le_refl _))).mono ?_
  rintro e2 w2 ⟨u0, u1, rfl, ho0, ho1, hs, hb2⟩
  obtain ⟨a5, c5, hu5⟩ := ho0.shape
  obtain ⟨a6, c6, hu6⟩ := ho1.shape
  subst hu5
  subst hu6
  replace KC := Lib.hid (KC.out.below hb2 KC.out.lt)
  have hsz1 := HB1.out.size
  have HB2 := Lib.hid (HB1.out.trans (hb2.mono HB1.out.size))
  have HSEP := Lib.hid hs
  obtain ⟨n, hn⟩ : ∃ n, n = (tr zs).length := ⟨_, rfl⟩
  have HN := Lib.hid hn
  have q1 : Below w2.heap.size w2 (w2.alloc (Obj.cells #[.int .i64 0, .slice a5 0 c5, .slice a6 n c6] 35)) := (Below.refl _ _).alloc (Nat.le_refl _) _
  have HO0 := Lib.hid (ho0.below q1 ho0.size)
  have HO1 := Lib.hid (ho1.below q1 ho1.size)
  replace KC := Lib.hid (KC.out.below q1 KC.out.lt)
  have HB3 := Lib.hid (HB2.out.trans (q1.mono HB2.out.size))
  have KO := Lib.hid (Cels.new w2 35 [.int .i64 0, .slice a5 0 c5, .slice a6 n c6])
  rw [← hn] at HO1 HSEP HC ⊢
  simp only [List.length_nil] at HO0 HSEP ⊢
  clear ho0 ho1 hs hb2 q1 hn
  have y0 := KO.out.cell 0 rfl
  have y1 := KO.out.cell 1 rfl
  have y2 := KO.out.cell 2 rfl
  by_cases hlen : (200 : Int) < (n : Int)
  · have hcode : scC sy st ms zs = 5 := by rw [HC.out, if_neg (by omega)]
    have e := Lib.hid (And.intro hcode (sc_bad hcode (by decide)))
    clear hcode
    have HF3 := Lib.hid (put3 KC.out (.int .i64 0) (.slice none 0 0) (.slice none 0 0))
    obtain ⟨f1, f2, f3, f4, f5, f6, f7⟩ := HF3.out
    have HG3 := Lib.hid (put3g KC.out (.int .i64 0) (.slice none 0 0) (.slice none 0 0))
    go_wp2
    obtain ⟨W, hW⟩ : ∃ W, W = (((w2.alloc (Obj.cells #[.int .i64 0, .slice a5 0 c5, .slice a6 n c6] 35)).setCell ⟨w.heap.size + 1, 0, none⟩ (.int .i64 0)).setCell ⟨w.heap.size + 1, 1, none⟩ (.slice none 0 0)).setCell ⟨w.heap.size + 1, 2, none⟩ (.slice none 0 0) := ⟨_, rfl⟩
    have hB : Below w.heap.size w W := by
      rw [hW]
      exact below_set (below_set (below_set HB3.out (by omega) _ _) (by omega) _ _) (by omega) _ _
    have hG := HG3.out
    rw [← hW] at f7 hG ⊢
    have z0 := f7.cell 0 rfl
    have z1 := f7.cell 1 rfl
    have z2 := f7.cell 2 rfl
    clear f1 f2 f3 f4 f5 f6 hW
    rw [e.out.1, e.out.2, scL]
    refine bodyPost_ret (v := .tuple #[.agg #[.int .i64 0, .slice none 0 0, .slice none 0 0], .int .i64 5]) (by simp [results, Tryd.f26, go_sem, z0, z1, z2]) rfl ⟨_, _, rfl, Ow.emptyUp hB.size, Ow.emptyUp hB.size, ⟨.inl rfl, .inl rfl⟩, hB⟩
  · have hcode : scC sy st ms zs = 0 := by rw [HC.out, if_pos (by omega)]
    have e := Lib.hid (And.intro hcode (show scR sy st ms zs = tr zs by rw [scR, if_pos hcode]))
    clear hcode
    have HF3 := Lib.hid (put3 KC.out (.int .i64 0) (.slice a5 0 c5) (.slice a6 n c6))
    obtain ⟨f1, f2, f3, f4, f5, f6, f7⟩ := HF3.out
    have HG3 := Lib.hid (put3g KC.out (.int .i64 0) (.slice a5 0 c5) (.slice a6 n c6))
    go_wp2
    obtain ⟨W, hW⟩ : ∃ W, W = (((w2.alloc (Obj.cells #[.int .i64 0, .slice a5 0 c5, .slice a6 n c6] 35)).setCell ⟨w.heap.size + 1, 0, none⟩ (.int .i64 0)).setCell ⟨w.heap.size + 1, 1, none⟩ (.slice a5 0 c5)).setCell ⟨w.heap.size + 1, 2, none⟩ (.slice a6 n c6) := ⟨_, rfl⟩
    have hB : Below w.heap.size w W := by
      rw [hW]
      exact below_set (below_set (below_set HB3.out (by omega) _ _) (by omega) _ _) (by omega) _ _
    have hG := HG3.out
    rw [← hW] at f7 hG ⊢
    have z0 := f7.cell 0 rfl
    have z1 := f7.cell 1 rfl
    have z2 := f7.cell 2 rfl
    clear f1 f2 f3 f4 f5 f6 hW
    rw [e.out.1, e.out.2, scL]
    refine bodyPost_ret (v := .tuple #[.agg #[.int .i64 0, .slice a5 0 c5, .slice a6 n c6], .int .i64 0]) (by simp [results, Tryd.f26, go_sem, z0, z1, z2]) rfl ⟨_, _, rfl, ((HO0.out.grown hG (Or.inr (HO0.out.nblk KC.out (by decide)))).up.mono hsz1 (Nat.le_refl _) (Nat.le_refl _)), ((HO1.out.grown hG (Or.inr (HO1.out.nblk KC.out (by decide)))).up.mono hsz1 (Nat.le_refl _) (Nat.le_refl _)), HSEP.out, hB⟩
set_option maxHeartbeats 4000000 in
theorem implStartConfig (sy st : Int) (v : Value) (ms : List Ru) (u : Value) (zs : List Int) (w : World) (hv : RdR w v ms) (hu : Rd w u zs) (hnr : NoR w) :
    Calls Tryd.prog 28 #[.agg #[.int .i64 sy, .int .i64 st, v], u] w fun e w' => ∃ u0 u1, e = .returned (.tuple #[.agg #[.int .i64 0, u0, u1], .int .i64 (scC sy st ms zs)]) ∧ Ow w' w.heap.size w'.heap.size u0 scL ∧ Ow w' w.heap.size w'.heap.size u1 (scR sy st ms zs) ∧ Sep u0 u1 ∧ Below w.heap.size w w' := by
  have HV := Lib.hid hv
  have HU := Lib.hid hu
  obtain ⟨_, _, a, c, rfl, _, _⟩ := hv
  obtain ⟨_, _, a1, c1, rfl, _, _⟩ := hu
  obtain ⟨W0, hW0⟩ : ∃ W, W = (w.alloc (Obj.cells #[.int .i64 sy, .int .i64 st, .slice a ms.length c] 33)).alloc (Obj.cells #[.int .i64 0, .slice none 0 0, .slice none 0 0] 35) := ⟨_, rfl⟩
  have HB : Hid (Below w.heap.size w W0) := Lib.hid (by rw [hW0]; exact ((Below.refl w.heap.size w).alloc (Nat.le_refl _) _).alloc (by simp) _)
  have K1 : Hid (Cels W0 w.heap.size 33 [.int .i64 sy, .int .i64 st, .slice a ms.length c]) := Lib.hid (by rw [hW0]; exact (Cels.new _ _ _).alloc _)
  have KC : Hid (Cels W0 (w.heap.size + 1) 35 [.int .i64 0, .slice none 0 0, .slice none 0 0]) := Lib.hid (by rw [hW0]; have h := Cels.new (w.alloc (Obj.cells #[.int .i64 sy, .int .i64 st, .slice a ms.length c] 33)) 35 [.int .i64 0, .slice none 0 0, .slice none 0 0]; simp only [World.size_alloc] at h; exact h)
  have HW0 := Lib.hid hW0.symm
  clear hW0
  obtain ⟨bm, hbm⟩ : ∃ b, b = machB sy st ms := ⟨_, rfl⟩
  have HM := Lib.hid hbm
  obtain ⟨bw, hbw⟩ : ∃ b, b = wordB zs := ⟨_, rfl⟩
  have HWD := Lib.hid hbw
  obtain ⟨bo, hbo⟩ : ∃ b, b = digB sy zs := ⟨_, rfl⟩
  have HOV := Lib.hid hbo
  clear hbm hbw hbo
  have HNR := Lib.hid (hnr.below HB.out (Nat.le_refl _))
  clear hnr
  go_enter Tryd.func28, Tryd.ntmps28
  go_wp2_with fail
  rw [HW0.out]
  refine (implValidMachine sy st _ ms _ (HV.out.below HB.out (Nat.le_refl _)) HNR.out).mono ?_
  rintro e w1 ⟨rfl, hb1⟩
  rw [← HM.out]
  replace K1 := Lib.hid (K1.out.below hb1 K1.out.lt)
  replace KC := Lib.hid (KC.out.below hb1 KC.out.lt)
  have HB1 := Lib.hid (HB.out.trans (hb1.mono HB.out.size))
  clear hb1
  rcases eqOr bm with hb | hb
  · subst hb
    have hcode : scC sy st ms zs = 1 := by simp [scC, ← HM.out]
    have e := Lib.hid (And.intro hcode (sc_bad hcode (by decide)))
    clear hcode
    have HF3 := Lib.hid (put3 KC.out (.int .i64 0) (.slice none 0 0) (.slice none 0 0))
    obtain ⟨f1, f2, f3, f4, f5, f6, f7⟩ := HF3.out
    have HG3 := Lib.hid (put3g KC.out (.int .i64 0) (.slice none 0 0) (.slice none 0 0))
    go_wp2
    obtain ⟨W, hW⟩ : ∃ W, W = ((w1.setCell ⟨w.heap.size + 1, 0, none⟩ (.int .i64 0)).setCell ⟨w.heap.size + 1, 1, none⟩ (.slice none 0 0)).setCell ⟨w.heap.size + 1, 2, none⟩ (.slice none 0 0) := ⟨_, rfl⟩
    have hB : Below w.heap.size w W := by
      rw [hW]
      exact below_set (below_set (below_set HB1.out (by omega) _ _) (by omega) _ _) (by omega) _ _
    have hG := HG3.out
    rw [← hW] at f7 hG ⊢
    have z0 := f7.cell 0 rfl
    have z1 := f7.cell 1 rfl
    have z2 := f7.cell 2 rfl
    clear f1 f2 f3 f4 f5 f6 hW
    rw [e.out.1, e.out.2, scL]
    refine bodyPost_ret (v := .tuple #[.agg #[.int .i64 0, .slice none 0 0, .slice none 0 0], .int .i64 1]) (by simp [results, Tryd.f28, go_sem, z0, z1, z2]) rfl ⟨_, _, rfl, Ow.emptyUp hB.size, Ow.emptyUp hB.size, ⟨.inl rfl, .inl rfl⟩, hB⟩
  subst hb
  go_wp2_with fail
  refine (implWord _ zs _ (HU.out.below HB1.out (Nat.le_refl _))).mono ?_
  rintro e1 w2 ⟨rfl, hb2⟩
  rw [← HWD.out]
  replace K1 := Lib.hid (K1.out.below hb2 K1.out.lt)
  replace KC := Lib.hid (KC.out.below hb2 KC.out.lt)
  have HB2 := Lib.hid (HB1.out.trans (hb2.mono HB1.out.size))
  clear hb2
  rcases eqOr bw with hb | hb
  · subst hb
    have hcode : scC sy st ms zs = 1 := by simp [scC, ← HM.out, ← HWD.out]
    have e := Lib.hid (And.intro hcode (sc_bad hcode (by decide)))
    clear hcode
    have HF3 := Lib.hid (put3 KC.out (.int .i64 0) (.slice none 0 0) (.slice none 0 0))
    obtain ⟨f1, f2, f3, f4, f5, f6, f7⟩ := HF3.out
    have HG3 := Lib.hid (put3g KC.out (.int .i64 0) (.slice none 0 0) (.slice none 0 0))
    go_wp2
    obtain ⟨W, hW⟩ : ∃ W, W = ((w2.setCell ⟨w.heap.size + 1, 0, none⟩ (.int .i64 0)).setCell ⟨w.heap.size + 1, 1, none⟩ (.slice none 0 0)).setCell ⟨w.heap.size + 1, 2, none⟩ (.slice none 0 0) := ⟨_, rfl⟩
    have hB : Below w.heap.size w W := by
      rw [hW]
      exact below_set (below_set (below_set HB2.out (by omega) _ _) (by omega) _ _) (by omega) _ _
    have hG := HG3.out
    rw [← hW] at f7 hG ⊢
    have z0 := f7.cell 0 rfl
    have z1 := f7.cell 1 rfl
    have z2 := f7.cell 2 rfl
    clear f1 f2 f3 f4 f5 f6 hW
    rw [e.out.1, e.out.2, scL]
    refine bodyPost_ret (v := .tuple #[.agg #[.int .i64 0, .slice none 0 0, .slice none 0 0], .int .i64 1]) (by simp [results, Tryd.f28, go_sem, z0, z1, z2]) rfl ⟨_, _, rfl, Ow.emptyUp hB.size, Ow.emptyUp hB.size, ⟨.inl rfl, .inl rfl⟩, hB⟩
  subst hb
  have y0 := K1.out.cell 0 rfl
  go_wp2_with fail
  refine (areBelow_any _ zs sy _ (HU.out.below HB2.out (Nat.le_refl _))).mono ?_
  rintro e1 w3 ⟨rfl, hb3⟩
  rw [← HOV.out]
  replace KC := Lib.hid (KC.out.below hb3 KC.out.lt)
  have HB3 := Lib.hid (HB2.out.trans (hb3.mono HB2.out.size))
  clear y0 hb3
  rcases eqOr bo with hb | hb
  · subst hb
    have hcode : scC sy st ms zs = 2 := by simp [scC, ← HM.out, ← HWD.out, ← HOV.out]
    have e := Lib.hid (And.intro hcode (sc_bad hcode (by decide)))
    clear hcode
    have HF3 := Lib.hid (put3 KC.out (.int .i64 0) (.slice none 0 0) (.slice none 0 0))
    obtain ⟨f1, f2, f3, f4, f5, f6, f7⟩ := HF3.out
    have HG3 := Lib.hid (put3g KC.out (.int .i64 0) (.slice none 0 0) (.slice none 0 0))
    go_wp2
    obtain ⟨W, hW⟩ : ∃ W, W = ((w3.setCell ⟨w.heap.size + 1, 0, none⟩ (.int .i64 0)).setCell ⟨w.heap.size + 1, 1, none⟩ (.slice none 0 0)).setCell ⟨w.heap.size + 1, 2, none⟩ (.slice none 0 0) := ⟨_, rfl⟩
    have hB : Below w.heap.size w W := by
      rw [hW]
      exact below_set (below_set (below_set HB3.out (by omega) _ _) (by omega) _ _) (by omega) _ _
    have hG := HG3.out
    rw [← hW] at f7 hG ⊢
    have z0 := f7.cell 0 rfl
    have z1 := f7.cell 1 rfl
    have z2 := f7.cell 2 rfl
    clear f1 f2 f3 f4 f5 f6 hW
    rw [e.out.1, e.out.2, scL]
    refine bodyPost_ret (v := .tuple #[.agg #[.int .i64 0, .slice none 0 0, .slice none 0 0], .int .i64 2]) (by simp [results, Tryd.f28, go_sem, z0, z1, z2]) rfl ⟨_, _, rfl, Ow.emptyUp hB.size, Ow.emptyUp hB.size, ⟨.inl rfl, .inl rfl⟩, hB⟩
  subst hb
  have HC : Hid (scC sy st ms zs = if (tr zs).length ≤ 200 then 0 else 5) := Lib.hid (by simp [scC, ← HM.out, ← HWD.out, ← HOV.out])
  go_wp2_with fail
  refine (implTr _ zs _ (HU.out.below HB3.out (Nat.le_refl _))).mono ?_
  rintro e2 w3' ⟨u2, rfl, ht, hw⟩
  obtain rfl := hw
  have HRD := Lib.hid ht
  obtain ⟨_, _, a2, c2, rfl, _, _⟩ := ht
  obtain ⟨n, hn⟩ : ∃ n, n = (tr zs).length := ⟨_, rfl⟩
  have HN := Lib.hid hn
  rw [← hn] at HRD HC ⊢
  clear hn
  by_cases hlen : (200 : Int) < (n : Int)
  · have hcode : scC sy st ms zs = 5 := by rw [HC.out, if_neg (by omega)]
    have e := Lib.hid (And.intro hcode (sc_bad hcode (by decide)))
    clear hcode
    have HF3 := Lib.hid (put3 KC.out (.int .i64 0) (.slice none 0 0) (.slice none 0 0))
    obtain ⟨f1, f2, f3, f4, f5, f6, f7⟩ := HF3.out
    have HG3 := Lib.hid (put3g KC.out (.int .i64 0) (.slice none 0 0) (.slice none 0 0))
    go_wp2
    obtain ⟨W, hW⟩ : ∃ W, W = ((w3.setCell ⟨w.heap.size + 1, 0, none⟩ (.int .i64 0)).setCell ⟨w.heap.size + 1, 1, none⟩ (.slice none 0 0)).setCell ⟨w.heap.size + 1, 2, none⟩ (.slice none 0 0) := ⟨_, rfl⟩
    have hB : Below w.heap.size w W := by
      rw [hW]
      exact below_set (below_set (below_set HB3.out (by omega) _ _) (by omega) _ _) (by omega) _ _
    have hG := HG3.out
    rw [← hW] at f7 hG ⊢
    have z0 := f7.cell 0 rfl
    have z1 := f7.cell 1 rfl
    have z2 := f7.cell 2 rfl
    clear f1 f2 f3 f4 f5 f6 hW
    rw [e.out.1, e.out.2, scL]
    refine bodyPost_ret (v := .tuple #[.agg #[.int .i64 0, .slice none 0 0, .slice none 0 0], .int .i64 5]) (by simp [results, Tryd.f28, go_sem, z0, z1, z2]) rfl ⟨_, _, rfl, Ow.emptyUp hB.size, Ow.emptyUp hB.size, ⟨.inl rfl, .inl rfl⟩, hB⟩
  have hcode : scC sy st ms zs = 0 := by rw [HC.out, if_pos (by omega)]
  have e := Lib.hid (And.intro hcode (show scR sy st ms zs = tr zs by rw [scR, if_pos hcode]))
  clear hcode
  go_wp2_with fail
  refine (libClone _ (tr zs) _ (by rw [HN.out] at HRD; first | exact HRD.out | exact (HN.out ▸ HRD.out))).mono ?_
  rintro e4 w4 ⟨u4, rfl, ho, hb4⟩
  have hsz3 := HB3.out.size
  have HO1 := Lib.hid ho
  have HO0 := Lib.hid (Ow.emptyUp (w := w4) (B := w3.heap.size) hb4.size)
  replace KC := Lib.hid (KC.out.below hb4 KC.out.lt)
  have HB4 := Lib.hid (HB3.out.trans (hb4.mono HB3.out.size))
  obtain ⟨a6, c6, hu6⟩ := ho.shape
  subst hu6
  rw [← HN.out] at HO1 ⊢
  have HSEP : Hid (Sep (.slice none 0 0) (.slice a6 n c6)) := Lib.hid ⟨.inl rfl, by cases a6 <;> simp [Value.ownBlock]⟩
  clear ho hb4
  have HF3 := Lib.hid (put3 KC.out (.int .i64 0) (.slice none 0 0) (.slice a6 n c6))
  obtain ⟨f1, f2, f3, f4, f5, f6, f7⟩ := HF3.out
  have HG3 := Lib.hid (put3g KC.out (.int .i64 0) (.slice none 0 0) (.slice a6 n c6))
  go_wp2
  obtain ⟨W, hW⟩ : ∃ W, W = ((w4.setCell ⟨w.heap.size + 1, 0, none⟩ (.int .i64 0)).setCell ⟨w.heap.size + 1, 1, none⟩ (.slice none 0 0)).setCell ⟨w.heap.size + 1, 2, none⟩ (.slice a6 n c6) := ⟨_, rfl⟩
  have hB : Below w.heap.size w W := by
    rw [hW]
    exact below_set (below_set (below_set HB4.out (by omega) _ _) (by omega) _ _) (by omega) _ _
  have hG := HG3.out
  rw [← hW] at f7 hG ⊢
  have z0 := f7.cell 0 rfl
  have z1 := f7.cell 1 rfl
  have z2 := f7.cell 2 rfl
  clear f1 f2 f3 f4 f5 f6 hW
  rw [e.out.1, e.out.2, scL]
  refine bodyPost_ret (v := .tuple #[.agg #[.int .i64 0, .slice none 0 0, .slice a6 n c6], .int .i64 0]) (by simp [results, Tryd.f28, go_sem, z0, z1, z2]) rfl ⟨_, _, rfl, ((HO0.out.grown hG (Or.inr (HO0.out.nblk KC.out (by decide)))).up.mono hsz3 (Nat.le_refl _) (Nat.le_refl _)), ((HO1.out.grown hG (Or.inr (HO1.out.nblk KC.out (by decide)))).up.mono hsz3 (Nat.le_refl _) (Nat.le_refl _)), HSEP.out, hB⟩
end Go.Proofs.YtmgogbcipdjddaaDoor.Ints
