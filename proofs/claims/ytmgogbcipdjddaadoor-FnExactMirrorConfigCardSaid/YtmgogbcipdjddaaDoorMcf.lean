/- Contracts of MirrorConfig, of the model and of the program. -/
import Derived.Test.YtmgogbcipdjddaaDoorStart
import Derived.Test.YtmgogbcipdjddaaDoorSideV
import Derived.Test.YtmgogbcipdjddaaDoorCat
import Derived.Test.YtmgogbcipdjddaaDoorCelD
import Derived.Deep.DeepCutAuto
import Derived.Deep.RegionHeld3
namespace Go.Proofs.YtmgogbcipdjddaaDoor.Ints
open Go.RowKit
set_option linter.unusedVariables false
set_option linter.unusedSimpArgs false
set_option maxRecDepth 100000 in
theorem specRest (v : Value) (Z : List Int) (w : World) (h : Rd w v Z) :
    Calls Tryd.prog 61 #[v] w fun e w' => ∃ u, e = .returned u ∧ Ow w' w.heap.size w'.heap.size u (Z.drop 1) ∧ Below w.heap.size w w' := by
  have H := Lib.hid h
  obtain ⟨hl, hf, a, c, rfl, hcap, hr⟩ := h
  cases Z with
  | nil =>
    clear hr
    have HO := Lib.hid (Ow.made w)
    have HB : Hid (Below w.heap.size w (w.alloc (.cells #[] 2))) := Lib.hid ((Below.refl _ _).alloc (Nat.le_refl _) _)
    go_enter Tryd.func61, Tryd.ntmps61
    go_wp2
    go_ret
    exact ⟨_, rfl, HO.out, HB.out⟩
  | cons x xs =>
    obtain ⟨n, hn⟩ : ∃ n, (x :: xs).length = n + 1 := ⟨xs.length, rfl⟩
    obtain ⟨k, rfl⟩ : ∃ k, c = k + 1 := ⟨c - 1, by rw [hn] at hcap; omega⟩
    obtain ⟨b, o, rfl, hb, hcell⟩ := hr (by simp)
    have hz : (((n + 1 : Nat) : Int) == 0) = false := by simp only [beq_eq_false_iff_ne]; omega
    have hz2 : ((n : Int) + 1 == 0) = false := by simp only [beq_eq_false_iff_ne]; omega
    have i3 : 1 ≤ n + 1 := by omega
    have hnk : n ≤ k := by rw [hn] at hcap; omega
    have i4 : n + 1 ≤ k + 1 := by omega
    have HT : ∀ a', (k ≠ 0 → a' = some ⟨b, o + 1, none⟩) → Rd w (.slice a' n k) xs := fun a' ha => by
      have hq : xs.length = n := by simpa using hn
      rw [← hq]
      exact H.out.tail rfl ha
    have HT2 := Lib.hid HT
    rw [hn]
    clear hcell hr hcap hl hf hn hb HT H
    rcases Nat.eq_zero_or_pos k with hk | hk
    · subst hk
      obtain rfl : n = 0 := by omega
      go_enter Tryd.func61, Tryd.ntmps61
      go_wp2_with fail
      refine (specOwn _ xs _ (HT2.out _ (fun h => absurd rfl h))).mono ?_
      rintro e w1 ⟨r, rfl, ho, hb⟩
      have HO := Lib.hid ho
      have HB := Lib.hid hb
      clear ho hb
      go_wp2
      go_ret
      exact ⟨_, rfl, HO.out, HB.out⟩
    · have hk0 : ¬ k = 0 := by omega
      go_enter Tryd.func61, Tryd.ntmps61
      go_wp2_with fail
      refine (specOwn _ xs _ (HT2.out _ (fun _ => rfl))).mono ?_
      rintro e w1 ⟨r, rfl, ho, hb⟩
      have HO := Lib.hid ho
      have HB := Lib.hid hb
      clear ho hb
      go_wp2
      go_ret
      exact ⟨_, rfl, HO.out, HB.out⟩
theorem specHead (g : Nat) (v : Value) (rs : List Int) (w : World) (h : Rd w v rs) (a2 : w.cell? ⟨g, 2, none⟩ = some v) :
    Calls Tryd.prog 63 #[.pointer (some ⟨g, 0, none⟩)] w fun e w' => e = .returned (.int .i64 (rs.getD 0 0)) ∧ Below w.heap.size w w' := by
  obtain ⟨hl, hf, a, c, rfl, hcap, hr⟩ := h
  cases rs with
  | nil =>
    clear hr
    go_enter Tryd.func63, Tryd.ntmps63
    go_wp2
    go_ret
    exact ⟨rfl, Below.refl _ _⟩
  | cons x xs =>
    obtain ⟨n, hn⟩ : ∃ n, (x :: xs).length = n + 1 := ⟨xs.length, rfl⟩
    obtain ⟨b, o, rfl, hb, hcell⟩ := hr (by simp)
    have hc : w.cell? ⟨b, o, none⟩ = some (.int .i64 x) := by have := hcell 0 (by simp); simpa using this
    have hz : (((n + 1 : Nat) : Int) == 0) = false := by simp only [beq_eq_false_iff_ne]; omega
    have hz2 : ((n : Int) + 1 == 0) = false := by simp only [beq_eq_false_iff_ne]; omega
    have i0 : (0 : Int) < ((n + 1 : Nat) : Int) := by omega
    have i1 : (0 : Int) < (n : Int) + 1 := by omega
    have HG : Hid ((x :: xs).getD 0 0 = x) := Lib.hid (by simp)
    rw [hn] at a2
    clear hcell hr hcap hl hf hn hb
    go_enter Tryd.func63, Tryd.ntmps63
    go_wp2
    go_ret
    exact ⟨by rw [HG.out] <;> rfl, Below.refl _ _⟩
theorem specPush (x : Int) (v : Value) (Z : List Int) (w : World) (h : Rd w v Z) (hx : -9223372036854775808 ≤ x ∧ x ≤ 9223372036854775807) (hz : Z.length ≤ 200) :
    Calls Tryd.prog 62 #[.int .i64 x, v] w fun e w' => ∃ u, e = .returned u ∧ Ow w' w.heap.size w'.heap.size u (tr (x :: Z)) ∧ Below w.heap.size w w' := by
  have H := Lib.hid h
  have HX := Lib.hid hx
  have hB : Below w.heap.size w (w.alloc (.cells #[.int .i64 x] 2)) := (Below.refl _ _).alloc (Nat.le_refl _) _
  have hown : (w.alloc (.cells #[.int .i64 x] 2)).ownsRow w.heap.size 2 1 (.slice (some ⟨w.heap.size, 0, none⟩) 1 1) ([x] : List Int).length (([x] : List Int).map (Value.int .i64)) :=
    ⟨by simp, .inr ⟨w.heap.size, 1, _, rfl, Nat.le_refl _, heap_alloc_new w _, Nat.le_refl _, by unfold maxLen; omega, by simp, by simp⟩⟩
  have HR := Lib.hid (H.out.below hB (Nat.le_refl _))
  have HBB := Lib.hid hB
  have hs : w.heap.size ≤ (w.alloc (.cells #[.int .i64 x] 2)).heap.size := by simp
  clear h hB hx
  go_enter Tryd.func62, Tryd.ntmps62
  go_wp2_with (first | (go_at_call 87; fail) | (at_builtin; refine wpList_append_rd rfl _ _ rfl w.heap.size _ _ [x] Z rfl hown rfl HR.out (by simp; omega) hs ?_))
  intro v' w4 hown4 hgrow4
  have HB4 := Lib.hid (HBB.out.grown hgrow4 hs (fun k hk => (hown.lt k hk).1))
  have HO4 : Hid (Ow w4 w.heap.size w4.heap.size v' (x :: Z)) := Lib.hid ⟨by simp; omega, fun z hz => by
    rcases List.mem_cons.1 hz with hz | hz
    · subst hz; exact HX.out
    · exact H.out.fit z hz, by have := hown4; simpa [Nat.add_comm] using this, fun k hk => (hown4.lt k hk).2, Nat.le_refl _, HB4.out.size⟩
  clear hown hown4 hgrow4 hs
  go_wp2_with fail
  refine (specTrim5 _ (x :: Z) _ HO4.out.rd).mono ?_
  rintro e w5 ⟨u, rfl, ho, hb⟩
  have HO5 := Lib.hid (ho.mono (B' := w.heap.size) HB4.out.size (Nat.le_refl _) (Nat.le_refl _))
  have HB5 := Lib.hid (HB4.out.trans (hb.mono HB4.out.size))
  clear ho hb
  go_wp2
  go_ret
  exact ⟨_, rfl, HO5.out, HB5.out⟩
/-- MirrorConfig's code and cells. -/
noncomputable def mcC (sy st : Int) (ms : List Ru) (cst : Int) (ls rs : List Int) : Int := if vcB sy st ms cst ls rs = true then (if (tr (rs.getD 0 0 :: ls)).length ≤ 200 then 0 else 5) else 1
noncomputable def mcS (sy st : Int) (ms : List Ru) (cst : Int) (ls rs : List Int) : Int := if mcC sy st ms cst ls rs = 0 then cst else 0
noncomputable def mcL (sy st : Int) (ms : List Ru) (cst : Int) (ls rs : List Int) : List Int := if mcC sy st ms cst ls rs = 0 then rs.drop 1 else []
noncomputable def mcR (sy st : Int) (ms : List Ru) (cst : Int) (ls rs : List Int) : List Int := if mcC sy st ms cst ls rs = 0 then tr (rs.getD 0 0 :: ls) else []
theorem mc_bad {sy st : Int} {ms : List Ru} {cst : Int} {ls rs : List Int} {k : Int} (h : mcC sy st ms cst ls rs = k) (hk : k ≠ 0) : mcC sy st ms cst ls rs = k ∧ mcS sy st ms cst ls rs = 0 ∧ mcL sy st ms cst ls rs = [] ∧ mcR sy st ms cst ls rs = [] := by
  refine ⟨h, ?_, ?_, ?_⟩ <;> simp [mcS, mcL, mcR, h, hk]
theorem mc_good {sy st : Int} {ms : List Ru} {cst : Int} {ls rs : List Int} (h : mcC sy st ms cst ls rs = 0) : mcC sy st ms cst ls rs = 0 ∧ mcS sy st ms cst ls rs = cst ∧ mcL sy st ms cst ls rs = rs.drop 1 ∧ mcR sy st ms cst ls rs = tr (rs.getD 0 0 :: ls) := by
  refine ⟨h, ?_, ?_, ?_⟩ <;> simp [mcS, mcL, mcR, h]
set_option maxHeartbeats 8000000 in
set_option maxRecDepth 100000 in
theorem specMirrorConfig (sy st : Int) (v : Value) (ms : List Ru) (cst : Int) (u : Value) (ls : List Int) (u' : Value) (rs : List Int) (w : World) (hv : RdR w v ms) (hu : Rd w u ls) (hu' : Rd w u' rs) :
    Calls Tryd.prog 30 #[.agg #[.int .i64 sy, .int .i64 st, v], .agg #[.int .i64 cst, u, u']] w fun e w' => ∃ x0 x1, e = .returned (.tuple #[.agg #[.int .i64 (mcS sy st ms cst ls rs), x0, x1], .int .i64 (mcC sy st ms cst ls rs)]) ∧ Ow w' w.heap.size w'.heap.size x0 (mcL sy st ms cst ls rs) ∧ Ow w' w.heap.size w'.heap.size x1 (mcR sy st ms cst ls rs) ∧ Sep x0 x1 ∧ Below w.heap.size w w' := by
  have HV := Lib.hid hv
  have HU := Lib.hid hu
  have HU' := Lib.hid hu'
  have hgd := hu'.fit.at 0
  have HGD := Lib.hid hgd
  clear hgd
  obtain ⟨_, _, a, c, rfl, _, _⟩ := hv
  obtain ⟨_, _, a1, c1, rfl, _, _⟩ := hu
  obtain ⟨_, _, a2, c2, rfl, _, _⟩ := hu'
  obtain ⟨W0, hW0⟩ : ∃ W, W = ((w.alloc (Obj.cells #[.int .i64 sy, .int .i64 st, .slice a ms.length c] 33)).alloc (Obj.cells #[.int .i64 cst, .slice a1 ls.length c1, .slice a2 rs.length c2] 35)).alloc (Obj.cells #[.int .i64 0, .slice none 0 0, .slice none 0 0] 35) := ⟨_, rfl⟩
  have HB : Hid (Below w.heap.size w W0) := Lib.hid (by rw [hW0]; exact (((Below.refl w.heap.size w).alloc (Nat.le_refl _) _).alloc (by simp) _).alloc (by simp; omega) _)
  have K1 : Hid (Cels W0 w.heap.size 33 [.int .i64 sy, .int .i64 st, .slice a ms.length c]) := Lib.hid (by rw [hW0]; exact ((Cels.new _ _ _).alloc _).alloc _)
  have K2 : Hid (Cels W0 (w.heap.size + 1) 35 [.int .i64 cst, .slice a1 ls.length c1, .slice a2 rs.length c2]) := Lib.hid (by rw [hW0]; have h := (Cels.new (w.alloc (Obj.cells #[.int .i64 sy, .int .i64 st, .slice a ms.length c] 33)) 35 [.int .i64 cst, .slice a1 ls.length c1, .slice a2 rs.length c2]).alloc (Obj.cells #[.int .i64 0, .slice none 0 0, .slice none 0 0] 35); simp only [World.size_alloc] at h; exact h)
  have KC : Hid (Cels W0 (w.heap.size + 1 + 1) 35 [.int .i64 0, .slice none 0 0, .slice none 0 0]) := Lib.hid (by rw [hW0]; have h := Cels.new ((w.alloc (Obj.cells #[.int .i64 sy, .int .i64 st, .slice a ms.length c] 33)).alloc (Obj.cells #[.int .i64 cst, .slice a1 ls.length c1, .slice a2 rs.length c2] 35)) 35 [.int .i64 0, .slice none 0 0, .slice none 0 0]; simp only [World.size_alloc] at h; exact h)
  have HW0 := Lib.hid hW0.symm
  clear hW0
  obtain ⟨bm, hbm⟩ : ∃ b, b = machB sy st ms := ⟨_, rfl⟩
  have HM := Lib.hid hbm
  obtain ⟨bg, hbg⟩ : ∃ b, b = goodB sy st cst ls rs := ⟨_, rfl⟩
  have HG := Lib.hid hbg
  clear hbm hbg
  go_enter Tryd.func30, Tryd.ntmps30
  go_wp2_with fail
  rw [HW0.out]
  refine (specIs w.heap.size sy st _ ms _ (HV.out.below HB.out (Nat.le_refl _)) (K1.out.cell 0 rfl) (K1.out.cell 1 rfl) (K1.out.cell 2 rfl)).mono ?_
  rintro e w1 ⟨rfl, hb1⟩
  rw [← HM.out]
  replace K1 := Lib.hid (K1.out.below hb1 K1.out.lt)
  replace K2 := Lib.hid (K2.out.below hb1 K2.out.lt)
  replace KC := Lib.hid (KC.out.below hb1 KC.out.lt)
  have HB1 := Lib.hid (HB.out.trans (hb1.mono HB.out.size))
  clear hb1
  rcases eqOr bm with hb | hb
  · subst hb
    have e := Lib.hid (mc_bad (show mcC sy st ms cst ls rs = 1 by simp [mcC, vcB, ← HM.out]) (by decide))
    have HF3 := Lib.hid (put3 KC.out (.int .i64 0) (.slice none 0 0) (.slice none 0 0))
    obtain ⟨f1, f2, f3, f4, f5, f6, f7⟩ := HF3.out
    have HG3 := Lib.hid (put3g KC.out (.int .i64 0) (.slice none 0 0) (.slice none 0 0))
    go_wp2
    obtain ⟨W, hW⟩ : ∃ W, W = ((w1.setCell ⟨w.heap.size + 1 + 1, 0, none⟩ (.int .i64 0)).setCell ⟨w.heap.size + 1 + 1, 1, none⟩ (.slice none 0 0)).setCell ⟨w.heap.size + 1 + 1, 2, none⟩ (.slice none 0 0) := ⟨_, rfl⟩
    have hB : Below w.heap.size w W := by
      rw [hW]
      exact below_set (below_set (below_set HB1.out (by omega) _ _) (by omega) _ _) (by omega) _ _
    have hG := HG3.out
    rw [← hW] at f7 hG ⊢
    have z0 := f7.cell 0 rfl
    have z1 := f7.cell 1 rfl
    have z2 := f7.cell 2 rfl
    clear f1 f2 f3 f4 f5 f6 hW
    rw [e.out.1, e.out.2.1, e.out.2.2.1, e.out.2.2.2]
    refine bodyPost_ret (v := .tuple #[.agg #[.int .i64 0, .slice none 0 0, .slice none 0 0], .int .i64 1]) (by simp [results, Tryd.f30, go_sem, z0, z1, z2]) rfl ⟨_, _, rfl, Ow.emptyUp hB.size, Ow.emptyUp hB.size, ⟨.inl rfl, .inl rfl⟩, hB⟩
  subst hb
  have hmo := machB_ok HM.out.symm
  have q0 := hmo.s0
  have q1 := hmo.s1
  have q2 := hmo.t0
  have q3 := hmo.t1
  clear hmo
  go_wp2_with fail
  refine (specGood w.heap.size (w.heap.size + 1) sy st cst _ _ ls rs _ (HU.out.below HB1.out (Nat.le_refl _)) (HU'.out.below HB1.out (Nat.le_refl _)) (K1.out.cell 0 rfl) (K1.out.cell 1 rfl) (K2.out.cell 0 rfl) (K2.out.cell 1 rfl) (K2.out.cell 2 rfl) (by omega) (by omega) (by omega) (by omega)).mono ?_
  rintro e2 w2 ⟨rfl, hb2⟩
  rw [← HG.out]
  replace K2 := Lib.hid (K2.out.below hb2 K2.out.lt)
  replace KC := Lib.hid (KC.out.below hb2 KC.out.lt)
  have HB2 := Lib.hid (HB1.out.trans (hb2.mono HB1.out.size))
  clear hb2 K1
  rcases eqOr bg with hb | hb
  · subst hb
    have e := Lib.hid (mc_bad (show mcC sy st ms cst ls rs = 1 by simp [mcC, vcB, ← HM.out, ← HG.out]) (by decide))
    have HF3 := Lib.hid (put3 KC.out (.int .i64 0) (.slice none 0 0) (.slice none 0 0))
    obtain ⟨f1, f2, f3, f4, f5, f6, f7⟩ := HF3.out
    have HG3 := Lib.hid (put3g KC.out (.int .i64 0) (.slice none 0 0) (.slice none 0 0))
    go_wp2
    obtain ⟨W, hW⟩ : ∃ W, W = ((w2.setCell ⟨w.heap.size + 1 + 1, 0, none⟩ (.int .i64 0)).setCell ⟨w.heap.size + 1 + 1, 1, none⟩ (.slice none 0 0)).setCell ⟨w.heap.size + 1 + 1, 2, none⟩ (.slice none 0 0) := ⟨_, rfl⟩
    have hB : Below w.heap.size w W := by
      rw [hW]
      exact below_set (below_set (below_set HB2.out (by omega) _ _) (by omega) _ _) (by omega) _ _
    have hG := HG3.out
    rw [← hW] at f7 hG ⊢
    have z0 := f7.cell 0 rfl
    have z1 := f7.cell 1 rfl
    have z2 := f7.cell 2 rfl
    clear f1 f2 f3 f4 f5 f6 hW
    rw [e.out.1, e.out.2.1, e.out.2.2.1, e.out.2.2.2]
    refine bodyPost_ret (v := .tuple #[.agg #[.int .i64 0, .slice none 0 0, .slice none 0 0], .int .i64 1]) (by simp [results, Tryd.f30, go_sem, z0, z1, z2]) rfl ⟨_, _, rfl, Ow.emptyUp hB.size, Ow.emptyUp hB.size, ⟨.inl rfl, .inl rfl⟩, hB⟩
  subst hb
  have hvc : vcB sy st ms cst ls rs = true := by rw [vcB, ← HM.out, ← HG.out]; rfl
  have HC : Hid (mcC sy st ms cst ls rs = if (tr (rs.getD 0 0 :: ls)).length ≤ 200 then 0 else 5) := Lib.hid (by rw [mcC, if_pos hvc])
  have HSM := Lib.hid (vc_small hvc)
  clear hvc q0 q1 q2 q3
  obtain ⟨hd, hhd⟩ : ∃ x, x = rs.getD 0 0 := ⟨_, rfl⟩
  have HHD := Lib.hid hhd
  rw [← hhd] at HC HGD
  obtain ⟨r0, hr0⟩ : ∃ x, x = rs.drop 1 := ⟨_, rfl⟩
  have HR0 := Lib.hid hr0
  obtain ⟨t1, ht1⟩ : ∃ x, x = tr (hd :: ls) := ⟨_, rfl⟩
  have HT1 := Lib.hid ht1
  have HE1 : Hid (mcC sy st ms cst ls rs = 0 → mcC sy st ms cst ls rs = 0 ∧ mcS sy st ms cst ls rs = cst ∧ mcL sy st ms cst ls rs = r0 ∧ mcR sy st ms cst ls rs = t1) := Lib.hid (fun h => by rw [hr0, ht1, hhd]; exact mc_good h)
  rw [← ht1] at HC
  clear hhd hr0 ht1
  go_upto_region 3 with fail
  go_cut [6] (fun s6 wx => ∃ (b : Nat) (x0 x1 : Value), s6 = .pointer (some ⟨b, 0, none⟩) ∧ Below w2.heap.size w2 wx ∧ w2.heap.size ≤ b ∧ Cels wx b 35 [.int .i64 cst, x0, x1] ∧ Ow wx w2.heap.size wx.heap.size x0 r0 ∧ Ow wx w2.heap.size wx.heap.size x1 t1 ∧ Sep x0 x1)
  case first =>
    have HS : Hid (∀ W', Below w2.heap.size w2 W' → W'.cell? ⟨w.heap.size + 1, 0, none⟩ = some (.int .i64 cst) ∧ W'.cell? ⟨w.heap.size + 1, 1, none⟩ = some (.slice a1 ls.length c1) ∧ W'.cell? ⟨w.heap.size + 1, 2, none⟩ = some (.slice a2 rs.length c2)) := Lib.hid (fun W' hW' => ⟨(K2.out.below hW' K2.out.lt).cell 0 rfl, (K2.out.below hW' K2.out.lt).cell 1 rfl, (K2.out.below hW' K2.out.lt).cell 2 rfl⟩)
    have HD : Hid (Below w2.heap.size w2 w2.drew) := Lib.hid (Below.refl _ _).drew
    go_region_held3 (fun w' => w'.cell? ⟨w.heap.size + 1, 0, none⟩ = some (.int .i64 cst) ∧ w'.cell? ⟨w.heap.size + 1, 1, none⟩ = some (.slice a1 ls.length c1) ∧ w'.cell? ⟨w.heap.size + 1, 2, none⟩ = some (.slice a2 rs.length c2))
      (first | exact HS.out _ HD.out | exact HS.out _ (HD.out.alloc HD.out.size _) | exact HS.out _ (((Below.refl _ _).alloc (Nat.le_refl _) _).drew) | exact HS.out _ (below_set (below_set (below_set HD.out HZb.out _ _) HZb.out _ _) HZb.out _ _) | exact HS.out _ (below_set (below_set (below_set (HD.out.alloc HD.out.size _) HD.out.size _ _) HD.out.size _ _) HD.out.size _ _))
      (first
        | (go_at_call 61; with_reducible refine (specRest _ rs _ (by first | exact HU'.out.below (HB2.out.trans (HD.out.mono HB2.out.size)) (Nat.le_refl _) | exact HU'.out.below (HB2.out.trans ((HD.out.alloc HD.out.size _).mono HB2.out.size)) (Nat.le_refl _) | exact HU'.out.below (HB2.out.trans ((((Below.refl _ _).alloc (Nat.le_refl _) _).drew).mono HB2.out.size)) (Nat.le_refl _))).mono ?_; rintro e w3 ⟨x0, rfl, o0, bq⟩; rw [← HR0.out] at o0; (try (with_reducible have KZ := Lib.hid (cels_pre bq); have HZb := Lib.hid HD.out.size)); (try (with_reducible have KZ := Lib.hid (cels_preD bq); have HZb := Lib.hid (Nat.le_refl w2.heap.size))); (try with_reducible replace bq := below_pre bq); (try with_reducible replace bq := below_preD bq); have X0 := Lib.hid (o0.mono (by first | exact HD.out.size | exact (HD.out.alloc HD.out.size _).size | exact (((Below.refl _ _).alloc (Nat.le_refl _) _).drew).size : w2.heap.size ≤ _) (Nat.le_refl _) (Nat.le_refl _)); obtain ⟨g0, d0, h0⟩ := o0.shape; subst h0; clear o0; replace HD := Lib.hid (HD.out.trans (bq.mono HD.out.size)); clear bq)
        | (go_at_call 63; with_reducible refine (specHead (w.heap.size + 1) _ rs _ (by first | exact HU'.out.below (HB2.out.trans (HD.out.mono HB2.out.size)) (Nat.le_refl _) | exact HU'.out.below (HB2.out.trans ((HD.out.alloc HD.out.size _).mono HB2.out.size)) (Nat.le_refl _) | exact HU'.out.below (HB2.out.trans ((((Below.refl _ _).alloc (Nat.le_refl _) _).drew).mono HB2.out.size)) (Nat.le_refl _)) (by first | exact (HS.out _ HD.out).2.2 | exact (HS.out _ (HD.out.alloc HD.out.size _)).2.2 | exact (HS.out _ (((Below.refl _ _).alloc (Nat.le_refl _) _).drew)).2.2)).mono ?_; rintro e w3 ⟨rfl, bq⟩; rw [← HHD.out]; (try (with_reducible have KZ := Lib.hid (cels_pre bq); have HZb := Lib.hid HD.out.size)); (try (with_reducible have KZ := Lib.hid (cels_preD bq); have HZb := Lib.hid (Nat.le_refl w2.heap.size))); (try with_reducible replace bq := below_pre bq); (try with_reducible replace bq := below_preD bq); (try replace KZ := Lib.hid (KZ.out.below bq KZ.out.lt)); replace X0 := Lib.hid (X0.out.below bq X0.out.size); replace HD := Lib.hid (HD.out.trans (bq.mono HD.out.size)); clear bq)
        | (go_at_call 62; with_reducible refine (specPush (hd) _ ls _ (by first | exact HU.out.below (HB2.out.trans (HD.out.mono HB2.out.size)) (Nat.le_refl _) | exact HU.out.below (HB2.out.trans ((HD.out.alloc HD.out.size _).mono HB2.out.size)) (Nat.le_refl _) | exact HU.out.below (HB2.out.trans ((((Below.refl _ _).alloc (Nat.le_refl _) _).drew).mono HB2.out.size)) (Nat.le_refl _)) HGD.out HSM.out.1).mono ?_; rintro e w3 ⟨x1, rfl, o1, bq⟩; rw [← HT1.out] at o1; (try (with_reducible have KZ := Lib.hid (cels_pre bq); have HZb := Lib.hid HD.out.size)); (try (with_reducible have KZ := Lib.hid (cels_preD bq); have HZb := Lib.hid (Nat.le_refl w2.heap.size))); (try with_reducible replace bq := below_pre bq); (try with_reducible replace bq := below_preD bq); (try replace KZ := Lib.hid (KZ.out.below bq KZ.out.lt)); have SP := Lib.hid (sep_of X0.out.top o1.row.lt (by first | exact X0.out.size | exact Nat.le_trans X0.out.size (by simp))); have X1 := Lib.hid (o1.mono (by first | exact HD.out.size | exact (HD.out.alloc HD.out.size _).size | exact (((Below.refl _ _).alloc (Nat.le_refl _) _).drew).size : w2.heap.size ≤ _) (Nat.le_refl _) (Nat.le_refl _)); replace X0 := Lib.hid (X0.out.below bq X0.out.size); obtain ⟨g1, d1, h1⟩ := o1.shape; subst h1; clear o1; replace HD := Lib.hid (HD.out.trans (bq.mono HD.out.size)); clear bq; (try (have HF := Lib.hid (put3 KZ.out (.int .i64 cst) (.slice g0 r0.length d0) (.slice g1 t1.length d1)); obtain ⟨f1, f2, f3, f4, f5, f6, f7⟩ := HF.out; have HF7 := Lib.hid f7; clear f7))))
    all_goals (go_wp2_with fail; go_meet)
    all_goals first
      | exact ⟨_, _, _, rfl, below_set (below_set (below_set HD.out HZb.out _ _) HZb.out _ _) HZb.out _ _, HZb.out, HF7.out, (X0.out.grown (put3g KZ.out _ _ _) (Or.inr (X0.out.nblk KZ.out (by decide)))).up, (X1.out.grown (put3g KZ.out _ _ _) (Or.inr (X1.out.nblk KZ.out (by decide)))).up, SP.out⟩
      | exact ⟨_, _, _, rfl, HD.out.alloc HD.out.size _, HD.out.size, Cels.new _ _ _, (X0.out.below ((Below.refl _ _).alloc (Nat.le_refl _) _) X0.out.size).up, (X1.out.below ((Below.refl _ _).alloc (Nat.le_refl _) _) X1.out.size).up, SP.out⟩
  obtain ⟨b, x0, x1, rfl, bq, hbb, hK, o0, o1, hsp⟩ := hcut
  obtain ⟨w3, hw3⟩ : ∃ x, x = wc := ⟨_, rfl⟩
  subst hw3
  obtain ⟨n, hn⟩ : ∃ n, n = t1.length := ⟨_, rfl⟩
  obtain ⟨n0, hn0⟩ : ∃ n, n = r0.length := ⟨_, rfl⟩
  obtain ⟨g0, d0, h0⟩ := o0.shape
  obtain ⟨g1, d1, h1⟩ := o1.shape
  rw [← hn] at h1 HC
  rw [← hn0] at h0
  subst h0
  subst h1
  have HO0 := Lib.hid o0
  have HO1 := Lib.hid o1
  have HSEP := Lib.hid hsp
  have KO := Lib.hid hK
  have hsz2 := HB2.out.size
  replace KC := Lib.hid (KC.out.below bq KC.out.lt)
  have HB3 := Lib.hid (HB2.out.trans (bq.mono HB2.out.size))
  clear bq hbb hK o0 o1 hsp hn hn0
  have y0 := KO.out.cell 0 rfl
  have y1 := KO.out.cell 1 rfl
  have y2 := KO.out.cell 2 rfl
  by_cases hlen : (200 : Int) < (n : Int)
  · have e := Lib.hid (mc_bad (show mcC sy st ms cst ls rs = 5 by rw [HC.out, if_neg (by omega)]) (by decide))
    have HF3 := Lib.hid (put3 KC.out (.int .i64 0) (.slice none 0 0) (.slice none 0 0))
    obtain ⟨f1, f2, f3, f4, f5, f6, f7⟩ := HF3.out
    have HG3 := Lib.hid (put3g KC.out (.int .i64 0) (.slice none 0 0) (.slice none 0 0))
    go_wp2
    obtain ⟨W, hW⟩ : ∃ W, W = ((w3.setCell ⟨w.heap.size + 1 + 1, 0, none⟩ (.int .i64 0)).setCell ⟨w.heap.size + 1 + 1, 1, none⟩ (.slice none 0 0)).setCell ⟨w.heap.size + 1 + 1, 2, none⟩ (.slice none 0 0) := ⟨_, rfl⟩
    have hB : Below w.heap.size w W := by
      rw [hW]
      exact below_set (below_set (below_set HB3.out (by omega) _ _) (by omega) _ _) (by omega) _ _
    have hG := HG3.out
    rw [← hW] at f7 hG ⊢
    have z0 := f7.cell 0 rfl
    have z1 := f7.cell 1 rfl
    have z2 := f7.cell 2 rfl
    clear f1 f2 f3 f4 f5 f6 hW
    rw [e.out.1, e.out.2.1, e.out.2.2.1, e.out.2.2.2]
    refine bodyPost_ret (v := .tuple #[.agg #[.int .i64 0, .slice none 0 0, .slice none 0 0], .int .i64 5]) (by simp [results, Tryd.f30, go_sem, z0, z1, z2]) rfl ⟨_, _, rfl, Ow.emptyUp hB.size, Ow.emptyUp hB.size, ⟨.inl rfl, .inl rfl⟩, hB⟩
  · have e := Lib.hid (HE1.out (show mcC sy st ms cst ls rs = 0 by rw [HC.out, if_pos (by omega)]))
    have HF3 := Lib.hid (put3 KC.out (.int .i64 cst) (.slice g0 n0 d0) (.slice g1 n d1))
    obtain ⟨f1, f2, f3, f4, f5, f6, f7⟩ := HF3.out
    have HG3 := Lib.hid (put3g KC.out (.int .i64 cst) (.slice g0 n0 d0) (.slice g1 n d1))
    go_wp2
    obtain ⟨W, hW⟩ : ∃ W, W = ((w3.setCell ⟨w.heap.size + 1 + 1, 0, none⟩ (.int .i64 cst)).setCell ⟨w.heap.size + 1 + 1, 1, none⟩ (.slice g0 n0 d0)).setCell ⟨w.heap.size + 1 + 1, 2, none⟩ (.slice g1 n d1) := ⟨_, rfl⟩
    have hB : Below w.heap.size w W := by
      rw [hW]
      exact below_set (below_set (below_set HB3.out (by omega) _ _) (by omega) _ _) (by omega) _ _
    have hG := HG3.out
    rw [← hW] at f7 hG ⊢
    have z0 := f7.cell 0 rfl
    have z1 := f7.cell 1 rfl
    have z2 := f7.cell 2 rfl
    clear f1 f2 f3 f4 f5 f6 hW
    rw [e.out.1, e.out.2.1, e.out.2.2.1, e.out.2.2.2]
    refine bodyPost_ret (v := .tuple #[.agg #[.int .i64 cst, .slice g0 n0 d0, .slice g1 n d1], .int .i64 0]) (by simp [results, Tryd.f30, go_sem, z0, z1, z2]) rfl ⟨_, _, rfl, ((HO0.out.grown hG (Or.inr (HO0.out.nblk KC.out (by decide)))).up.mono hsz2 (Nat.le_refl _) (Nat.le_refl _)), ((HO1.out.grown hG (Or.inr (HO1.out.nblk KC.out (by decide)))).up.mono hsz2 (Nat.le_refl _) (Nat.le_refl _)), HSEP.out, hB⟩
end Go.Proofs.YtmgogbcipdjddaaDoor.Ints
