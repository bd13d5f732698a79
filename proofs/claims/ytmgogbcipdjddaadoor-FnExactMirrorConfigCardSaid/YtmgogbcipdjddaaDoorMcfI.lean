/- The contract of the program's MirrorConfig. -/
import Derived.Test.YtmgogbcipdjddaaDoorMcf
namespace Go.Proofs.YtmgogbcipdjddaaDoor.Ints
open Go.RowKit
set_option linter.unusedVariables false
set_option linter.unusedSimpArgs false
set_option maxHeartbeats 8000000 in
set_option maxRecDepth 100000 in
theorem implMirrorConfig (sy st : Int) (v : Value) (ms : List Ru) (cst : Int) (u : Value) (ls : List Int) (u' : Value) (rs : List Int) (w : World) (hv : RdR w v ms) (hu : Rd w u ls) (hu' : Rd w u' rs) (hnr : NoR w) :
    Calls Tryd.prog 31 #[.agg #[.int .i64 sy, .int .i64 st, v], .agg #[.int .i64 cst, u, u']] w fun e w' => ∃ x0 x1, e = .returned (.tuple #[.agg #[.int .i64 (mcS sy st ms cst ls rs), x0, x1], .int .i64 (mcC sy st ms cst ls rs)]) ∧ Ow w' w.heap.size w'.heap.size x0 (mcL sy st ms cst ls rs) ∧ Ow w' w.heap.size w'.heap.size x1 (mcR sy st ms cst ls rs) ∧ Sep x0 x1 ∧ Below w.heap.size w w' := by
  have HV := Lib.hid hv
  have HU := Lib.hid hu
  have HU' := Lib.hid hu'
  have hgd := hu'.fit.at 0
  have HGD := Lib.hid hgd
  clear hgd
  obtain ⟨_, _, a, c, rfl, _, _⟩ := hv
  obtain ⟨_, _, a1, c1, rfl, _, _⟩ := hu
  obtain ⟨_, _, a2, c2, rfl, _, _⟩ := hu'
  obtain ⟨W0, hW0⟩ : ∃ W, W = ((w.alloc (Obj.cells #[.int .i64 sy, .int .i64 st, .slice a ms.length c] 33)).alloc (Obj.cells #[.int .i64 cst, .slice a1 ls.length c1, .slice a2 rs.length c2] 35)).alloc (Obj.cells #[.int .i64 0, .slice none 0 0, .slice none 0 0] 35) := ⟨_, rfl⟩
  have HB : Hid (Below w.heap.size w W0) := Lib.hid (by rw [hW0]; exact (((Below.refl w.heap.size w).alloc (Nat.le_refl _) _).alloc (by simp) _).alloc (by simp; omega) _)
  have K1 : Hid (Cels W0 w.heap.size 33 [.int .i64 sy, .int .i64 st, .slice a ms.length c]) := Lib.hid (by rw [hW0]; exact ((Cels.new _ _ _).alloc _).alloc _)
  have K2 : Hid (Cels W0 (w.heap.size + 1) 35 [.int .i64 cst, .slice a1 ls.length c1, .slice a2 rs.length c2]) := Lib.hid (by rw [hW0]; have h := (Cels.new (w.alloc (Obj.cells #[.int .i64 sy, .int .i64 st, .slice a ms.length c] 33)) 35 [.int .i64 cst, .slice a1 ls.length c1, .slice a2 rs.length c2]).alloc (Obj.cells #[.int .i64 0, .slice none 0 0, .slice none 0 0] 35); simp only [World.size_alloc] at h; exact h)
  have KC : Hid (Cels W0 (w.heap.size + 1 + 1) 35 [.int .i64 0, .slice none 0 0, .slice none 0 0]) := Lib.hid (by rw [hW0]; have h := Cels.new ((w.alloc (Obj.cells #[.int .i64 sy, .int .i64 st, .slice a ms.length c] 33)).alloc (Obj.cells #[.int .i64 cst, .slice a1 ls.length c1, .slice a2 rs.length c2] 35)) 35 [.int .i64 0, .slice none 0 0, .slice none 0 0]; simp only [World.size_alloc] at h; exact h)
  have HW0 := Lib.hid hW0.symm
  clear hW0
  have HNR := Lib.hid (hnr.below HB.out (Nat.le_refl _))
  obtain ⟨bm, hbm⟩ : ∃ b, b = vcB sy st ms cst ls rs := ⟨_, rfl⟩
  have HM := Lib.hid hbm
  clear hbm hnr
  go_enter Tryd.func31, Tryd.ntmps31
  go_wp2_with fail
  rw [HW0.out]
  refine (implValidConfig sy st _ ms cst _ ls _ rs _ (HV.out.below HB.out (Nat.le_refl _)) (HU.out.below HB.out (Nat.le_refl _)) (HU'.out.below HB.out (Nat.le_refl _)) HNR.out).mono ?_
  rintro e w1 ⟨rfl, hb1⟩
  rw [← HM.out]
  replace K2 := Lib.hid (K2.out.below hb1 K2.out.lt)
  replace KC := Lib.hid (KC.out.below hb1 KC.out.lt)
  have HB1 := Lib.hid (HB.out.trans (hb1.mono HB.out.size))
  clear hb1 K1
  rcases eqOr bm with hb | hb
  · subst hb
    have e := Lib.hid (mc_bad (show mcC sy st ms cst ls rs = 1 by simp [mcC, ← HM.out]) (by decide))
    have HF3 := Lib.hid (put3 KC.out (.int .i64 0) (.slice none 0 0) (.slice none 0 0))
    obtain ⟨f1, f2, f3, f4, f5, f6, f7⟩ := HF3.out
    have HG3 := Lib.hid (put3g KC.out (.int .i64 0) (.slice none 0 0) (.slice none 0 0))
    go_wp2
    obtain ⟨W, hW⟩ : ∃ W, W = ((w1.setCell ⟨w.heap.size + 1 + 1, 0, none⟩ (.int .i64 0)).setCell ⟨w.heap.size + 1 + 1, 1, none⟩ (.slice none 0 0)).setCell ⟨w.heap.size + 1 + 1, 2, none⟩ (.slice none 0 0) := ⟨_, rfl⟩
    have hB : Below w.heap.size w W := by
      rw [hW]
      exact below_set (below_set (below_set HB1.out (by omega) _ _) (by omega) _ _) (by omega) _ _
    have hG := HG3.out
    rw [← hW] at f7 hG ⊢
    have z0 := f7.cell 0 rfl
    have z1 := f7.cell 1 rfl
    have z2 := f7.cell 2 rfl
    clear f1 f2 f3 f4 f5 f6 hW
    rw [e.out.1, e.out.2.1, e.out.2.2.1, e.out.2.2.2]
    refine bodyPost_ret (v := .tuple #[.agg #[.int .i64 0, .slice none 0 0, .slice none 0 0], .int .i64 1]) (by simp [results, Tryd.f31, go_sem, z0, z1, z2]) rfl ⟨_, _, rfl, Ow.emptyUp hB.size, Ow.emptyUp hB.size, ⟨.inl rfl, .inl rfl⟩, hB⟩
  subst hb
  have HC : Hid (mcC sy st ms cst ls rs = if (tr (rs.getD 0 0 :: ls)).length ≤ 200 then 0 else 5) := Lib.hid (by rw [mcC, if_pos HM.out.symm])
  have HSM := Lib.hid (vc_small HM.out.symm)
  have q1 : Below w1.heap.size w1 (w1.alloc (.cells #[.int .i64 0] 2)) := (Below.refl _ _).alloc (Nat.le_refl _) _
  have Q1 := Lib.hid q1
  have HR0 : Hid (Rd (w1.alloc (.cells #[.int .i64 0] 2)) (.slice (some ⟨w1.heap.size, 0, none⟩) 1 1) [0]) := Lib.hid (by
    have hown : (w1.alloc (.cells #[.int .i64 0] 2)).ownsRow w1.heap.size 2 1 (.slice (some ⟨w1.heap.size, 0, none⟩) 1 1) ([0] : List Int).length (([0] : List Int).map (Value.int .i64)) :=
      ⟨by simp, .inr ⟨w1.heap.size, 1, _, rfl, Nat.le_refl _, heap_alloc_new w1 _, Nat.le_refl _, by unfold maxLen; omega, by simp, by simp⟩⟩
    exact Ow.rd (B := w1.heap.size) (T := (w1.alloc (.cells #[.int .i64 0] 2)).heap.size) ⟨by simp, fun z hz => by simp at hz; subst hz; omega, hown, fun k hk => (hown.lt k hk).2, Nat.le_refl _, by simp⟩)
  replace K2 := Lib.hid (K2.out.below q1 K2.out.lt)
  replace KC := Lib.hid (KC.out.below q1 KC.out.lt)
  replace HB1 := Lib.hid (HB1.out.trans (q1.mono HB1.out.size))
  have z2 := K2.out.cell 2 rfl
  clear q1
  obtain ⟨n7, hn7⟩ : ∃ n, n = (rs.drop 1).length := ⟨_, rfl⟩
  have HN7 := Lib.hid hn7
  clear hn7
  go_upto_if 18 with fail
  go_cut [6, 7] (fun s6 s7 wx => Below (w1.alloc (.cells #[.int .i64 0] 2)).heap.size (w1.alloc (.cells #[.int .i64 0] 2)) wx ∧ ∃ a6 c6 a7 c7, s6 = .slice a6 1 c6 ∧ s7 = .slice a7 n7 c7 ∧ Rd wx (.slice a6 1 c6) [rs.getD 0 0] ∧ Rd wx (.slice a7 n7 c7) (rs.drop 1))
  case first =>
    have HRR : Hid (Rd (w1.alloc (.cells #[.int .i64 0] 2)) (.slice a2 rs.length c2) rs) := Lib.hid (HU'.out.below HB1.out (Nat.le_refl _))
    have HRR2 := HRR.out
    obtain ⟨_, _, a', c', hva, hcap, hr⟩ := HRR2
    simp only [Value.slice.injEq] at hva
    obtain ⟨rfl, _, rfl⟩ := hva
    cases rs with
    | nil =>
      clear hr hcap
      go_wp2
      go_meet
      exact ⟨Below.refl _ _, _, _, _, _, rfl, by rw [HN7.out] <;> rfl, HR0.out, by rw [HN7.out]; exact ⟨by simp, Fit.nil, none, 0, rfl, by simp, fun h => absurd rfl h⟩⟩
    | cons x xs =>
      obtain ⟨n, hn⟩ : ∃ n, (x :: xs).length = n + 1 := ⟨xs.length, rfl⟩
      obtain ⟨k, rfl⟩ : ∃ k, c2 = k + 1 := ⟨c2 - 1, by rw [hn] at hcap; omega⟩
      obtain ⟨b, o, rfl, hb, hcell⟩ := hr (by simp)
      have hnk : n ≤ k := by rw [hn] at hcap; omega
      have i0 : (0 : Int) < ((n + 1 : Nat) : Int) := by omega
      have i1 : (0 : Int) < (n : Int) + 1 := by omega
      have i3 : 1 ≤ n + 1 := by omega
      have i4 : n + 1 ≤ k + 1 := by omega
      have i5 : 1 ≤ k + 1 := by omega
      have hq : xs.length = n := by simpa using hn
      have j0 : 0 < (x :: xs).length := by simp
      have HT1 : Hid (∀ a', (k ≠ 0 → a' = some ⟨b, o + 1, none⟩) → Rd (w1.alloc (.cells #[.int .i64 0] 2)) (.slice a' n k) xs) := Lib.hid (fun a' ha => by
        rw [← hq]
        exact HRR.out.tail rfl ha)
      have HT2 : Hid (Rd (w1.alloc (.cells #[.int .i64 0] 2)) (.slice (some ⟨b, o, none⟩) 1 (k + 1)) [x]) := Lib.hid (by have := HRR.out.take 1 (by simp); simpa using this)
      have HNN : Hid (n7 = n) := Lib.hid (by rw [HN7.out]; simpa using hn)
      rw [hn] at z2
      clear hcell hr hcap hn hb hq
      rcases Nat.eq_zero_or_pos k with hk | hk
      · subst hk
        obtain rfl : n = 0 := by omega
        go_wp2
        go_quiet (fail)
        go_wp2
        go_meet
        exact ⟨below_drewN (Below.refl _ _) _, _, _, _, _, rfl, by rw [HNN.out] <;> rfl, (HT2.out.below (below_drewN (Below.refl _ _) _) (Nat.le_refl _)), by rw [HNN.out]; exact (HT1.out _ (fun h => absurd rfl h)).below (below_drewN (Below.refl _ _) _) (Nat.le_refl _)⟩
      · have hk0 : ¬ k = 0 := by omega
        go_wp2
        go_quiet (fail)
        go_wp2
        go_meet
        exact ⟨below_drewN (Below.refl _ _) _, _, _, _, _, rfl, by rw [HNN.out] <;> rfl, (HT2.out.below (below_drewN (Below.refl _ _) _) (Nat.le_refl _)), by rw [HNN.out]; exact (HT1.out _ (fun _ => rfl)).below (below_drewN (Below.refl _ _) _) (Nat.le_refl _)⟩
  obtain ⟨bq, a6, c6, a7, c7, rfl, rfl, hr6, hr7⟩ := hcut
  obtain ⟨w2, hw2⟩ : ∃ x, x = wc := ⟨_, rfl⟩
  subst hw2
  obtain ⟨hd, hhd⟩ : ∃ x, x = rs.getD 0 0 := ⟨_, rfl⟩
  obtain ⟨r0, hr0⟩ : ∃ x, x = rs.drop 1 := ⟨_, rfl⟩
  obtain ⟨t1, ht1⟩ : ∃ x, x = tr (hd :: ls) := ⟨_, rfl⟩
  have HT1 := Lib.hid ht1
  have HE1 : Hid (mcC sy st ms cst ls rs = 0 → mcC sy st ms cst ls rs = 0 ∧ mcS sy st ms cst ls rs = cst ∧ mcL sy st ms cst ls rs = r0 ∧ mcR sy st ms cst ls rs = t1) := Lib.hid (fun h => by rw [hr0, ht1, hhd]; exact mc_good h)
  rw [← hhd] at HC hr6
  rw [← ht1] at HC
  rw [← hr0] at hr7
  have hn7 : n7 = r0.length := by rw [HN7.out, hr0]
  clear hhd hr0 ht1
  have HR6 := Lib.hid hr6
  have HR7 := Lib.hid hr7
  replace K2 := Lib.hid (K2.out.below bq K2.out.lt)
  replace KC := Lib.hid (KC.out.below bq KC.out.lt)
  have HB2 := Lib.hid (HB1.out.trans (bq.mono HB1.out.size))
  have HQ := Lib.hid (rdl_two HR6.out (HU.out.below HB2.out (Nat.le_refl _)))
  have q3 : Below w2.heap.size w2 (w2.alloc (.cells #[.slice a6 1 c6, .slice a1 ls.length c1] 25)) := (Below.refl _ _).alloc (Nat.le_refl _) _
  have y1 := K2.out.cell 1 rfl
  have HN8 := Lib.hid hn7
  clear bq hr6 hr7 z2 HR0 Q1 hn7
  go_wp2_with fail
  refine (libConcat _ [[hd], ls] _ HQ.out (by have := HSM.out; simp; omega)).mono ?_
  rintro e w3 ⟨r3, rfl, ho, hb3⟩
  have hfl : [[hd], ls].flatten = hd :: ls := by simp
  rw [hfl] at ho
  have HO3 := Lib.hid (ho.mono (B' := w2.heap.size) (by simp) (Nat.le_refl _) (Nat.le_refl _))
  have bq3 : Below w2.heap.size w2 w3 := q3.trans (hb3.mono (by simp))
  replace K2 := Lib.hid (K2.out.below bq3 K2.out.lt)
  replace KC := Lib.hid (KC.out.below bq3 KC.out.lt)
  replace HR7 := Lib.hid (HR7.out.below bq3 (Nat.le_refl _))
  have HB3 := Lib.hid (HB2.out.trans (bq3.mono HB2.out.size))
  have HSA := Lib.hid HB2.out.size
  clear ho hb3 q3 bq3 hfl HQ y1
  go_wp2_with fail
  refine (implTrO _ (hd :: ls) _ _ _ HO3.out).mono ?_
  rintro e w3' ⟨u3, rfl, ho, hw⟩
  obtain rfl := hw
  rw [← HT1.out] at ho
  obtain ⟨n, hn⟩ : ∃ n, n = t1.length := ⟨_, rfl⟩
  obtain ⟨a8, c8, h8⟩ := ho.shape
  rw [← hn] at h8 HC
  subst h8
  have HO4 := Lib.hid ho
  clear ho hn HO3
  by_cases hlen : (200 : Int) < (n : Int)
  · have e := Lib.hid (mc_bad (show mcC sy st ms cst ls rs = 5 by rw [HC.out, if_neg (by omega)]) (by decide))
    have HF3 := Lib.hid (put3 KC.out (.int .i64 0) (.slice none 0 0) (.slice none 0 0))
    obtain ⟨f1, f2, f3, f4, f5, f6, f7⟩ := HF3.out
    have HG3 := Lib.hid (put3g KC.out (.int .i64 0) (.slice none 0 0) (.slice none 0 0))
    go_wp2
    obtain ⟨W, hW⟩ : ∃ W, W = ((w3.setCell ⟨w.heap.size + 1 + 1, 0, none⟩ (.int .i64 0)).setCell ⟨w.heap.size + 1 + 1, 1, none⟩ (.slice none 0 0)).setCell ⟨w.heap.size + 1 + 1, 2, none⟩ (.slice none 0 0) := ⟨_, rfl⟩
    have hB : Below w.heap.size w W := by
      rw [hW]
      exact below_set (below_set (below_set HB3.out (by omega) _ _) (by omega) _ _) (by omega) _ _
    have hG := HG3.out
    rw [← hW] at f7 hG ⊢
    have z0 := f7.cell 0 rfl
    have z1 := f7.cell 1 rfl
    have z2 := f7.cell 2 rfl
    clear f1 f2 f3 f4 f5 f6 hW
    rw [e.out.1, e.out.2.1, e.out.2.2.1, e.out.2.2.2]
    refine bodyPost_ret (v := .tuple #[.agg #[.int .i64 0, .slice none 0 0, .slice none 0 0], .int .i64 5]) (by simp [results, Tryd.f31, go_sem, z0, z1, z2]) rfl ⟨_, _, rfl, Ow.emptyUp hB.size, Ow.emptyUp hB.size, ⟨.inl rfl, .inl rfl⟩, hB⟩
  have e := Lib.hid (HE1.out (show mcC sy st ms cst ls rs = 0 by rw [HC.out, if_pos (by omega)]))
  have HS : Hid (∀ W', Below w3.heap.size w3 W' → W'.cell? ⟨w.heap.size + 1, 0, none⟩ = some (.int .i64 cst)) := Lib.hid (fun W' hW' => (K2.out.below hW' K2.out.lt).cell 0 rfl)
  have HD : Hid (Below w3.heap.size w3 w3.drew) := Lib.hid (Below.refl _ _).drew
  have HNE : Hid (some (w.heap.size + 1 + 1) ≠ some (w.heap.size + 1)) := Lib.hid (fun h => by have := Option.some.inj h; omega)
  go_wp2_with fail
  go_region_held3 (fun w' => w'.cell? ⟨w.heap.size + 1, 0, none⟩ = some (.int .i64 cst))
    (first | exact HS.out _ HD.out | exact KF.out.cell 0 rfl)
    (first | (go_at_call 60; with_reducible refine (libClone _ (r0) _ (HR7.out.below HD.out (Nat.le_refl _))).mono ?_; rintro e4 w4 ⟨r4, rfl, ho, hb4⟩; have HO5 := Lib.hid (ho.mono HD.out.size (Nat.le_refl _) (Nat.le_refl _) : Ow w4 w3.heap.size _ _ _); have HSEP := Lib.hid (sep_of HO4.out.top ho.row.lt (Nat.le_trans HO4.out.size HD.out.size)); obtain ⟨a9, c9, h9⟩ := ho.shape; rw [← HN8.out] at h9; subst h9; replace HD := Lib.hid (HD.out.trans (hb4.mono HD.out.size)); have KC4 := Lib.hid (KC.out.below HD.out KC.out.lt); have K24 := Lib.hid (K2.out.below HD.out K2.out.lt); have HF3 := Lib.hid (put3 KC4.out (.int .i64 cst) (.slice a9 n7 c9) (.slice a8 n c8)); obtain ⟨f1, f2, f3, f4, f5, f6, f7⟩ := HF3.out; have KF := Lib.hid (K24.out.grown (put3g KC4.out (.int .i64 cst) (.slice a9 n7 c9) (.slice a8 n c8)) HNE.out); clear ho hb4))
  have HB4 := Lib.hid (HB3.out.trans (HD.out.mono HB3.out.size))
  have hG := put3g KC4.out (.int .i64 cst) (.slice a9 n7 c9) (.slice a8 n c8)
  have HSA3 := Lib.hid HB3.out.size
  have HO4' := Lib.hid (HO4.out.below HD.out HO4.out.size)
  obtain ⟨W, hW⟩ : ∃ W, W = ((w4.setCell ⟨w.heap.size + 1 + 1, 0, none⟩ (.int .i64 cst)).setCell ⟨w.heap.size + 1 + 1, 1, none⟩ (.slice a9 n7 c9)).setCell ⟨w.heap.size + 1 + 1, 2, none⟩ (.slice a8 n c8) := ⟨_, rfl⟩
  have hB : Below w.heap.size w W := by
    rw [hW]
    exact below_set (below_set (below_set HB4.out (by omega) _ _) (by omega) _ _) (by omega) _ _
  rw [← hW] at f7 hG ⊢
  have z0 := f7.cell 0 rfl
  have z1 := f7.cell 1 rfl
  have z2 := f7.cell 2 rfl
  clear f1 f2 f3 f4 f5 f6 hW
  go_wp2
  rw [e.out.1, e.out.2.1, e.out.2.2.1, e.out.2.2.2]
  refine bodyPost_ret (v := .tuple #[.agg #[.int .i64 cst, .slice a9 n7 c9, .slice a8 n c8], .int .i64 0]) (by simp [results, Tryd.f31, go_sem, z0, z1, z2]) rfl ⟨_, _, rfl, ((HO5.out.grown hG (Or.inr (HO5.out.nblk KC4.out (by decide)))).up.mono HSA3.out (Nat.le_refl _) (Nat.le_refl _)), ((HO4'.out.grown hG (Or.inr (HO4'.out.nblk KC4.out (by decide)))).up.mono HSA.out (Nat.le_refl _) (Nat.le_refl _)), HSEP.out.symm, hB⟩
end Go.Proofs.YtmgogbcipdjddaaDoor.Ints
