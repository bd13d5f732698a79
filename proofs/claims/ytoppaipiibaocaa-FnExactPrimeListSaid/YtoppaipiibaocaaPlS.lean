/- Lists in products of powers of primes, of the model. -/
import Derived.Test.YtoppaipiibaocaaPlV
import Derived.Maps.AppendAt
namespace Go.Proofs.Ytoppaipiibaocaa.Ints
open Go.RowKit
open Math (prA prA_in specPrimeAt)
set_option linter.unusedVariables false
set_option linter.unusedSimpArgs false
set_option maxRecDepth 100000 in
set_option maxHeartbeats 8000000 in
theorem specPl (v : Value) (n : List Int) (w : World) (h : Rd w v n) :
    Calls Try.prog 19 #[v] w fun e w' => ∃ r, e = .returned (.tuple #[r, .int .i64 (plC n)]) ∧ Ow w' w.heap.size w'.heap.size r (plV n) ∧ Below w.heap.size w w' := by
  obtain ⟨i0, hi, hz0, hz1, hz2⟩ := info_parts infoE
  have HV := Lib.hid h
  obtain ⟨hl, hf, a, c, rfl, hcap, hr⟩ := h
  clear hr
  rcases eqOr (natB n) with hx | hx
  · have HX := Lib.hid hx
    have HF := Lib.hid (pl_bad hx)
    clear hx
    go_enter Try.func19, Try.ntmps19
    go_wp2_with fail
    refine (specNat _ n _ HV.out).mono ?_
    rintro e w1 ⟨rfl, rfl⟩
    rw [HX.out]
    have HB : Hid (Below w.heap.size w w) := Lib.hid (Below.refl _ _)
    go_wp2
    go_ret2
    exact ⟨_, by rw [HF.out.2] <;> rfl, by rw [HF.out.1]; exact Ow.emptyUp HB.out.size, HB.out⟩
  have HX := Lib.hid hx
  clear hx
  by_cases h0 : 0 < n.length
  rotate_left
  · have HF := Lib.hid (pl_none HX.out (fun q => h0 q.1))
    have d0 : ((n.length : Int) == 0) = true := by rw [beq_iff_eq]; omega
    have d1 : (n.length : Int) = 0 := by omega
    go_enter Try.func19, Try.ntmps19
    go_wp2_with fail
    refine (specNat _ n _ HV.out).mono ?_
    rintro e w1 ⟨rfl, rfl⟩
    rw [HX.out]
    have HB : Hid (Below w.heap.size w w) := Lib.hid (Below.refl _ _)
    go_wp2
    go_ret2
    exact ⟨_, by rw [HF.out.2] <;> rfl, by rw [HF.out.1]; exact Ow.emptyUp HB.out.size, HB.out⟩
  have d0 : ((n.length : Int) == 0) = false := by rw [beq_eq_false_iff_ne]; omega
  have d1 : ¬ (n.length : Int) = 0 := by omega
  have H0 := Lib.hid h0
  clear h0
  go_enter Try.func19, Try.ntmps19
  go_wp2_with fail
  refine (specNat _ n _ HV.out).mono ?_
  rintro e w1 ⟨rfl, rfl⟩
  rw [HX.out]
  have HB : Hid (Below w.heap.size w w) := Lib.hid (Below.refl _ _)
  go_wp2
  go_loopw [4, 5, 6] (fun o nn x wr => ∃ (k : Nat) (done xs : List Int) (nv ov : Value), nn = nv ∧ o = ov ∧ x = .int .i64 k ∧ PlS n k done xs ∧ Rd wr nv xs ∧ Ow wr w.heap.size wr.heap.size ov done ∧ Apt nv ov xs ∧ Below w.heap.size w wr) (fun _ _ x _ => 24 - (intOf x).toNat)
  case atStart => exact ⟨0, [], n, _, _, rfl, rfl, rfl, PlS.start HX.out H0.out, HV.out.below ((Below.refl _ _).alloc (Nat.le_refl _) _) (Nat.le_refl _), Ow.made w, fun h0 a l c e h => (by
    have h1 := HV.out.below_top h0 a l c e
    simp [Value.ownBlock] at h
    omega), (Below.refl _ _).alloc (Nat.le_refl _) _⟩
  case round =>
    obtain ⟨k, done, xs, nv, ov, hnv, hov, rfl, hS, hrd, ho, hap, hb⟩ := hrel
    obtain rfl := hnv.symm
    obtain rfl := hov.symm
    have HS := Lib.hid hS
    have HR := Lib.hid hrd
    have HO := Lib.hid ho
    have HA := Lib.hid hap
    have HB3 := Lib.hid hb
    have hk := hS.le
    clear hS hrd ho hap hb
    by_cases hlt : k < 24
    · obtain ⟨p, hp⟩ : ∃ p, p = (prA k : Int) := ⟨_, rfl⟩
      have hp2 := prA_two2 (k := k) hlt
      rw [← hp] at hp2
      obtain ⟨p0, p1⟩ := hp2
      have HP := Lib.hid hp
      have HLt := Lib.hid hlt
      have i1 : (k : Int) < 24 := by omega
      clear hp
      go_wp2_with fail
      refine (specPrimeAt k _ hlt).mono ?_
      rintro e w4 ⟨rfl, rfl⟩
      rw [← HP.out]
      go_wp2_with fail
      refine (specVlLoop nv xs p _ HR.out (natB_can HS.out.nat) HS.out.pos p0 (by omega)).mono ?_
      rintro e w5 ⟨rfl, hb5⟩
      have HB5 := Lib.hid (HB3.out.trans (hb5.mono HB3.out.size))
      have HO5 := Lib.hid ((HO.out.below hb5 (Nat.le_refl _)).up)
      have HR5 := Lib.hid (HR.out.below hb5 (Nat.le_refl _))
      obtain ⟨T, hT⟩ : ∃ T, T = vlN xs p := ⟨_, rfl⟩
      have HT := Lib.hid hT
      have hT8 : T < 800 := by rw [hT]; exact vl_small (natB_can HS.out.nat).1 (natB_can HS.out.nat).2 HS.out.pos _ p p0
      rw [← hT]
      clear hb5 hT
      by_cases hz : T = 0
      · have hq1 : ((T : Int) == 0) = true := by simp [hz]
        have hq2 : (T : Int) = 0 := by omega
        have HE := Lib.hid (HS.out.stop HLt.out (by rw [← HP.out, ← HT.out]; exact hz))
        obtain ⟨aN, cN, rfl⟩ : ∃ a c, nv = .slice a xs.length c := by obtain ⟨_, _, a, c, e, _⟩ := HR5.out; exact ⟨a, c, e⟩
        by_cases hl1 : xs.length = 1
        rotate_left
        · have HF := Lib.hid (pl_none HX.out (fun q => hl1 (by have := q.2; rw [HE.out.2] at this; rw [this]; rfl)))
          have b1 : ((xs.length : Int) != 1) = true := by simp; omega
          have b2 : ¬ (xs.length : Int) = 1 := by omega
          clear hl1
          go_wp2
          go_ret2
          exact ⟨_, by rw [HF.out.2] <;> rfl, by rw [HF.out.1]; exact Ow.emptyUp HB5.out.size, HB5.out⟩
        obtain ⟨y, rfl⟩ : ∃ y, xs = [y] := by
          cases xs with
          | nil => simp at hl1
          | cons y t => cases t with
            | nil => exact ⟨y, rfl⟩
            | cons z t => simp at hl1
        obtain ⟨bb, o, rfl, hbb, hcell⟩ : ∃ b o, aN = some ⟨b, o, none⟩ ∧ b < _ ∧ ∀ i, i < [y].length → _ = some (Value.int .i64 ([y].getD i 0)) := by
          obtain ⟨_, _, a, c, e, _, hr⟩ := HR5.out
          simp only [Value.slice.injEq] at e
          obtain ⟨b, o, ha, hb, hc⟩ := hr (by simp)
          exact ⟨b, o, by rw [e.1, ha], hb, hc⟩
        have hc0 := hcell 0 (by simp)
        simp only [List.getD_cons_zero, Nat.add_zero] at hc0
        clear hcell hl1
        by_cases hy : y = 1
        · have HF := Lib.hid (pl_good HX.out H0.out (by rw [HE.out.2, hy]))
          have b1 : (y != 1) = false := by simp [hy]
          clear hy
          go_wp2
          go_ret2
          exact ⟨_, by rw [HF.out.2] <;> rfl, by rw [HF.out.1, HE.out.1]; exact HO5.out, HB5.out⟩
        · have HF := Lib.hid (pl_none HX.out (fun q => hy (by have := q.2; rw [HE.out.2] at this; simpa using this)))
          have b1 : (y != 1) = true := by simp [hy]
          clear hy
          go_wp2
          go_ret2
          exact ⟨_, by rw [HF.out.2] <;> rfl, by rw [HF.out.1]; exact Ow.emptyUp HB5.out.size, HB5.out⟩
      · have hq1 : ((T : Int) == 0) = false := by rw [beq_eq_false_iff_ne]; omega
        have HN : Hid (PlS n (k + 1) (done ++ [(T : Int) - 1]) (canOf (rsN xs p))) := Lib.hid (by
          have := HS.out.step HLt.out (by rw [← HP.out, ← HT.out]; exact hz)
          rw [← HP.out, ← HT.out] at this; exact this)
        have HPos := Lib.hid (val_pos (natB_can HS.out.nat).1 HS.out.pos)
        obtain ⟨S, hS2⟩ : ∃ S, S = rsN xs p := ⟨_, rfl⟩
        have HSS : Hid (rsF (val xs).toNat (val xs) p = S) := Lib.hid hS2.symm
        have HTT : Hid (vlF (val xs).toNat (val xs) p = T) := Lib.hid HT.out.symm
        have HS2 := Lib.hid hS2
        have HC0 := Lib.hid (natB_can HS.out.nat)
        have hlen : done.length = k := HS.out.len
        obtain ⟨x, hx⟩ : ∃ x, x = (T : Int) - 1 := ⟨_, rfl⟩
        have hx2 : (T : Int) - 1 = x := hx.symm
        have x0 : 0 ≤ x := by omega
        have x1 : x ≤ 800 := by omega
        rw [hx2] at HN
        rw [← hS2] at HN
        clear hz hx hS2
        go_wp2
        go_loopw [5, 9] (fun nn y wr => ∃ (i f : Nat) (ys : List Int) (nv2 : Value), nn = nv2 ∧ y = .int .i64 i ∧ Rd wr nv2 ys ∧ (0 < i → nv2.ownBlock = none ∨ nv2.ownBlock ≠ ov.ownBlock) ∧ (i = 0 → nv2 = nv ∧ ys = xs) ∧ Can ys ∧ ys.length ≤ 40 ∧ 0 < val ys ∧ val ys ≤ f ∧ i + vlF f (val ys) p = T ∧ rsF f (val ys) p = S ∧ Ow wr w.heap.size wr.heap.size ov done ∧ Below w.heap.size w wr) (fun _ y _ => T + 1 - (intOf y).toNat)
        case atStart => exact ⟨0, (val xs).toNat, xs, _, rfl, rfl, HR5.out, fun h => absurd h (Nat.lt_irrefl _), fun _ => ⟨rfl, rfl⟩, HC0.out.1, HC0.out.2, HPos.out, by have := HPos.out; omega, by rw [HTT.out]; omega, HSS.out, HO5.out, HB5.out⟩
        case round =>
          obtain ⟨i, f, ys, nv2, hnv2, rfl, hr6, hs6, hi6, hc6, hl6, h06, hf6, hk6, hks6, ho6, hb6⟩ := hrel
          obtain rfl := hnv2.symm
          have HR6 := Lib.hid hr6
          have HS6 := Lib.hid hs6
          have HI6 := Lib.hid hi6
          have HC6 := Lib.hid hc6
          have HO6 := Lib.hid ho6
          have HB6 := Lib.hid hb6
          obtain ⟨mm, hm⟩ : ∃ mm, mm = val ys := ⟨_, rfl⟩
          have HM := Lib.hid hm
          rw [← hm] at h06 hf6 hk6 hks6
          have HK6 := Lib.hid hk6
          have HKS6 := Lib.hid hks6
          clear hr6 hs6 hi6 hc6 ho6 hb6 hm hk6 hks6
          by_cases hiT : i < T
          · have j1 : (i : Int) < (T : Int) := by omega
            have HDv : Hid (mm % p = 0) := Lib.hid (vl_one (f := f) (by have := HK6.out; omega))
            go_wp2_with fail
            refine (specBy _ ys p _ HR6.out HC6.out.1 (by omega) (by omega) (by omega)).mono ?_
            rintro xx w7 ⟨r, rfl, ho7, hb7⟩
            rw [← HM.out]
            have HR7 : Hid (Rd w7 r (canOf (mm / p))) := Lib.hid (by rw [HM.out]; exact ho7.rd)
            have HS7 : Hid (r.ownBlock = none ∨ r.ownBlock ≠ ov.ownBlock) := Lib.hid (by
              rcases h : r.ownBlock with _ | b
              · exact .inl rfl
              · right
                intro h2
                have h3 := (ho7.row.lt b h).1
                have h4 := (HO6.out.row.lt b h2.symm).2
                omega)
            have HO7 := Lib.hid ((HO6.out.below hb7 (Nat.le_refl _)).up)
            have HB7 := Lib.hid (HB6.out.trans (hb7.mono HB6.out.size))
            have HST : Hid (∃ g, f = g + 1 ∧ vlF f mm p = vlF g (mm / p) p + 1 ∧ rsF f mm p = rsF g (mm / p) p) := Lib.hid (rsF_step h06 hf6 HDv.out)
            have HD : Hid (Can (canOf (mm / p)) ∧ val (canOf (mm / p)) = mm / p ∧ (canOf (mm / p)).length ≤ ys.length ∧ 0 < mm / p ∧ mm / p < mm) := Lib.hid (by
              have h1 := HC6.out
              have h2 := div_fits h1 (p := p) (by omega)
              rw [← HM.out] at h2
              exact ⟨h2.1, h2.2.1, h2.2.2, div_exact h06 (by omega) HDv.out, (div_less h06 (by omega)).2.1⟩)
            clear ho7 hb7
            go_wp2
            go_roundw
            case rel =>
              obtain ⟨g, hg, hs, hs2⟩ := HST.out
              exact ⟨i + 1, g, canOf (mm / p), _, rfl, by go_num, HR7.out, fun _ => HS7.out, fun h => absurd h (Nat.succ_ne_zero _), HD.out.1, by have := HD.out.2.2.1; omega, by rw [HD.out.2.1]; exact HD.out.2.2.2.1, by have := HD.out.2.2.2.2; rw [HD.out.2.1]; omega, by rw [HD.out.2.1]; have := HK6.out; omega, by rw [HD.out.2.1, ← hs2]; exact HKS6.out, HO7.out, HB7.out⟩
            case measure => simp [intOf]; omega
          · have hiE : i = T := by have := HK6.out; omega
            have j1 : ¬ (i : Int) < (T : Int) := by omega
            have HYs : Hid (ys = canOf S) := Lib.hid (by
              have h1 := HK6.out
              have h2 := vl_zero (f := f) (m := mm) (p := p) h06 hf6 (by omega)
              have h3 := HKS6.out
              rw [rsF_stop h2] at h3
              rw [← h3, HM.out]; exact (canOf_val HC6.out).symm)
            have HA6 : Hid (∀ ad l c, nv2 = .slice (some ad) l c → ov.ownBlock ≠ some ad.block) := Lib.hid (fun ad l c e h => by
              rcases HS6.out (by omega) with h1 | h1
              · rw [e] at h1; cases h1
              · rw [e] at h1; exact h1 h.symm)
            have hown := HO6.out.row
            rw [hlen] at hown
            rw [← HYs.out] at HN
            go_wp2_with (at_builtin; refine wpList_append_own_at _ rfl _ _ 25 rfl w.heap.size 2 i0 (.int .i64 0) 1 8 Try.underlying25 hi hz0 hz1 hz2 rfl (by decide) _ _ _ rfl (hown.alloc _) ⟨_, 0, none⟩ 1 1 [.int .i64 x] rfl rfl ?c1 ?c2 ?c3 ?c4 ?c5 ?_)
            try (case c1 => exact cellNew _ _ _)
            case c2 => first | exact oneCell _ | rfl
            case c3 => unfold maxLen; omega
            case c4 => omega
            case c5 => first | (simp; have := HB6.out.size; omega) | (have := HB6.out.size; omega)
            intro v' w8 hown8 hgrow _ hloc
            have HO8 : Hid (Ow w8 w.heap.size w8.heap.size v' (done ++ [x])) := Lib.hid (HO6.out.snoc ⟨by omega, by omega⟩ (by rw [hlen]; omega) (by rw [hlen]; simpa using hown8) hgrow).1
            have HR8 : Hid (Rd w8 nv2 ys) := Lib.hid ((HR6.out.below ((Below.refl wr.heap.size wr).alloc (Nat.le_refl _) (Obj.cells #[Value.int IntKind.i64 x] 2)) (Nat.le_refl _)).grown hgrow (fun _ ad l c e => HA6.out ad l c e))
            have HA8 : Hid (Apt nv2 v' ys) := Lib.hid (fun h0 ad l c e => by
              rcases hloc with h1 | h1
              · rw [h1]; exact HA6.out ad l c e
              · rw [h1]
                intro h2
                have := HR6.out.below_top h0 ad l c e
                simp at h2
                omega)
            have HB8 := Lib.hid ((HB6.out.alloc HB6.out.size (Obj.cells #[Value.int IntKind.i64 x] 2)).grown hgrow (by simp; have := HB6.out.size; omega) (fun q hq => (hown.lt q hq).1))
            clear hown8 hgrow hown hloc
            go_wp2
            go_roundw
            case rel => exact ⟨k + 1, done ++ [x], _, _, v', rfl, rfl, by go_num, HN.out, HR8.out, HO8.out, HA8.out, HB8.out⟩
            case measure => simp [intOf]; omega
    · obtain rfl : k = 24 := by omega
      have HE := Lib.hid HS.out.last
      have HR5 := Lib.hid HR.out
      have HO5 := Lib.hid HO.out
      have HB5 := Lib.hid HB3.out
      obtain ⟨aN, cN, rfl⟩ : ∃ a c, nv = .slice a xs.length c := by obtain ⟨_, _, a, c, e, _⟩ := HR5.out; exact ⟨a, c, e⟩
      by_cases hl1 : xs.length = 1
      rotate_left
      · have HF := Lib.hid (pl_none HX.out (fun q => hl1 (by have := q.2; rw [HE.out.2] at this; rw [this]; rfl)))
        have b1 : ((xs.length : Int) != 1) = true := by simp; omega
        have b2 : ¬ (xs.length : Int) = 1 := by omega
        clear hl1
        go_wp2
        go_ret2
        exact ⟨_, by rw [HF.out.2] <;> rfl, by rw [HF.out.1]; exact Ow.emptyUp HB5.out.size, HB5.out⟩
      obtain ⟨y, rfl⟩ : ∃ y, xs = [y] := by
        cases xs with
        | nil => simp at hl1
        | cons y t => cases t with
          | nil => exact ⟨y, rfl⟩
          | cons z t => simp at hl1
      obtain ⟨bb, o, rfl, hbb, hcell⟩ : ∃ b o, aN = some ⟨b, o, none⟩ ∧ b < _ ∧ ∀ i, i < [y].length → _ = some (Value.int .i64 ([y].getD i 0)) := by
        obtain ⟨_, _, a, c, e, _, hr⟩ := HR5.out
        simp only [Value.slice.injEq] at e
        obtain ⟨b, o, ha, hb, hc⟩ := hr (by simp)
        exact ⟨b, o, by rw [e.1, ha], hb, hc⟩
      have hc0 := hcell 0 (by simp)
      simp only [List.getD_cons_zero, Nat.add_zero] at hc0
      clear hcell hl1
      by_cases hy : y = 1
      · have HF := Lib.hid (pl_good HX.out H0.out (by rw [HE.out.2, hy]))
        have b1 : (y != 1) = false := by simp [hy]
        clear hy
        go_wp2
        go_ret2
        exact ⟨_, by rw [HF.out.2] <;> rfl, by rw [HF.out.1, HE.out.1]; exact HO5.out, HB5.out⟩
      · have HF := Lib.hid (pl_none HX.out (fun q => hy (by have := q.2; rw [HE.out.2] at this; simpa using this)))
        have b1 : (y != 1) = true := by simp [hy]
        clear hy
        go_wp2
        go_ret2
        exact ⟨_, by rw [HF.out.2] <;> rfl, by rw [HF.out.1]; exact Ow.emptyUp HB5.out.size, HB5.out⟩
end Go.Proofs.Ytoppaipiibaocaa.Ints
