/- Lists in products of powers of primes, of the program. -/
import Derived.Test.YtoppaipiibaocaaPlV
import Derived.Test.YtoppaipiibaocaaSame
import Derived.Maps.AppendAt
namespace Go.Proofs.Ytoppaipiibaocaa.Ints
open Go.RowKit
open Math (prA prA_in implPrimeAt)
set_option linter.unusedVariables false
set_option linter.unusedSimpArgs false
theorem limbs_one' : limbs 1 = [1] := by
  have := limbs_can (n := 1) (by omega)
  exact can_uniq this.1 ⟨fun i hi => by simp at hi; subst hi; simp, .inr (by simp)⟩ (by rw [this.2]; simp [val])
set_option maxHeartbeats 4000000 in
theorem implTakeR (u : Value) (ps : List Int) (p : Int) (w : World) (hu : Rd w u ps) (hx : natB ps = true) (hl : 0 < ps.length) (p0 : 2 ≤ p) (p1 : p ≤ 999999) :
    Calls Try.prog 59 #[u, .int .i64 p] w fun e w' => ∃ r, e = .returned (.tuple #[.int .i64 (vlN ps p), r]) ∧ Rd w' r (canOf (rsN ps p)) ∧ (r = u ∨ ∀ ad l c, r = .slice (some ad) l c → w.heap.size ≤ ad.block) ∧ Below w.heap.size w w' := by
  have HU := Lib.hid hu
  obtain ⟨a, c, rfl⟩ : ∃ a c, u = .slice a ps.length c := by obtain ⟨_, _, a, c, e, _⟩ := hu; exact ⟨a, c, e⟩
  have HP := Lib.hid (natB_can hx)
  obtain ⟨S, hS⟩ : ∃ S, S = rsN ps p := ⟨_, rfl⟩
  have HSS : Hid (rsF (val ps).toNat (val ps) p = S) := Lib.hid hS.symm
  have H0 := Lib.hid (val_pos (natB_can hx).1 hl)
  obtain ⟨T, hT⟩ : ∃ T, T = vlN ps p := ⟨_, rfl⟩
  have HT : Hid (vlF (val ps).toNat (val ps) p = T) := Lib.hid hT.symm
  have HT8 : Hid (T < 800) := Lib.hid (by rw [hT]; exact vl_small (natB_can hx).1 (natB_can hx).2 hl _ p p0)
  rw [← hT, ← hS]
  clear hu hx hT hS
  go_enter Try.func59, Try.ntmps59
  go_wp2
  go_loopw [0, 6] (fun n o wr => ∃ (k f : Nat) (xs : List Int) (nv : Value), n = nv ∧ o = .int .i64 k ∧ Rd wr nv xs ∧ (nv = .slice a ps.length c ∨ ∀ ad l c, nv = .slice (some ad) l c → w.heap.size ≤ ad.block) ∧ Can xs ∧ xs.length ≤ 40 ∧ 0 < val xs ∧ val xs ≤ f ∧ k + vlF f (val xs) p = T ∧ rsF f (val xs) p = S ∧ Below w.heap.size w wr) (fun _ o _ => T + 1 - (intOf o).toNat)
  case atStart => exact ⟨0, (val ps).toNat, ps, _, rfl, rfl, HU.out, .inl rfl, HP.out.1, HP.out.2, H0.out, by have := H0.out; omega, by rw [HT.out]; omega, HSS.out, Below.refl _ _⟩
  case round =>
    obtain ⟨k, f, xs, nv, hn, rfl, hr, hwh, hc, hl, h0, hf, hk, hks, hb⟩ := hrel
    have HWH := Lib.hid hwh
    clear hwh
    obtain rfl := hn.symm
    have HR := Lib.hid hr
    have HC := Lib.hid hc
    have HB := Lib.hid hb
    obtain ⟨m, hm⟩ : ∃ m, m = val xs := ⟨_, rfl⟩
    have HM := Lib.hid hm
    rw [← hm] at h0 hf hk hks
    have HK := Lib.hid hk
    have HKS := Lib.hid hks
    obtain ⟨av, cv, hav⟩ : ∃ a c, nv = .slice a xs.length c := by obtain ⟨_, _, a, c, e, _⟩ := hr; exact ⟨a, c, e⟩
    have HAV := Lib.hid hav
    clear hr hc hb hm hk hks hav
    go_wp2_with fail
    refine (implBy _ xs p _ HR.out HC.out.1 (by omega) (by omega) (by omega)).mono ?_
    rintro x w1 ⟨r, rfl, ho, hb⟩
    rw [← HM.out]
    have HO : Hid (Rd w1 r (canOf (m / p))) := Lib.hid (by rw [HM.out]; exact ho.rd)
    have HWN : Hid (∀ ad l c, r = .slice (some ad) l c → w.heap.size ≤ ad.block) := Lib.hid (fun ad l c hk => Nat.le_trans HB.out.size (ho.row.lt ad.block (by rw [hk]; rfl)).1)
    have HB2 := Lib.hid (HB.out.trans (hb.mono HB.out.size))
    have HB3 := Lib.hid hb
    obtain ⟨a2, c2, rfl⟩ := ho.shape
    obtain ⟨L, hL⟩ : ∃ L, L = (canOf (val xs / p)).length := ⟨_, rfl⟩
    rw [← hL] at HO HWN ⊢
    clear ho hb hL
    obtain ⟨q, hq⟩ : ∃ q, q = m % p := ⟨_, rfl⟩
    rw [← hq]
    by_cases hz : q = 0
    · have hz1 : (q == 0) = true := by simp [hz]
      have hz2 : (q != 0) = false := by simp [hz]
      have HS : Hid (∃ g, f = g + 1 ∧ vlF f m p = vlF g (m / p) p + 1 ∧ rsF f m p = rsF g (m / p) p) := Lib.hid (rsF_step h0 hf (by omega))
      have HD : Hid (Can (canOf (m / p)) ∧ val (canOf (m / p)) = m / p ∧ (canOf (m / p)).length ≤ xs.length ∧ 0 < m / p ∧ m / p < m) := Lib.hid (by
        have h1 := HC.out
        have h2 := div_fits h1 (p := p) (by omega)
        rw [← HM.out] at h2
        exact ⟨h2.1, h2.2.1, h2.2.2, div_exact h0 (by omega) (by omega), (div_less h0 (by omega)).2.1⟩)
      have hk63 : (k : Int) ≤ 1000000000 := by have := HK.out; have := HT8.out; omega
      have hk64 : (0 : Int) ≤ (k : Int) := by omega
      clear hz hq
      go_wp2
      go_roundw
      case rel =>
        obtain ⟨g, hg, hs, hs2⟩ := HS.out
        exact ⟨k + 1, g, canOf (m / p), _, rfl, by first | rfl | go_num, HO.out, .inr HWN.out, HD.out.1, by have := HD.out.2.2.1; omega, by rw [HD.out.2.1]; exact HD.out.2.2.2.1, by have := HD.out.2.2.2.2; rw [HD.out.2.1]; omega, by rw [HD.out.2.1]; have := HK.out; omega, by rw [HD.out.2.1, ← hs2]; exact HKS.out, HB2.out⟩
      case measure =>
        obtain ⟨g, hg, hs, hs2⟩ := HS.out
        have := HK.out
        simp [intOf]; omega
    · have hz1 : (q == 0) = false := by simp [hz]
      have hz2 : (q != 0) = true := by simp [hz]
      have HE : Hid ((k : Int) = (T : Int)) := Lib.hid (by
        have := HK.out
        rw [vlF_stop (by omega)] at this; omega)
      have HF : Hid (canOf S = xs) := Lib.hid (by
        have := HKS.out
        rw [rsF_stop (by omega)] at this
        rw [← this, HM.out]; exact canOf_val HC.out)
      have HRR := Lib.hid (HR.out.below HB3.out (Nat.le_refl _))
      have HWQ := Lib.hid (show nv = .slice a ps.length c ∨ ∀ ad l c, nv = .slice (some ad) l c → w.heap.size ≤ ad.block from HWH.out)
      have hav := HAV.out
      clear hz hq HAV
      subst hav
      go_wp2
      go_ret2
      exact ⟨_, by rw [← HE.out] <;> rfl, by rw [HF.out]; exact HRR.out, HWQ.out, HB2.out⟩
set_option maxRecDepth 100000 in
set_option maxHeartbeats 8000000 in
theorem implPl (v : Value) (n : List Int) (w : World) (h : Rd w v n) :
    Calls Try.prog 20 #[v] w fun e w' => ∃ r, e = .returned (.tuple #[r, .int .i64 (plC n)]) ∧ Ow w' w.heap.size w'.heap.size r (plV n) ∧ Below w.heap.size w w' := by
  obtain ⟨i0, hi, hz0, hz1, hz2⟩ := info_parts infoE
  have HV := Lib.hid h
  obtain ⟨hl, hf, a, c, rfl, hcap, hr⟩ := h
  clear hr
  rcases eqOr (natB n) with hx | hx
  · have HX := Lib.hid hx
    have HF := Lib.hid (pl_bad hx)
    clear hx
    go_enter Try.func20, Try.ntmps20
    go_wp2_with fail
    refine (implNat _ n _ HV.out).mono ?_
    rintro e w1 ⟨rfl, hb1⟩
    rw [HX.out]
    have HB := Lib.hid hb1
    clear hb1
    go_wp2
    go_ret2
    exact ⟨_, by rw [HF.out.2] <;> rfl, by rw [HF.out.1]; exact Ow.emptyUp HB.out.size, HB.out⟩
  have HX := Lib.hid hx
  clear hx
  by_cases h0 : 0 < n.length
  rotate_left
  · have HF := Lib.hid (pl_none HX.out (fun q => h0 q.1))
    have d0 : ((n.length : Int) == 0) = true := by rw [beq_iff_eq]; omega
    have d1 : (n.length : Int) = 0 := by omega
    go_enter Try.func20, Try.ntmps20
    go_wp2_with fail
    refine (implNat _ n _ HV.out).mono ?_
    rintro e w1 ⟨rfl, hb1⟩
    rw [HX.out]
    have HB := Lib.hid hb1
    clear hb1
    go_wp2
    go_ret2
    exact ⟨_, by rw [HF.out.2] <;> rfl, by rw [HF.out.1]; exact Ow.emptyUp HB.out.size, HB.out⟩
  have d0 : ((n.length : Int) == 0) = false := by rw [beq_eq_false_iff_ne]; omega
  have d1 : ¬ (n.length : Int) = 0 := by omega
  have H0 := Lib.hid h0
  clear h0
  go_enter Try.func20, Try.ntmps20
  go_wp2_with fail
  refine (implNat _ n _ HV.out).mono ?_
  rintro e w1 ⟨rfl, hb1⟩
  rw [HX.out]
  have HB := Lib.hid hb1
  clear hb1
  go_wp2
  have HV1 := Lib.hid (HV.out.below HB.out (Nat.le_refl _))
  go_loopw [0, 4, 16] (fun nn o x wr => ∃ (k : Nat) (done xs : List Int) (nv ov : Value), nn = nv ∧ o = ov ∧ x = .int .i64 k ∧ PlS n k done xs ∧ Rd wr nv xs ∧ Ow wr w.heap.size wr.heap.size ov done ∧ Apt nv ov xs ∧ Below w.heap.size w wr) (fun _ _ x _ => 24 - (intOf x).toNat)
  case atStart => exact ⟨0, [], n, _, _, rfl, rfl, rfl, PlS.start HX.out H0.out, HV1.out, Ow.emptyUp HB.out.size, fun _ a l c e h => (by cases h), HB.out⟩
  case round =>
    obtain ⟨k, done, xs, nv, ov, hnv, hov, rfl, hS, hrd, ho, hap, hb⟩ := hrel
    obtain rfl := hnv.symm
    obtain rfl := hov.symm
    have HS := Lib.hid hS
    have HR := Lib.hid hrd
    have HO := Lib.hid ho
    have HA := Lib.hid hap
    have HB3 := Lib.hid hb
    have hk := hS.le
    clear hS hrd ho hap hb
    by_cases hlt : k < 24
    · obtain ⟨p, hp⟩ : ∃ p, p = (prA k : Int) := ⟨_, rfl⟩
      have hp2 := prA_two2 (k := k) hlt
      rw [← hp] at hp2
      obtain ⟨p0, p1⟩ := hp2
      have HP := Lib.hid hp
      have HLt := Lib.hid hlt
      have i1 : (k : Int) < 24 := by omega
      clear hp
      go_wp2_with fail
      refine (implPrimeAt k _ hlt).mono ?_
      rintro e w4 ⟨rfl, hb4⟩
      rw [← HP.out]
      have HB4 := Lib.hid (HB3.out.trans (hb4.mono HB3.out.size))
      have HO4 := Lib.hid ((HO.out.below hb4 (Nat.le_refl _)).up)
      have HR4 := Lib.hid (HR.out.below hb4 (Nat.le_refl _))
      clear hb4
      go_wp2_with fail
      refine (implTakeR nv xs p _ HR4.out HS.out.nat HS.out.pos p0 (by omega)).mono ?_
      rintro e w5 ⟨r, rfl, hr5, hwh5, hb5⟩
      have HB5 := Lib.hid (HB4.out.trans (hb5.mono HB4.out.size))
      have HO5 := Lib.hid ((HO4.out.below hb5 (Nat.le_refl _)).up)
      have HR5 := Lib.hid hr5
      have HBT := Lib.hid hb5
      have HA5 : Hid (∀ ad l c, r = .slice (some ad) l c → ov.ownBlock ≠ some ad.block) := Lib.hid (fun ad l c e h => by
        rcases hwh5 with rfl | hfr
        · exact HA.out (fun h0 => by have := HS.out.pos; rw [h0] at this; simp at this) ad l c e h
        · have h1 := hfr ad l c e
          have h2 := (HO4.out.row.lt _ h).2
          omega)
      obtain ⟨T, hT⟩ : ∃ T, T = vlN xs p := ⟨_, rfl⟩
      have HT := Lib.hid hT
      have hT8 : T < 800 := by rw [hT]; exact vl_small (natB_can HS.out.nat).1 (natB_can HS.out.nat).2 HS.out.pos _ p p0
      rw [← hT]
      clear hr5 hwh5 hb5 hT
      by_cases hz : T = 0
      · have hq1 : ((T : Int) == 0) = true := by simp [hz]
        have hq2 : (T : Int) = 0 := by omega
        have HE := Lib.hid (HS.out.stop HLt.out (by rw [← HP.out, ← HT.out]; exact hz))
        go_wp2_with fail
        refine (implLimbs 1 _ (by omega) (by omega)).mono ?_
        rintro e w7 ⟨u7, rfl, ho7, hb7⟩
        rw [limbs_one'] at ho7
        have HO7 := Lib.hid ho7
        have HB7 := Lib.hid (HB5.out.trans (hb7.mono HB5.out.size))
        have HR7 := Lib.hid (HR4.out.below ((HBT.out.trans (hb7.mono HBT.out.size))) (Nat.le_refl _))
        have HD7 := Lib.hid ((HO5.out.below hb7 (Nat.le_refl _)).up)
        clear ho7 hb7
        go_wp2_with fail
        refine (libEqI _ _ _ [1] _ HR7.out HO7.out.rd).mono ?_
        rintro e w8 ⟨rfl, hb8⟩
        have HB8 := Lib.hid (HB7.out.trans (hb8.mono HB7.out.size))
        have HD8 := Lib.hid ((HD7.out.below hb8 (Nat.le_refl _)).up)
        clear hb8
        by_cases hq : (plR n).2 = [1]
        · have HF := Lib.hid (pl_good HX.out H0.out hq)
          have HDD : Hid (decide (xs = [1]) = true) := Lib.hid (decide_eq_true (by rw [← HE.out.2]; exact hq))
          clear hq
          rw [HDD.out]
          go_wp2
          go_ret2
          exact ⟨_, by rw [HF.out.2] <;> rfl, by rw [HF.out.1, HE.out.1]; exact HD8.out, HB8.out⟩
        · have HF := Lib.hid (pl_none HX.out (fun q => hq q.2))
          have HDD : Hid (decide (xs = [1]) = false) := Lib.hid (decide_eq_false (by rw [← HE.out.2]; exact hq))
          clear hq
          rw [HDD.out]
          go_wp2
          go_ret2
          exact ⟨_, by rw [HF.out.2] <;> rfl, by rw [HF.out.1]; exact Ow.emptyUp HB8.out.size, HB8.out⟩
      · have hq1 : ((T : Int) == 0) = false := by rw [beq_eq_false_iff_ne]; omega
        have HN : Hid (PlS n (k + 1) (done ++ [(T : Int) - 1]) (canOf (rsN xs p))) := Lib.hid (by
          have := HS.out.step HLt.out (by rw [← HP.out, ← HT.out]; exact hz)
          rw [← HP.out, ← HT.out] at this; exact this)
        have hlen : done.length = k := HS.out.len
        have hown := HO5.out.row
        rw [hlen] at hown
        obtain ⟨x, hx⟩ : ∃ x, x = (T : Int) - 1 := ⟨_, rfl⟩
        have hx2 : (T : Int) - 1 = x := hx.symm
        have x0 : 0 ≤ x := by omega
        have x1 : x ≤ 800 := by omega
        rw [hx2] at HN
        clear hz hx
        go_wp2_with (at_builtin; refine wpList_append_own_at _ rfl _ _ 25 rfl w.heap.size 2 i0 (.int .i64 0) 1 8 Try.underlying25 hi hz0 hz1 hz2 rfl (by decide) _ _ _ rfl (hown.alloc _) ⟨_, 0, none⟩ 1 1 [.int .i64 x] rfl rfl ?c1 ?c2 ?c3 ?c4 ?c5 ?_)
        try (case c1 => exact cellNew _ _ _)
        case c2 => first | exact oneCell _ | rfl
        case c3 => unfold maxLen; omega
        case c4 => omega
        case c5 => first | (simp; have := HB5.out.size; omega) | (have := HB5.out.size; omega)
        intro v' w6 hown6 hgrow _ hloc
        have HO6 : Hid (Ow w6 w.heap.size w6.heap.size v' (done ++ [x])) := Lib.hid (HO5.out.snoc ⟨by omega, by omega⟩ (by rw [hlen]; omega) (by rw [hlen]; simpa using hown6) hgrow).1
        have HR6 : Hid (Rd w6 r (canOf (rsN xs p))) := Lib.hid ((HR5.out.below ((Below.refl w5.heap.size w5).alloc (Nat.le_refl _) (Obj.cells #[Value.int IntKind.i64 x] 2)) (Nat.le_refl _)).grown hgrow (fun _ ad l c e => HA5.out ad l c e))
        have HA6 : Hid (Apt r v' (canOf (rsN xs p))) := Lib.hid (fun h0 ad l c e => by
          rcases hloc with h1 | h1
          · rw [h1]; exact HA5.out ad l c e
          · rw [h1]
            intro h2
            have := HR5.out.below_top h0 ad l c e
            simp at h2
            omega)
        have HB6 := Lib.hid ((HB5.out.alloc HB5.out.size (Obj.cells #[Value.int IntKind.i64 x] 2)).grown hgrow (by simp; have := HB5.out.size; omega) (fun q hq => (hown.lt q hq).1))
        clear hown6 hgrow hown hloc
        go_wp2
        go_roundw
        case rel => exact ⟨k + 1, done ++ [x], _, _, v', rfl, rfl, by go_num, HN.out, HR6.out, HO6.out, HA6.out, HB6.out⟩
        case measure => simp [intOf]; omega
    · obtain rfl : k = 24 := by omega
      have HE := Lib.hid HS.out.last
      have HR5 := Lib.hid HR.out
      have HO5 := Lib.hid HO.out
      have HB5 := Lib.hid HB3.out
      go_wp2_with fail
      refine (implLimbs 1 _ (by omega) (by omega)).mono ?_
      rintro e w7 ⟨u7, rfl, ho7, hb7⟩
      rw [limbs_one'] at ho7
      have HO7 := Lib.hid ho7
      have HB7 := Lib.hid (HB5.out.trans (hb7.mono HB5.out.size))
      have HR7 := Lib.hid (HR5.out.below hb7 (Nat.le_refl _))
      have HD7 := Lib.hid ((HO5.out.below hb7 (Nat.le_refl _)).up)
      clear ho7 hb7
      go_wp2_with fail
      refine (libEqI _ _ _ [1] _ HR7.out HO7.out.rd).mono ?_
      rintro e w8 ⟨rfl, hb8⟩
      have HB8 := Lib.hid (HB7.out.trans (hb8.mono HB7.out.size))
      have HD8 := Lib.hid ((HD7.out.below hb8 (Nat.le_refl _)).up)
      clear hb8
      by_cases hq : (plR n).2 = [1]
      · have HF := Lib.hid (pl_good HX.out H0.out hq)
        have HDD : Hid (decide (xs = [1]) = true) := Lib.hid (decide_eq_true (by rw [← HE.out.2]; exact hq))
        clear hq
        rw [HDD.out]
        go_wp2
        go_ret2
        exact ⟨_, by rw [HF.out.2] <;> rfl, by rw [HF.out.1, HE.out.1]; exact HD8.out, HB8.out⟩
      · have HF := Lib.hid (pl_none HX.out (fun q => hq q.2))
        have HDD : Hid (decide (xs = [1]) = false) := Lib.hid (decide_eq_false (by rw [← HE.out.2]; exact hq))
        clear hq
        rw [HDD.out]
        go_wp2
        go_ret2
        exact ⟨_, by rw [HF.out.2] <;> rfl, by rw [HF.out.1]; exact Ow.emptyUp HB8.out.size, HB8.out⟩
end Go.Proofs.Ytoppaipiibaocaa.Ints
