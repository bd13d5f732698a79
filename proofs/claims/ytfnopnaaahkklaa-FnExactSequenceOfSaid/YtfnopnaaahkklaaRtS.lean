/- Square roots, of the model. -/
import Derived.Test.YtfnopnaaahkklaaRtV
namespace Go.Proofs.Ytfnopnaaahkklaa.Ints
open Go.RowKit
set_option linter.unusedVariables false
set_option linter.unusedSimpArgs false
set_option maxRecDepth 100000 in
set_option maxHeartbeats 8000000 in
theorem specRt (u : Value) (ps : List Int) (w : World) (hu : Rd w u ps) (hp : Can ps) (hla : ps.length ≤ 100) :
    Calls Try.prog 42 #[u] w fun e w' => ∃ r, e = .returned r ∧ Ow w' w.heap.size w'.heap.size r (canOf (isq (val ps))) ∧ Below w.heap.size w w' := by
  have HU := Lib.hid hu
  obtain ⟨i0, hi, hz0, hz1, hz2⟩ := info_parts infoE
  obtain ⟨L, hL⟩ : ∃ L, L = (ps.length + 1) / 2 := ⟨_, rfl⟩
  have hL1 : ((ps.length : Int) + 1) / 2 = (L : Int) := by omega
  have hL50 : L ≤ 60 := by omega
  have H0 : Hid (RtI (val ps) L L (List.replicate L 0)) := Lib.hid (RtI.start (val_nonneg hp.1) (Int.lt_of_lt_of_le (val_lt hp.1) (Pw_mono (by omega))))
  have HP := Lib.hid hp
  have hN0 := val_nonneg hp.1
  obtain ⟨N, hN⟩ : ∃ N, N = val ps := ⟨_, rfl⟩
  have HNv := Lib.hid hN
  rw [← hN] at H0 hN0 ⊢
  obtain ⟨_, _, a, c, rfl, _, _⟩ := hu
  clear hp hL hN
  go_enter Try.func42, Try.ntmps42
  go_wp2_with (at_make; refine wpList_make_full _ rfl _ _ 22 rfl w.heap.size 2 i0 (.int .i64 0) 1 Try.underlying22 hi hz0 hz1 _ _ _ _ L rfl rfl ?m1 ?m2 ?m3 ?m4 (Nat.le_refl _) ?_)
  case m1 => first | exact hL1 | rfl | omega
  case m2 => first | exact hL1 | rfl | omega
  case m3 => rw [hz2]; omega
  case m4 => unfold maxLen; omega
  intro w0 hown0 hgrow0
  have HK0 := Lib.hid (Blk.zeros hown0)
  have HB0 := Lib.hid ((Below.refl w.heap.size w).grown hgrow0 (Nat.le_refl _) (fun k h => by cases h))
  clear hown0 hgrow0
  go_wp2
  go_loopw [4] (fun s wr => ∃ (m : Nat) (X : List Int), m ≤ L ∧ s = .int .i64 ((m : Int) - 1) ∧ RtI N L m X ∧ Blk wr w.heap.size L X ∧ Below w.heap.size w wr) (fun s _ => (intOf s + 1).toNat)
  case atStart => exact ⟨L, List.replicate L 0, Nat.le_refl _, rfl, H0.out, HK0.out, HB0.out⟩
  case round =>
    obtain ⟨m, X, hm, hs, hrt, hblk, hbel⟩ := hrel
    have HK := Lib.hid hblk
    have HB := Lib.hid hbel
    have HI := Lib.hid hrt
    have hsz := hbel.size
    have hgs := hblk.lt
    have hXl := hrt.len
    cases m with
    | zero =>
      obtain rfl := hs
      have HD := Lib.hid hrt.done
      have HY : Hid (Ow wr w.heap.size wr.heap.size (.slice (some ⟨w.heap.size, 0, none⟩) L L) X) := Lib.hid (by
        have h := hblk.ow (Nat.le_refl w.heap.size) (by unfold maxLen; omega) (by omega) hrt.dig.fit
        rw [hXl] at h
        exact h)
      clear hrt hblk hbel
      go_wp2_with fail
      refine (specTrim _ X _ _ _ HY.out).mono ?_
      rintro e w3 ⟨u, rfl, ho, rfl⟩
      have HO := Lib.hid ho
      clear ho
      go_wp2
      go_ret
      exact ⟨_, rfl, by rw [HD.out]; exact HO.out, HB.out⟩
    | succ m =>
      rw [show (((m + 1 : Nat) : Int) - 1) = (m : Int) by omega] at hs
      obtain rfl := hs
      have hmL : m < L := by omega
      have i0' : (0 : Int) ≤ (m : Int) := by omega
      have i1 : (m : Int) < (L : Int) := by omega
      clear hrt hblk hbel
      go_wp2
      go_loopw [5, 6] (fun lo hi wx => ∃ (p q c : Int), lo = .int .i64 p ∧ hi = .int .i64 q ∧ RtB N (val X) (Pw m) p q ∧ (0 ≤ c ∧ c ≤ 999999) ∧ Blk wx w.heap.size L (X.set m c) ∧ Below w.heap.size w wx) (fun lo hi _ => (intOf hi - intOf lo).toNat)
      case atStart => exact ⟨0, 999999, 0, rfl, rfl, RtB.start HI.out, by omega, by
        rw [show X.set m 0 = X from by
          apply List.ext_getElem (by simp)
          intro j h1 h2
          rw [List.getElem_set]
          by_cases e : m = j
          · subst e
            have := HI.out.low m (by omega)
            rw [List.getD_eq_getElem?_getD, List.getElem?_eq_getElem h2] at this
            rw [if_pos rfl]; exact this.symm
          · rw [if_neg e]]
        exact HK.out, HB.out⟩
      case round =>
        obtain ⟨p, q, c0, rfl, rfl, hbs, ⟨c1, c2⟩, hblk2, hbel2⟩ := hrel
        have b0 := hbs.l0
        have b1 := hbs.lh
        have b2 := hbs.h1
        have HBS := Lib.hid hbs
        have HK2 := Lib.hid hblk2
        have HB2 := Lib.hid hbel2
        have hsz2 := hbel2.size
        have hgs2 := hblk2.lt
        have hXs : (X.set m c0).length = L := by rw [List.length_set]; exact hXl
        have hc3 : wr.cell? ⟨w.heap.size, m, none⟩ = some (.int .i64 c0) := by
          rw [hblk2.cell m (by omega), getD_set _ _ _ _ (by omega), if_pos rfl]
        have hf3 : wr.frozen? ⟨w.heap.size, m, none⟩ = false := hblk2.frozen m
        clear hbs hblk2 hbel2
        by_cases hlt : p < q
        · obtain ⟨md, hmd⟩ : ∃ md, md = (p + q + 1) / 2 := ⟨_, rfl⟩
          have m1 : p < md := by omega
          have m2 : md ≤ q := by omega
          have e1 : IntKind.i64.wrap (p + q) = p + q := by rw [IntKind.wrap_i64]; omega
          have e2 : IntKind.i64.wrap (p + q + 1) = p + q + 1 := by rw [IntKind.wrap_i64]; omega
          have e3 : Int.tdiv (p + q + 1) 2 = md := by rw [Int.tdiv_eq_ediv_of_nonneg (by omega)]; omega
          have e4 : IntKind.i64.wrap md = md := by rw [IntKind.wrap_i64]; omega
          obtain ⟨k1, g1⟩ := HK2.out.set m (by omega) md
          rw [List.set_set] at k1
          have HK3 := Lib.hid k1
          have HB3 := Lib.hid (HB2.out.grown g1 hsz2 (fun k e => by cases e; exact Nat.le_refl _))
          have HCd := Lib.hid (HI.out.cand hmL (show 0 ≤ md by omega) (show md ≤ 999999 by omega))
          have HXo : Hid (Ow (wr.setCell ⟨w.heap.size, m, none⟩ (.int .i64 md)) w.heap.size (wr.setCell ⟨w.heap.size, m, none⟩ (.int .i64 md)).heap.size (.slice (some ⟨w.heap.size, 0, none⟩) L L) (X.set m md)) := Lib.hid (by
            have h := k1.ow (Nat.le_refl w.heap.size) (by unfold maxLen; omega) (by rw [List.length_set]; omega) HCd.out.1.fit
            rw [List.length_set, hXl] at h
            exact h)
          clear hmd k1 g1
          go_wp2_with fail
          refine (specOwn _ (X.set m md) _ HXo.out.rd).mono ?_
          rintro e w3 ⟨u3, rfl, o3, b3⟩
          have X3 := Lib.hid o3
          have HB4 := Lib.hid b3
          clear o3 b3
          go_wp2_with fail
          refine (specTrim _ (X.set m md) _ _ _ X3.out).mono ?_
          rintro e w4 ⟨u4, rfl, o4, rfl⟩
          have HTr : Hid (trim (X.set m md) = canOf (val X + Pw m * md)) := Lib.hid (by
            rw [← HCd.out.2]; exact (canOf_eq (trim_can HCd.out.1) (trim_val _)).symm)
          rw [HTr.out] at o4
          have X4 := Lib.hid o4
          obtain ⟨V, hV⟩ : ∃ V, V = val X + Pw m * md := ⟨_, rfl⟩
          have HV := Lib.hid hV
          have NV : Hid (Nn 60 V) := Lib.hid (by
            have h1 := val_lt HCd.out.1
            rw [HCd.out.2, ← hV, List.length_set, hXl] at h1
            exact ⟨by rw [hV, ← HCd.out.2]; exact val_nonneg HCd.out.1, Int.lt_of_lt_of_le h1 (Pw_mono hL50)⟩)
          rw [← hV] at X4
          clear o4 hV
          go_wp2_with fail
          refine (sMul _ _ V V 60 60 _ X4.out.rd X4.out.rd NV.out NV.out (by omega) (by omega)).mono ?_
          rintro e w5 ⟨u5, rfl, o5, b5⟩
          have X5 := Lib.hid o5
          have HB5 := Lib.hid (HB4.out.trans (b5.mono HB4.out.size))
          clear o5 b5
          have HCM : Hid (cmpN (canOf (V * V)) ps = sgn (V * V) N) := Lib.hid (by
            have h1 := canOf_spec (v := V * V) (Int.mul_nonneg NV.out.nn NV.out.nn)
            rw [cmpN_val h1.1 HP.out, h1.2, HNv.out])
          go_wp2_with fail
          refine (specCmpNat _ _ _ _ _ X5.out.rd ((HU.out.below HB3.out (Nat.le_refl _)).below HB5.out (Nat.le_refl _))).mono ?_
          rintro e w6 ⟨rfl, b6⟩
          rw [HCM.out]
          have HB6 := Lib.hid (HB5.out.trans (b6.mono HB5.out.size))
          have HK6 := Lib.hid (HK3.out.belowB HB6.out (by simp; omega))
          have HB7 := Lib.hid (HB3.out.trans (HB6.out.mono HB3.out.size))
          have hc6 : w6.cell? ⟨w.heap.size, m, none⟩ = some (.int .i64 md) := by
            rw [HK6.out.cell m (by rw [List.length_set]; omega), getD_set _ _ _ _ (by omega), if_pos rfl]
          clear b6 hc3 hf3
          obtain ⟨cc, hcc⟩ : ∃ cc, cc = sgn (V * V) N := ⟨_, rfl⟩
          rw [← hcc]
          by_cases hle : V * V ≤ N
          · have q0 : cc ≤ 0 := by rw [hcc]; exact (sgn_le _ _).2 hle
            have HN2 := Lib.hid (HBS.out.up (Int.le_of_lt m1) m2 (by rw [← HV.out]; exact hle))
            clear hcc hle
            go_wp2
            go_roundw
            case rel => exact ⟨md, q, md, rfl, rfl, HN2.out, by omega, HK6.out, HB7.out⟩
            case measure => simp [intOf]; omega
          · have q0 : ¬ cc ≤ 0 := by rw [hcc]; exact fun h => hle ((sgn_le _ _).1 h)
            have HN2 := Lib.hid (HBS.out.down m1 m2 (by rw [← HV.out]; exact hle))
            have e5 : IntKind.i64.wrap (md - 1) = md - 1 := by rw [IntKind.wrap_i64]; omega
            clear hcc hle
            go_wp2
            go_roundw
            case rel => exact ⟨p, md - 1, md, rfl, rfl, HN2.out, by omega, HK6.out, HB7.out⟩
            case measure => simp [intOf]; omega
        · have HRI := Lib.hid (RtB.done HI.out hmL HBS.out hlt)
          obtain ⟨k1, g1⟩ := HK2.out.set m (by omega) p
          rw [List.set_set] at k1
          have HK3 := Lib.hid k1
          have HB3 := Lib.hid (HB2.out.grown g1 hsz2 (fun k e => by cases e; exact Nat.le_refl _))
          clear k1 g1
          go_wp2
          go_roundw
          case rel => exact ⟨m, X.set m p, by omega, by first | rfl | go_num, HRI.out, HK3.out, HB3.out⟩
          case measure => simp [intOf]
end Go.Proofs.Ytfnopnaaahkklaa.Ints
