/- Contracts of ReplaceAt and ReplaceFirst, of the model and of the program. -/
import Derived.Test.YtgfidlppocheoaaRep
namespace Go.Proofs.Ytgfidlppocheoaa.Ints
open Go.RowKit
set_option linter.unusedVariables false

noncomputable def allB (zs ps bs : List Int) : Bool := wordB zs && (wordB ps && wordB bs)
noncomputable def raR (zs : List Int) (at0 : Int) (ps bs : List Int) : List Int × Int :=
  if allB zs ps bs = false then ([], 1) else if ¬ (0 ≤ at0 ∧ at0 ≤ zs.length) then ([], 2) else if occB zs at0.toNat ps = false then ([], 3) else (rpL zs at0.toNat ps.length bs, rpC zs at0.toNat ps.length bs)
noncomputable def rfR (zs ps bs : List Int) : List Int × Int :=
  if allB zs ps bs = false then ([], 1) else if findL zs ps 0 < 0 then ([], 3) else (rpL zs (findL zs ps 0).toNat ps.length bs, rpC zs (findL zs ps 0).toNat ps.length bs)
theorem allB_true {zs ps bs : List Int} (h : allB zs ps bs = true) : Word zs ∧ Word ps ∧ Word bs := by
  simp only [allB, Bool.and_eq_true] at h
  exact ⟨wordB_iff h.1, wordB_iff h.2.1, wordB_iff h.2.2⟩
theorem occ_len {zs ps : List Int} {k : Nat} (h : occB zs k ps = true) (hk : k ≤ zs.length) : k + ps.length ≤ zs.length := by
  rcases Nat.lt_or_ge zs.length (k + ps.length) with hl | hl
  · rw [occ_no (by omega) hk] at h; cases h
  · exact hl
set_option maxHeartbeats 2000000 in
theorem implReplaceAt (v : Value) (zs : List Int) (at0 : Int) (u : Value) (ps : List Int) (t : Value) (bs : List Int) (w : World) (hv : Rd w v zs) (hu : Rd w u ps) (ht : Rd w t bs) :
    Calls Try.prog 9 #[v, .int .i64 at0, u, t] w fun e w' => ∃ r, e = .returned (.tuple #[r, .int .i64 (raR zs at0 ps bs).2]) ∧ Ow w' w.heap.size w'.heap.size r (raR zs at0 ps bs).1 ∧ Below w.heap.size w w' := by
  have HV := Lib.hid hv
  have HU := Lib.hid hu
  have HT := Lib.hid ht
  have HL := Lib.hid (rdl_three hv hu ht)
  have HB0 := Lib.hid ((Below.refl w.heap.size w).alloc (Nat.le_refl _) (Obj.cells #[v, u, t] 24))
  obtain ⟨_, _, a, c, rfl, hcap, _⟩ := hv
  obtain ⟨_, _, a', c', rfl, _, _⟩ := hu
  obtain ⟨_, _, a2, c2, rfl, _, _⟩ := ht
  rcases eqOr (allB zs ps bs) with hn | hn
  · have HN : Hid (allW [zs, ps, bs] = false) := Lib.hid (by rw [allW_three]; exact hn)
    have e0 : Hid (raR zs at0 ps bs = ([], 1)) := Lib.hid (by simp [raR, hn])
    clear hn
    go_enter Try.func9, Try.ntmps9
    go_wp2_with (go_at_call 22; refine (areWords_any _ [zs, ps, bs] _ HL.out).mono ?_; rintro e w1 ⟨rfl, hb⟩; rw [HN.out]; have HB := Lib.hid (HB0.out.trans (hb.mono HB0.out.size)); clear hb)
    go_ret2
    exact ⟨_, by rw [e0.out] <;> rfl, by rw [e0.out]; exact Ow.emptyUp HB.out.size, HB.out⟩
  have HN : Hid (allW [zs, ps, bs] = true) := Lib.hid (by rw [allW_three]; exact hn)
  have HALL := Lib.hid hn
  obtain ⟨hwz, hwp, hwb⟩ := allB_true hn
  have hzl := hwz.1
  have hpl := hwp.1
  have hbl := hwb.1
  clear hn hwz hwp hwb
  by_cases r0 : 0 ≤ at0
  rotate_left
  · have e0 : Hid (raR zs at0 ps bs = ([], 2)) := Lib.hid (by
      have : ¬ (0 ≤ at0 ∧ at0 ≤ zs.length) := by omega
      rw [raR, if_neg (by rw [HALL.out]; simp), if_pos this])
    go_enter Try.func9, Try.ntmps9
    go_wp2_with (go_at_call 22; refine (areWords_any _ [zs, ps, bs] _ HL.out).mono ?_; rintro e w1 ⟨rfl, hb⟩; rw [HN.out]; have HB := Lib.hid (HB0.out.trans (hb.mono HB0.out.size)); clear hb)
    go_ret2
    exact ⟨_, by rw [e0.out] <;> rfl, by rw [e0.out]; exact Ow.emptyUp HB.out.size, HB.out⟩
  by_cases r1 : at0 ≤ (zs.length : Int)
  rotate_left
  · have e0 : Hid (raR zs at0 ps bs = ([], 2)) := Lib.hid (by
      have : ¬ (0 ≤ at0 ∧ at0 ≤ zs.length) := by omega
      rw [raR, if_neg (by rw [HALL.out]; simp), if_pos this])
    go_enter Try.func9, Try.ntmps9
    go_wp2_with (go_at_call 22; refine (areWords_any _ [zs, ps, bs] _ HL.out).mono ?_; rintro e w1 ⟨rfl, hb⟩; rw [HN.out]; have HB := Lib.hid (HB0.out.trans (hb.mono HB0.out.size)); clear hb)
    go_ret2
    exact ⟨_, by rw [e0.out] <;> rfl, by rw [e0.out]; exact Ow.emptyUp HB.out.size, HB.out⟩
  obtain ⟨k, rfl⟩ : ∃ k : Nat, at0 = k := ⟨at0.toNat, by omega⟩
  have hk : k ≤ zs.length := by omega
  have j1 : ¬ (zs.length : Int) < (k : Int) := by omega
  have hR : raR zs k ps bs = if occB zs k ps = false then ([], 3) else (rpL zs k ps.length bs, rpC zs k ps.length bs) := by
    rw [raR, if_neg (by rw [HALL.out]; simp), if_neg (by omega), Int.toNat_natCast]
  have HR := Lib.hid hR
  have hc0 := HV.out.cut k zs.length hk (Nat.le_refl _)
  rw [List.take_length] at hc0
  have HC := Lib.hid hc0
  clear hR r0 hc0
  rcases eqOr (occB zs k ps) with ho | ho
  · have HO : Hid (decide ((zs.drop k).take ps.length = ps) = false) := Lib.hid ho
    have e0 : Hid (raR zs k ps bs = ([], 3)) := Lib.hid (by rw [HR.out, if_pos ho])
    clear ho
    go_enter Try.func9, Try.ntmps9
    go_wp2_with (first | (go_at_call 22; refine (areWords_any _ [zs, ps, bs] _ HL.out).mono ?_; rintro e w1 ⟨rfl, hb⟩; rw [HN.out]; have HB := Lib.hid (HB0.out.trans (hb.mono HB0.out.size)); clear hb) | (go_at_call 25; refine (implStarts _ _ (zs.drop k) ps _ (HC.out.below HB.out (Nat.le_refl _)) (HU.out.below HB.out (Nat.le_refl _))).mono ?_; rintro e w2 ⟨rfl, hb⟩; rw [HO.out]; have HB2 := Lib.hid (HB.out.trans (hb.mono HB.out.size)); clear hb))
    all_goals
      go_ret2
      exact ⟨_, by rw [e0.out] <;> rfl, by rw [e0.out]; exact Ow.emptyUp HB2.out.size, HB2.out⟩
  have HO : Hid (decide ((zs.drop k).take ps.length = ps) = true) := Lib.hid ho
  have hkl := occ_len ho hk
  have e1 : Hid (raR zs k ps bs = (rpL zs k ps.length bs, rpC zs k ps.length bs)) := Lib.hid (by rw [HR.out, if_neg (by rw [ho]; simp)])
  clear ho
  go_enter Try.func9, Try.ntmps9
  go_wp2_with (first | (go_at_call 24; refine (implReplace _ _ zs bs k ps.length _ (HV.out.below HB2.out (Nat.le_refl _)) (HT.out.below HB2.out (Nat.le_refl _)) hkl hzl hbl).mono ?_; rintro e w3 ⟨r, rfl, ho, hb⟩; have HB3 := Lib.hid (HB2.out.trans (hb.mono HB2.out.size)); have HO3 := Lib.hid (ho.mono HB2.out.size (Nat.le_refl _) (Nat.le_refl _)); clear ho hb) | (go_at_call 22; refine (areWords_any _ [zs, ps, bs] _ HL.out).mono ?_; rintro e w1 ⟨rfl, hb⟩; rw [HN.out]; have HB := Lib.hid (HB0.out.trans (hb.mono HB0.out.size)); clear hb) | (go_at_call 25; refine (implStarts _ _ (zs.drop k) ps _ (HC.out.below HB.out (Nat.le_refl _)) (HU.out.below HB.out (Nat.le_refl _))).mono ?_; rintro e w2 ⟨rfl, hb⟩; rw [HO.out]; have HB2 := Lib.hid (HB.out.trans (hb.mono HB.out.size)); clear hb))
  all_goals
    go_ret2
    exact ⟨_, by rw [e1.out] <;> rfl, by rw [e1.out]; exact HO3.out, HB3.out⟩
set_option maxHeartbeats 2000000 in
theorem implReplaceFirst (v : Value) (zs : List Int) (u : Value) (ps : List Int) (t : Value) (bs : List Int) (w : World) (hv : Rd w v zs) (hu : Rd w u ps) (ht : Rd w t bs) :
    Calls Try.prog 8 #[v, u, t] w fun e w' => ∃ r, e = .returned (.tuple #[r, .int .i64 (rfR zs ps bs).2]) ∧ Ow w' w.heap.size w'.heap.size r (rfR zs ps bs).1 ∧ Below w.heap.size w w' := by
  have HV := Lib.hid hv
  have HU := Lib.hid hu
  have HT := Lib.hid ht
  have HL := Lib.hid (rdl_three hv hu ht)
  have HB0 := Lib.hid ((Below.refl w.heap.size w).alloc (Nat.le_refl _) (Obj.cells #[v, u, t] 24))
  obtain ⟨_, _, a, c, rfl, hcap, _⟩ := hv
  obtain ⟨_, _, a', c', rfl, _, _⟩ := hu
  obtain ⟨_, _, a2, c2, rfl, _, _⟩ := ht
  rcases eqOr (allB zs ps bs) with hn | hn
  · have HN : Hid (allW [zs, ps, bs] = false) := Lib.hid (by rw [allW_three]; exact hn)
    have e0 : Hid (rfR zs ps bs = ([], 1)) := Lib.hid (by simp [rfR, hn])
    clear hn
    go_enter Try.func8, Try.ntmps8
    go_wp2_with (go_at_call 22; refine (areWords_any _ [zs, ps, bs] _ HL.out).mono ?_; rintro e w1 ⟨rfl, hb⟩; rw [HN.out]; have HB := Lib.hid (HB0.out.trans (hb.mono HB0.out.size)); clear hb)
    go_ret2
    exact ⟨_, by rw [e0.out] <;> rfl, by rw [e0.out]; exact Ow.emptyUp HB.out.size, HB.out⟩
  have HN : Hid (allW [zs, ps, bs] = true) := Lib.hid (by rw [allW_three]; exact hn)
  have HALL := Lib.hid hn
  obtain ⟨hwz, hwp, hwb⟩ := allB_true hn
  have hzl := hwz.1
  have hpl := hwp.1
  have hbl := hwb.1
  clear hn hwz hwp hwb
  have HF := Lib.hid (findL_range zs ps 0)
  by_cases hneg : findL zs ps 0 < 0
  · have e0 : Hid (rfR zs ps bs = ([], 3)) := Lib.hid (by rw [rfR, if_neg (by rw [HALL.out]; simp), if_pos hneg])
    obtain ⟨q, hq⟩ : ∃ q, q = findL zs ps 0 := ⟨_, rfl⟩
    rw [← hq] at hneg
    have HQ := Lib.hid hq
    clear hq
    go_enter Try.func8, Try.ntmps8
    go_wp2_with (first | (go_at_call 22; refine (areWords_any _ [zs, ps, bs] _ HL.out).mono ?_; rintro e w1 ⟨rfl, hb⟩; rw [HN.out]; have HB := Lib.hid (HB0.out.trans (hb.mono HB0.out.size)); clear hb) | (go_at_call 23; refine (implFind _ _ zs ps 0 _ (HV.out.below HB.out (Nat.le_refl _)) (HU.out.below HB.out (Nat.le_refl _)) (by omega)).mono ?_; rintro e w2 ⟨rfl, hb⟩; rw [← HQ.out]; have HB2 := Lib.hid (HB.out.trans (hb.mono HB.out.size)); clear hb))
    go_ret2
    exact ⟨_, by rw [e0.out] <;> rfl, by rw [e0.out]; exact Ow.emptyUp HB2.out.size, HB2.out⟩
  obtain ⟨k, hk, hkl⟩ : ∃ k : Nat, findL zs ps 0 = k ∧ k + ps.length ≤ zs.length := by
    rcases HF.out with h | ⟨k, h, _, h2, h3⟩
    · omega
    · exact ⟨k, h, h2⟩
  have e1 : Hid (rfR zs ps bs = (rpL zs k ps.length bs, rpC zs k ps.length bs)) := Lib.hid (by
    rw [rfR, if_neg (by rw [HALL.out]; simp), if_neg hneg, hk, Int.toNat_natCast])
  have HK := Lib.hid hk
  clear hk hneg
  go_enter Try.func8, Try.ntmps8
  go_wp2_with (first | (go_at_call 24; refine (implReplace _ _ zs bs k ps.length _ (HV.out.below HB2.out (Nat.le_refl _)) (HT.out.below HB2.out (Nat.le_refl _)) hkl hzl hbl).mono ?_; rintro e w3 ⟨r, rfl, ho, hb⟩; have HB3 := Lib.hid (HB2.out.trans (hb.mono HB2.out.size)); have HO3 := Lib.hid (ho.mono HB2.out.size (Nat.le_refl _) (Nat.le_refl _)); clear ho hb) | (go_at_call 22; refine (areWords_any _ [zs, ps, bs] _ HL.out).mono ?_; rintro e w1 ⟨rfl, hb⟩; rw [HN.out]; have HB := Lib.hid (HB0.out.trans (hb.mono HB0.out.size)); clear hb) | (go_at_call 23; refine (implFind _ _ zs ps 0 _ (HV.out.below HB.out (Nat.le_refl _)) (HU.out.below HB.out (Nat.le_refl _)) (by omega)).mono ?_; rintro e w2 ⟨rfl, hb⟩; rw [HK.out]; have HB2 := Lib.hid (HB.out.trans (hb.mono HB.out.size)); clear hb))
  go_ret2
  exact ⟨_, by rw [e1.out] <;> rfl, by rw [e1.out]; exact HO3.out, HB3.out⟩
end Go.Proofs.Ytgfidlppocheoaa.Ints
