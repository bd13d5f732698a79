/- ExponentsAt, of the program. -/
import Derived.Test.YtmbojhlcmgknbaaEx1
namespace Go.Proofs.Ytmbojhlcmgknbaa.Ints
open Go.RowKit
open Math (NoDiv primeB primeB_true primeB_false)
set_option linter.unusedVariables false
set_option linter.unusedSimpArgs false
set_option maxHeartbeats 4000000 in
theorem implTakeO (u : Value) (ps : List Int) (p : Int) (B : Nat) (w : World) (hu : Ow w B w.heap.size u ps) (hx : natB ps = true) (hl : 0 < ps.length) (p0 : 2 ≤ p) (p1 : p ≤ 999999) :
    Calls Try.prog 21 #[u, .int .i64 p] w fun e w' => ∃ r, e = .returned (.tuple #[.int .i64 (vlN ps p), r]) ∧ Ow w' B w'.heap.size r (canOf (rsN ps p)) ∧ (r = u ∨ ∀ k, r.ownBlock = some k → w.heap.size ≤ k) ∧ Below w.heap.size w w' := by
  have HU := Lib.hid hu
  obtain ⟨a, c, rfl⟩ := hu.shape
  have HP := Lib.hid (natB_can hx)
  obtain ⟨S, hS⟩ : ∃ S, S = rsN ps p := ⟨_, rfl⟩
  have HSS : Hid (rsF (val ps).toNat (val ps) p = S) := Lib.hid hS.symm
  have H0 := Lib.hid (val_pos (natB_can hx).1 hl)
  obtain ⟨T, hT⟩ : ∃ T, T = vlN ps p := ⟨_, rfl⟩
  have HT : Hid (vlF (val ps).toNat (val ps) p = T) := Lib.hid hT.symm
  have HT8 : Hid (T < 800) := Lib.hid (by rw [hT]; exact vl_small (natB_can hx).1 (natB_can hx).2 hl _ p p0)
  rw [← hT, ← hS]
  clear hu hx hT hS
  go_enter Try.func21, Try.ntmps21
  go_wp2
  go_loopw [0, 6] (fun n o wr => ∃ (k f : Nat) (xs : List Int) (nv : Value), n = nv ∧ o = .int .i64 k ∧ Ow wr B wr.heap.size nv xs ∧ (nv = .slice a ps.length c ∨ ∀ k, nv.ownBlock = some k → w.heap.size ≤ k) ∧ Can xs ∧ xs.length ≤ 40 ∧ 0 < val xs ∧ val xs ≤ f ∧ k + vlF f (val xs) p = T ∧ rsF f (val xs) p = S ∧ Below w.heap.size w wr) (fun _ o _ => T + 1 - (intOf o).toNat)
  case atStart => exact ⟨0, (val ps).toNat, ps, _, rfl, rfl, HU.out, .inl rfl, HP.out.1, HP.out.2, H0.out, by have := H0.out; omega, by rw [HT.out]; omega, HSS.out, Below.refl _ _⟩
  case round =>
    obtain ⟨k, f, xs, nv, hn, rfl, hr, hwh, hc, hl, h0, hf, hk, hks, hb⟩ := hrel
    have HWH := Lib.hid hwh
    clear hwh
    obtain rfl := hn.symm
    have HR := Lib.hid hr
    have HC := Lib.hid hc
    have HB := Lib.hid hb
    obtain ⟨m, hm⟩ : ∃ m, m = val xs := ⟨_, rfl⟩
    have HM := Lib.hid hm
    rw [← hm] at h0 hf hk hks
    have HK := Lib.hid hk
    have HKS := Lib.hid hks
    obtain ⟨av, cv, hav⟩ := hr.shape
    have HAV := Lib.hid hav
    clear hr hc hb hm hk hks hav
    go_wp2_with fail
    refine (implBy _ xs p _ HR.out.rd HC.out.1 (by omega) (by omega) (by omega)).mono ?_
    rintro x w1 ⟨r, rfl, ho, hb⟩
    rw [← HM.out]
    have HO : Hid (Ow w1 B w1.heap.size r (canOf (m / p))) := Lib.hid (by rw [HM.out]; exact ho.mono (Nat.le_trans HR.out.base (Nat.le_refl _)) (Nat.le_refl _) (Nat.le_refl _))
    have HWN : Hid (∀ k, r.ownBlock = some k → w.heap.size ≤ k) := Lib.hid (fun k hk => Nat.le_trans HB.out.size (ho.row.lt k hk).1)
    have HB2 := Lib.hid (HB.out.trans (hb.mono HB.out.size))
    have HB3 := Lib.hid hb
    obtain ⟨a2, c2, rfl⟩ := ho.shape
    obtain ⟨L, hL⟩ : ∃ L, L = (canOf (val xs / p)).length := ⟨_, rfl⟩
    rw [← hL] at HO HWN ⊢
    clear ho hb hL
    obtain ⟨q, hq⟩ : ∃ q, q = m % p := ⟨_, rfl⟩
    rw [← hq]
    by_cases hz : q = 0
    · have hz1 : (q == 0) = true := by simp [hz]
      have hz2 : (q != 0) = false := by simp [hz]
      have HS : Hid (∃ g, f = g + 1 ∧ vlF f m p = vlF g (m / p) p + 1 ∧ rsF f m p = rsF g (m / p) p) := Lib.hid (rsF_step h0 hf (by omega))
      have HD : Hid (Can (canOf (m / p)) ∧ val (canOf (m / p)) = m / p ∧ (canOf (m / p)).length ≤ xs.length ∧ 0 < m / p ∧ m / p < m) := Lib.hid (by
        have h1 := HC.out
        have h2 := div_fits h1 (p := p) (by omega)
        rw [← HM.out] at h2
        exact ⟨h2.1, h2.2.1, h2.2.2, div_exact h0 (by omega) (by omega), (div_less h0 (by omega)).2.1⟩)
      have hk63 : (k : Int) ≤ 1000000000 := by have := HK.out; have := HT8.out; omega
      have hk64 : (0 : Int) ≤ (k : Int) := by omega
      clear hz hq
      go_wp2
      go_roundw
      case rel =>
        obtain ⟨g, hg, hs, hs2⟩ := HS.out
        exact ⟨k + 1, g, canOf (m / p), _, rfl, by first | rfl | go_num, HO.out, .inr HWN.out, HD.out.1, by have := HD.out.2.2.1; omega, by rw [HD.out.2.1]; exact HD.out.2.2.2.1, by have := HD.out.2.2.2.2; rw [HD.out.2.1]; omega, by rw [HD.out.2.1]; have := HK.out; omega, by rw [HD.out.2.1, ← hs2]; exact HKS.out, HB2.out⟩
      case measure =>
        obtain ⟨g, hg, hs, hs2⟩ := HS.out
        have := HK.out
        simp [intOf]; omega
    · have hz1 : (q == 0) = false := by simp [hz]
      have hz2 : (q != 0) = true := by simp [hz]
      have HE : Hid ((k : Int) = (T : Int)) := Lib.hid (by
        have := HK.out
        rw [vlF_stop (by omega)] at this; omega)
      have HF : Hid (canOf S = xs) := Lib.hid (by
        have := HKS.out
        rw [rsF_stop (by omega)] at this
        rw [← this, HM.out]; exact canOf_val HC.out)
      have HRR := Lib.hid ((HR.out.below HB3.out (Nat.le_refl _)).up)
      have HWQ := Lib.hid (show nv = .slice a ps.length c ∨ ∀ k, nv.ownBlock = some k → w.heap.size ≤ k from HWH.out)
      have hav := HAV.out
      clear hz hq HAV
      subst hav
      go_wp2
      go_ret2
      exact ⟨_, by rw [← HE.out] <;> rfl, by rw [HF.out]; exact HRR.out, HWQ.out, HB2.out⟩
open Classical in
noncomputable def fpB (p : Int) : Bool := decide (2 ≤ p ∧ p ≤ 999999 ∧ NoDiv p)
theorem closFp (p : Int) (w : World) : Calls Try.prog 19 #[.int .i64 p] w fun e w' => e = .returned (.bool (fpB p)) ∧ w = w' := by
  by_cases h1 : 1 ≤ p
  rotate_left
  · have HF : Hid (fpB p = false) := Lib.hid (by simp only [fpB, decide_eq_false_iff_not]; omega)
    have d1 : decide (1 ≤ p) = false := decide_eq_false h1
    go_enter Try.func19, Try.ntmps19
    go_wp2_with go_in
    go_ret
    exact ⟨by rw [HF.out] <;> rfl, rfl⟩
  by_cases h9 : p ≤ 999999
  rotate_left
  · have HF : Hid (fpB p = false) := Lib.hid (by simp only [fpB, decide_eq_false_iff_not]; omega)
    have d1 : decide (p ≤ 999999) = false := decide_eq_false h9
    go_enter Try.func19, Try.ntmps19
    go_wp2_with go_in
    go_ret
    exact ⟨by rw [HF.out] <;> rfl, rfl⟩
  by_cases h2 : 2 ≤ p
  rotate_left
  · have HF : Hid (fpB p = false) := Lib.hid (by simp only [fpB, decide_eq_false_iff_not]; omega)
    have d2 : p < 2 := by omega
    go_enter Try.func19, Try.ntmps19
    go_wp2_with go_in
    go_ret
    exact ⟨by rw [HF.out] <;> rfl, rfl⟩
  have HF : Hid (fpB p = primeB p) := Lib.hid (by
    by_cases hp : NoDiv p
    · rw [primeB_true hp]; simp only [fpB, decide_eq_true_eq]; exact ⟨h2, h9, hp⟩
    · rw [primeB_false hp]; simp only [fpB, decide_eq_false_iff_not]; exact fun q => hp q.2.2)
  go_enter Try.func19, Try.ntmps19
  go_wp2_with (first | (go_at_call 27; refine (Math.impl_prime p _ h2 (by omega)).mono ?_; rintro e w' ⟨rfl, rfl⟩) | go_in)
  go_ret
  exact ⟨by rw [HF.out] <;> rfl, rfl⟩
def AllF (zs : List Int) : Prop := ∀ i, i < zs.length → fpB (zs.getD i 0) = true
set_option maxHeartbeats 1000000 in
theorem eachFp (v : Value) (zs : List Int) (w : World) (h : Rd w v zs) (b : Bool) (hb : b = true ↔ AllF zs) :
    Calls Try.prog 18 #[.func (Fn.func 19) #[] #[], v] w fun e w' => e = .returned (.bool b) ∧ w = w' := by
  have HBB := Lib.hid hb
  clear hb
  obtain ⟨hl, hf, a, c, rfl, hcap, hr⟩ := h
  go_enter Try.func18, Try.ntmps18
  go_wp2
  go_loop [9] (fun s => ∃ k : Nat, k ≤ zs.length ∧ s = .int .i64 k ∧ ∀ i, i < k → fpB (zs.getD i 0) = true) (fun s => zs.length - (intOf s).toNat)
  case atStart => exact ⟨0, Nat.zero_le _, rfl, fun i hi => by omega⟩
  case round =>
    obtain ⟨k, hk, rfl, hall⟩ := hrel
    have HA := Lib.hid hall
    clear hall
    by_cases hlt : k < zs.length
    · obtain ⟨bb, o, rfl, hb, hcell⟩ := hr (by intro h0; rw [h0] at hlt; simp at hlt)
      have hc := hcell k hlt
      obtain ⟨x, hx⟩ : ∃ x, x = zs.getD k 0 := ⟨_, rfl⟩
      rw [← hx] at hc
      have HX := Lib.hid hx
      have i0 : (0 : Int) ≤ (k : Int) := by omega
      have i1 : (k : Int) < (zs.length : Int) := by omega
      clear hcell hr hx
      cases hw : fpB x with
      | true =>
        have HW := Lib.hid hw
        have HN : Hid (∀ i, i < k + 1 → fpB (zs.getD i 0) = true) := Lib.hid (fun i hi => by
          by_cases he : i = k
          · subst he; rw [← HX.out]; exact HW.out
          · exact HA.out i (by omega))
        clear hw
        go_wp2_with fail
        refine (closFp x _).mono ?_
        rintro e w2 ⟨rfl, rfl⟩
        rw [HW.out]
        go_wp2
        go_round
        case rel => exact ⟨k + 1, by omega, by go_num, HN.out⟩
        case measure => simp [intOf]; omega
      | false =>
        have HW := Lib.hid hw
        have HF : Hid (b = false) := Lib.hid (by
          cases hbb : b with
          | false => rfl
          | true => have h1 := HBB.out.1 hbb k hlt; rw [← HX.out, hw] at h1; cases h1)
        clear hw
        go_wp2_with fail
        refine (closFp x _).mono ?_
        rintro e w2 ⟨rfl, rfl⟩
        rw [HW.out]
        go_wp2
        go_ret
        exact ⟨by rw [HF.out] <;> rfl, rfl⟩
    · obtain rfl : k = zs.length := by omega
      have HF : Hid (b = true) := Lib.hid (HBB.out.2 HA.out)
      have hnlt : ¬ ((zs.length : Int) < (zs.length : Int)) := by omega
      go_wp2
      go_ret
      exact ⟨by rw [HF.out] <;> rfl, rfl⟩
set_option maxRecDepth 100000 in
set_option maxHeartbeats 8000000 in
theorem implExp (u : Value) (n : List Int) (v : Value) (ps : List Int) (w : World) (hu : Rd w u n) (hv : Rd w v ps) :
    Calls Try.prog 6 #[u, v] w fun e w' => ∃ r q, e = .returned (.tuple #[r, q, .int .i64 (exR n ps).2.2]) ∧ Ow w' w.heap.size w'.heap.size r (exR n ps).1 ∧ Ow w' w.heap.size w'.heap.size q (exR n ps).2.1 ∧ Sep r q ∧ Below w.heap.size w w' := by
  have HU := Lib.hid hu
  have HV := Lib.hid hv
  obtain ⟨a, c, rfl⟩ : ∃ a c, u = .slice a n.length c := by obtain ⟨_, _, a, c, e, _⟩ := hu; exact ⟨a, c, e⟩
  obtain ⟨_, _, a2, c2, rfl, hcap2, hr2⟩ := hv
  have HR2 := Lib.hid hr2
  clear hu hr2
  obtain ⟨i0, hi, hz0, hz1, hz2⟩ := info_parts infoE
  have HSE : Hid (Sep (.slice none 0 0) (.slice none 0 0)) := Lib.hid ⟨.inl rfl, .inl rfl⟩
  rcases eqOr (natB n) with hx | hx
  · have HX := Lib.hid hx
    have e0 : Hid (exR n ps = ([], [], 1)) := Lib.hid (by simp [exR, posB, hx])
    clear hx
    go_enter Try.func6, Try.ntmps6
    go_wp2_with (first | (go_at_call 25; refine (implNat _ n _ HU.out).mono ?_; rintro e w1 ⟨rfl, hb⟩; rw [HX.out]; have HB := Lib.hid hb; clear hb) | go_in)
    go_ret3
    exact ⟨_, _, by rw [e0.out] <;> rfl, by rw [e0.out]; exact Ow.emptyUp HB.out.size, by rw [e0.out]; exact Ow.emptyUp HB.out.size, HSE.out, HB.out⟩
  have HX := Lib.hid hx
  by_cases h0 : 0 < n.length
  rotate_left
  · have e0 : Hid (exR n ps = ([], [], 1)) := Lib.hid (by simp [exR, posB, h0])
    have h1 : ¬ (0 : Int) < (n.length : Int) := by omega
    clear hx
    go_enter Try.func6, Try.ntmps6
    go_wp2_with (first | (go_at_call 25; refine (implNat _ n _ HU.out).mono ?_; rintro e w1 ⟨rfl, hb⟩; rw [HX.out]; have HB := Lib.hid hb; clear hb) | go_in)
    go_ret3
    exact ⟨_, _, by rw [e0.out] <;> rfl, by rw [e0.out]; exact Ow.emptyUp HB.out.size, by rw [e0.out]; exact Ow.emptyUp HB.out.size, HSE.out, HB.out⟩
  have hpos : ¬ posB n = false := by simp [posB, hx, h0]
  have h1 : (0 : Int) < (n.length : Int) := by omega
  have HBAD : Hid (¬ ExOk ps → exR n ps = ([], [], 2)) := Lib.hid (fun h => by rw [exR, if_neg hpos, if_pos (exB_false h)])
  have HGOOD : Hid (ExOk ps → exR n ps = ((exS n ps ps.length).1, (exS n ps ps.length).2, 0)) := Lib.hid (fun h => by rw [exR, if_neg hpos, if_neg (by rw [exB_true h]; simp)])
  have HN := Lib.hid hx
  clear hx hpos
  by_cases h64 : ps.length ≤ 64
  rotate_left
  · have e0 := Lib.hid (HBAD.out fun h => h64 h.len)
    have h2 : (64 : Int) < (ps.length : Int) := by omega
    go_enter Try.func6, Try.ntmps6
    go_wp2_with (first | (go_at_call 25; refine (implNat _ n _ HU.out).mono ?_; rintro e w1 ⟨rfl, hb⟩; rw [HX.out]; have HB := Lib.hid hb; clear hb) | go_in)
    go_ret3
    exact ⟨_, _, by rw [e0.out] <;> rfl, by rw [e0.out]; exact Ow.emptyUp HB.out.size, by rw [e0.out]; exact Ow.emptyUp HB.out.size, HSE.out, HB.out⟩
  have h2 : ¬ (64 : Int) < (ps.length : Int) := by omega
  obtain ⟨ib, hib⟩ : ∃ ib : Bool, (ib = true ↔ Inc ps ps.length) := by
    by_cases h : Inc ps ps.length
    · exact ⟨true, fun _ => h, fun _ => rfl⟩
    · exact ⟨false, fun q => by (cases q), fun q => absurd q h⟩
  have HIB := Lib.hid hib
  clear hib
  rcases eqOr ib with hb0 | hb0
  · subst hb0
    have e0 := Lib.hid (HBAD.out fun h => by have := HIB.out.2 h.inc; cases this)
    go_enter Try.func6, Try.ntmps6
    go_wp2_with (first | (go_at_call 17; refine (implIsInc _ ps _ (HV.out.below HB.out (Nat.le_refl _)) false ⟨fun q => HIB.out.1 q, fun q => HIB.out.2 q⟩).mono ?_; rintro e w2 ⟨rfl, hb⟩; have HB2 := Lib.hid (HB.out.trans (hb.mono HB.out.size)); clear hb) | (go_at_call 25; refine (implNat _ n _ HU.out).mono ?_; rintro e w1 ⟨rfl, hb⟩; rw [HX.out]; have HB := Lib.hid hb; clear hb) | go_in)
    go_ret3
    exact ⟨_, _, by rw [e0.out] <;> rfl, by rw [e0.out]; exact Ow.emptyUp HB2.out.size, by rw [e0.out]; exact Ow.emptyUp HB2.out.size, HSE.out, HB2.out⟩
  subst hb0
  have HINC : Hid (Inc ps ps.length) := Lib.hid (HIB.out.1 rfl)
  obtain ⟨fb, hfb⟩ : ∃ fb : Bool, (fb = true ↔ AllF ps) := by
    by_cases h : AllF ps
    · exact ⟨true, fun _ => h, fun _ => rfl⟩
    · exact ⟨false, fun q => by (cases q), fun q => absurd q h⟩
  have HFB := Lib.hid hfb
  clear hfb
  have hfp : ∀ x, fpB x = true ↔ (2 ≤ x ∧ x ≤ 999999 ∧ NoDiv x) := fun x => by simp [fpB]
  rcases eqOr fb with hb0 | hb0
  · subst hb0
    have e0 := Lib.hid (HBAD.out fun h => by have := HFB.out.2 (fun i hi => (hfp _).2 ⟨(h.bd i hi).1, (h.bd i hi).2, h.pr i hi⟩); cases this)
    clear hfp
    go_enter Try.func6, Try.ntmps6
    go_wp2_with (first | (go_at_call 18; refine (eachFp _ ps _ (HV.out.below HB2.out (Nat.le_refl _)) false ⟨fun q => HFB.out.1 q, fun q => HFB.out.2 q⟩).mono ?_; rintro e w' ⟨rfl, rfl⟩) | (go_at_call 17; refine (implIsInc _ ps _ (HV.out.below HB.out (Nat.le_refl _)) true ⟨fun _ => HINC.out, fun _ => rfl⟩).mono ?_; rintro e w2 ⟨rfl, hb⟩; have HB2 := Lib.hid (HB.out.trans (hb.mono HB.out.size)); clear hb) | (go_at_call 25; refine (implNat _ n _ HU.out).mono ?_; rintro e w1 ⟨rfl, hb⟩; rw [HX.out]; have HB := Lib.hid hb; clear hb) | go_in)
    go_ret3
    exact ⟨_, _, by rw [e0.out] <;> rfl, by rw [e0.out]; exact Ow.emptyUp HB2.out.size, by rw [e0.out]; exact Ow.emptyUp HB2.out.size, HSE.out, HB2.out⟩
  subst hb0
  have HALL : Hid (AllF ps) := Lib.hid (HFB.out.1 rfl)
  have HOK : Hid (ExOk ps) := Lib.hid ⟨h64, HINC.out, fun i hi => ⟨((hfp _).1 (HALL.out i hi)).1, ((hfp _).1 (HALL.out i hi)).2.1⟩, fun i hi => ((hfp _).1 (HALL.out i hi)).2.2⟩
  have E := Lib.hid (HGOOD.out HOK.out)
  have HEX := Lib.hid (exS_ok HN.out h0 HOK.out.bd)
  clear hfp
  go_enter Try.func6, Try.ntmps6
  go_wp2_with (first | (go_at_call 20; fail) | (go_at_call 18; refine (eachFp _ ps _ (HV.out.below HB2.out (Nat.le_refl _)) true ⟨fun _ => HALL.out, fun _ => rfl⟩).mono ?_; rintro e w' ⟨rfl, rfl⟩) | (go_at_call 17; refine (implIsInc _ ps _ (HV.out.below HB.out (Nat.le_refl _)) true ⟨fun _ => HINC.out, fun _ => rfl⟩).mono ?_; rintro e w2 ⟨rfl, hb⟩; have HB2 := Lib.hid (HB.out.trans (hb.mono HB.out.size)); clear hb) | (go_at_call 25; refine (implNat _ n _ HU.out).mono ?_; rintro e w1 ⟨rfl, hb⟩; rw [HX.out]; have HB := Lib.hid hb; clear hb) | (go_at_call 16; go_in))
  refine (libClone _ n _ (HU.out.below HB2.out (Nat.le_refl _))).mono ?_
  rintro e w4 ⟨q0, rfl, ho4, hb4⟩
  have HB4 := Lib.hid (HB2.out.trans (hb4.mono HB2.out.size))
  have HR4 : Hid (Ow w4 w.heap.size w4.heap.size q0 n) := Lib.hid (ho4.mono HB2.out.size (Nat.le_refl _) (Nat.le_refl _))
  clear ho4 hb4
  go_wp2
  go_loopw [7, 8, 33] (fun o r s wr => ∃ (k : Nat) (ov rv : Value), o = ov ∧ r = rv ∧ k ≤ ps.length ∧ s = .int .i64 k ∧ Ow wr w.heap.size wr.heap.size ov (exS n ps k).1 ∧ Ow wr w.heap.size wr.heap.size rv (exS n ps k).2 ∧ Sep ov rv ∧ Below w.heap.size w wr) (fun _ _ s _ => ps.length - (intOf s).toNat)
  case atStart => exact ⟨0, _, _, rfl, rfl, Nat.zero_le _, rfl, Ow.emptyUp HB4.out.size, HR4.out, sep_of (T := 0) (B := 0) (fun k h => by cases h) (fun k h => ⟨Nat.zero_le _, (HR4.out.row.lt k h).2⟩) (Nat.le_refl _), HB4.out⟩
  case round =>
    obtain ⟨k, ov, rv, hov, hrv, hk, rfl, ho, hr, hs, hbel⟩ := hrel
    obtain rfl := hov.symm
    obtain rfl := hrv.symm
    have HO := Lib.hid ho
    have HR := Lib.hid hr
    have HS := Lib.hid hs
    have HBB := Lib.hid hbel
    clear ho hr hs
    by_cases hlt : k < ps.length
    · obtain ⟨b, o, rfl, hb, hcell⟩ := HR2.out (by intro q; rw [q] at hlt; simp at hlt)
      obtain ⟨p, hpe⟩ : ∃ x, x = ps.getD k 0 := ⟨_, rfl⟩
      have hc := (hbel.cell (p := ⟨b, o + k, none⟩) hb).trans (hcell k hlt)
      rw [← hpe] at hc
      have hbd := HOK.out.bd k hlt
      obtain ⟨hn1, hn2⟩ := HEX.out k (by omega)
      have hex : exS n ps (k + 1) = ((exS n ps k).1 ++ [((vlN (exS n ps k).2 p : Nat) : Int)], canOf (rsN (exS n ps k).2 p)) := by rw [hpe]; rfl
      have hxl := exS_len n ps k
      obtain ⟨A, hA⟩ : ∃ A, A = (exS n ps k).1 := ⟨_, rfl⟩
      obtain ⟨R, hR⟩ : ∃ R, R = (exS n ps k).2 := ⟨_, rfl⟩
      rw [← hR] at hn1 hn2 HR hex
      rw [← hA] at HO hex hxl
      rw [← hpe] at hbd
      have HEXS := Lib.hid hex
      have hT8 : vlN R p < 800 := vl_small (natB_can hn1).1 (natB_can hn1).2 hn2 _ p hbd.1
      have htk := implTakeO rv R p w.heap.size wr HR.out hn1 hn2 hbd.1 hbd.2
      obtain ⟨T, hT⟩ : ∃ T, T = vlN R p := ⟨_, rfl⟩
      obtain ⟨Q, hQ⟩ : ∃ Q, Q = canOf (rsN R p) := ⟨_, rfl⟩
      rw [← hT] at hT8 HEXS htk
      rw [← hQ] at HEXS htk
      have HTK := Lib.hid htk
      have j0 : (0 : Int) ≤ (k : Int) := by omega
      have j1 : (k : Int) < (ps.length : Int) := by omega
      clear hcell hpe hex hA hR hT hQ hn1 hn2 htk hbel
      go_wp2_with fail
      refine HTK.out.mono ?_
      rintro e w5 ⟨r5, rfl, ho5, hwh, hb5⟩
      have HB5 := Lib.hid (HBB.out.trans (hb5.mono HBB.out.size))
      have HO5 := Lib.hid ((HO.out.below hb5 (Nat.le_refl _)).up)
      have HR5 := Lib.hid ho5
      have HS5 : Hid (Sep ov r5) := Lib.hid (by
        rcases hwh with e5 | e5
        · rw [e5]; exact HS.out
        · exact sep_of HO.out.top (fun q hq => ⟨e5 q hq, (ho5.row.lt q hq).2⟩) (Nat.le_refl _))
      have hown5 := HO5.out.row.alloc (Obj.cells #[Value.int IntKind.i64 (T : Int)] 2)
      have hs5 := HB5.out.size
      clear hb5 ho5 hwh hc
      go_wp2_with (at_builtin; refine wpList_append_own_at _ rfl _ _ 22 rfl w.heap.size 2 i0 (.int .i64 0) 1 8 Try.underlying22 hi hz0 hz1 hz2 rfl (by decide) _ _ _ rfl hown5 ⟨_, 0, none⟩ 1 1 [.int .i64 (T : Int)] rfl rfl ?c1 ?c2 ?c3 ?c4 ?c5 ?_)
      try (case c1 => exact cellNew _ _ _)
      case c2 => first | exact oneCell _ | rfl
      case c3 => unfold maxLen; omega
      case c4 => omega
      case c5 => first | omega | (simp; omega)
      intro v' w9 hown9 hgrow _ hat
      obtain ⟨hr9, hs9⟩ := HO5.out.snocAt HR5.out HS5.out hgrow hat
      obtain ⟨ho9, hb9⟩ := HO5.out.snoc (by omega) (by omega) (by rw [hxl]; exact hown9) hgrow
      have HO9 : Hid (Ow w9 w.heap.size w9.heap.size v' (exS n ps (k + 1)).1) := Lib.hid (by rw [HEXS.out]; exact ho9)
      have HR9 : Hid (Ow w9 w.heap.size w9.heap.size r5 (exS n ps (k + 1)).2) := Lib.hid (by rw [HEXS.out]; exact hr9)
      have HS9 := Lib.hid hs9
      have HB9 := Lib.hid (HB5.out.trans hb9)
      clear hown9 hgrow hat hr9 hs9 ho9 hb9 hown5
      go_wp2
      go_roundw
      case rel => exact ⟨k + 1, _, _, rfl, rfl, by omega, by go_num, HO9.out, HR9.out, HS9.out, HB9.out⟩
      case measure => simp [intOf]; omega
    · obtain rfl : k = ps.length := by omega
      have hnlt : ¬ ((ps.length : Int) < (ps.length : Int)) := by omega
      clear hbel hlt
      go_wp2
      go_ret3
      exact ⟨_, _, by rw [E.out] <;> rfl, by rw [E.out]; exact HO.out, by rw [E.out]; exact HR.out, HS.out, HBB.out⟩
end Go.Proofs.Ytmbojhlcmgknbaa.Ints
