/- Contracts of ValuationOf, of the model and of the program. -/
import Derived.Test.YtoppaipiibaocaaDivBy
namespace Go.Proofs.Ytoppaipiibaocaa.Ints
open Go.RowKit
set_option linter.unusedVariables false

theorem div_fits {ps : List Int} (h : Can ps) {p : Int} (hp : 1 ≤ p) : Can (canOf (val ps / p)) ∧ val (canOf (val ps / p)) = val ps / p ∧ (canOf (val ps / p)).length ≤ ps.length := by
  have h0 := val_nonneg h.1
  obtain ⟨h1, h2⟩ := canOf_spec (Int.ediv_nonneg h0 (show 0 ≤ p by omega))
  refine ⟨h1, h2, can_len h1 ?_⟩
  rw [h2]
  have := Int.ediv_le_self p h0
  have := val_lt h.1
  omega
theorem vlF_step {f : Nat} {m p : Int} (h0 : 0 < m) (hf : m ≤ f) (h : m % p = 0) : ∃ g, f = g + 1 ∧ vlF f m p = vlF g (m / p) p + 1 := by
  cases f with
  | zero => simp at hf; omega
  | succ g => exact ⟨g, rfl, by rw [vlF, if_neg (by omega)]⟩
theorem vlF_stop {f : Nat} {m p : Int} (h : m % p ≠ 0) : vlF f m p = 0 := by
  cases f with
  | zero => rfl
  | succ g => rw [vlF, if_pos h]
/-- What is left when all factors p are taken. -/
def rsF : Nat → Int → Int → Int
  | 0, m, _ => m
  | f + 1, m, p => if m % p ≠ 0 then m else rsF f (m / p) p
theorem rsF_step {f : Nat} {m p : Int} (h0 : 0 < m) (hf : m ≤ f) (h : m % p = 0) : ∃ g, f = g + 1 ∧ vlF f m p = vlF g (m / p) p + 1 ∧ rsF f m p = rsF g (m / p) p := by
  cases f with
  | zero => simp at hf; omega
  | succ g => exact ⟨g, rfl, by rw [vlF, if_neg (by omega)], by rw [rsF, if_neg (by omega)]⟩
theorem rsF_stop {f : Nat} {m p : Int} (h : m % p ≠ 0) : rsF f m p = m := by
  cases f with
  | zero => rfl
  | succ g => rw [rsF, if_pos h]
noncomputable def rsN (ps : List Int) (p : Int) : Int := rsF (val ps).toNat (val ps) p
noncomputable def vlN (ps : List Int) (p : Int) : Nat := vlF (val ps).toNat (val ps) p
noncomputable def vlV (ps : List Int) (p : Int) : Int := if natB ps = true ∧ 0 < ps.length ∧ 2 ≤ p ∧ p ≤ 999999 then vlN ps p else 0
noncomputable def vlC (ps : List Int) (p : Int) : Int := if natB ps = true then (if 0 < ps.length ∧ 2 ≤ p ∧ p ≤ 999999 then 0 else 2) else 1
theorem vl_bad {ps : List Int} {p : Int} (h : natB ps = false) : vlV ps p = 0 ∧ vlC ps p = 1 := by simp [vlV, vlC, h]
theorem vl_range {ps : List Int} {p : Int} (h : natB ps = true) (k : ¬ (0 < ps.length ∧ 2 ≤ p ∧ p ≤ 999999)) : vlV ps p = 0 ∧ vlC ps p = 2 := by
  rw [vlV, vlC, if_neg (fun H => k H.2), if_pos h, if_neg k]; exact ⟨rfl, rfl⟩
theorem vl_good {ps : List Int} {p : Int} (h : natB ps = true) (k : 0 < ps.length ∧ 2 ≤ p ∧ p ≤ 999999) : vlV ps p = vlN ps p ∧ vlC ps p = 0 := by
  rw [vlV, vlC, if_pos ⟨h, k⟩, if_pos h, if_pos k]; exact ⟨rfl, rfl⟩

set_option maxHeartbeats 4000000 in
theorem specVlLoop (u : Value) (ps : List Int) (p : Int) (w : World) (hu : Rd w u ps) (hp : Can ps ∧ ps.length ≤ 40) (hl : 0 < ps.length) (p0 : 2 ≤ p) (p1 : p ≤ 999999) :
    Calls Try.prog 56 #[u, .int .i64 p] w fun e w' => e = .returned (.int .i64 (vlN ps p)) ∧ Below w.heap.size w w' := by
  have HU := Lib.hid hu
  have HP := Lib.hid hp
  have H0 := Lib.hid (val_pos hp.1 hl)
  obtain ⟨T, hT⟩ : ∃ T, T = vlN ps p := ⟨_, rfl⟩
  have HT : Hid (vlF (val ps).toNat (val ps) p = T) := Lib.hid hT.symm
  have HT8 : Hid (T < 800) := Lib.hid (by rw [hT]; exact vl_small hp.1 hp.2 hl _ p p0)
  rw [← hT]
  clear hu hp hT
  go_enter Try.func56, Try.ntmps56
  go_wp2
  go_loopw [0, 5] (fun n o wr => ∃ (k f : Nat) (xs : List Int) (nv : Value), n = nv ∧ o = .int .i64 k ∧ Rd wr nv xs ∧ Can xs ∧ xs.length ≤ 40 ∧ 0 < val xs ∧ val xs ≤ f ∧ k + vlF f (val xs) p = T ∧ Below w.heap.size w wr) (fun _ o _ => T + 1 - (intOf o).toNat)
  case atStart => exact ⟨0, (val ps).toNat, ps, _, rfl, rfl, HU.out, HP.out.1, HP.out.2, H0.out, by have := H0.out; omega, by rw [HT.out]; omega, Below.refl _ _⟩
  case round =>
    obtain ⟨k, f, xs, nv, hn, rfl, hr, hc, hl, h0, hf, hk, hb⟩ := hrel
    obtain rfl := hn.symm
    have HR := Lib.hid hr
    have HC := Lib.hid hc
    have HB := Lib.hid hb
    obtain ⟨m, hm⟩ : ∃ m, m = val xs := ⟨_, rfl⟩
    have HM := Lib.hid hm
    rw [← hm] at h0 hf hk
    have HK := Lib.hid hk
    clear hr hc hb hm hk
    go_wp2_with fail
    refine (specBy _ xs p _ HR.out HC.out.1 (by omega) (by omega) (by omega)).mono ?_
    rintro x w1 ⟨r, rfl, ho, hb⟩
    rw [← HM.out]
    have HO : Hid (Rd w1 r (canOf (m / p))) := Lib.hid (by rw [HM.out]; exact ho.rd)
    have HB2 := Lib.hid (HB.out.trans (hb.mono HB.out.size))
    obtain ⟨a2, c2, rfl⟩ := ho.slice
    obtain ⟨L, hL⟩ : ∃ L, L = (canOf (val xs / p)).length := ⟨_, rfl⟩
    rw [← hL] at HO ⊢
    clear ho hb hL
    obtain ⟨q, hq⟩ : ∃ q, q = m % p := ⟨_, rfl⟩
    rw [← hq]
    by_cases hz : q = 0
    · have hz1 : (q == 0) = true := by simp [hz]
      have hz2 : (q != 0) = false := by simp [hz]
      have HS : Hid (∃ g, f = g + 1 ∧ vlF f m p = vlF g (m / p) p + 1) := Lib.hid (vlF_step h0 hf (by omega))
      have HD : Hid (Can (canOf (m / p)) ∧ val (canOf (m / p)) = m / p ∧ (canOf (m / p)).length ≤ xs.length ∧ 0 < m / p ∧ m / p < m) := Lib.hid (by
        have h1 := HC.out
        have h2 := div_fits h1 (p := p) (by omega)
        rw [← HM.out] at h2
        exact ⟨h2.1, h2.2.1, h2.2.2, div_exact h0 (by omega) (by omega), (div_less h0 (by omega)).2.1⟩)
      have hk63 : (k : Int) ≤ 1000000000 := by have := HK.out; have := HT8.out; omega
      have hk64 : (0 : Int) ≤ (k : Int) := by omega
      clear hz hq
      go_wp2
      go_roundw
      case rel =>
        obtain ⟨g, hg, hs⟩ := HS.out
        exact ⟨k + 1, g, canOf (m / p), _, rfl, by first | rfl | go_num, HO.out, HD.out.1, by have := HD.out.2.2.1; omega, by rw [HD.out.2.1]; exact HD.out.2.2.2.1, by have := HD.out.2.2.2.2; rw [HD.out.2.1]; omega, by rw [HD.out.2.1]; have := HK.out; omega, HB2.out⟩
      case measure =>
        obtain ⟨g, hg, hs⟩ := HS.out
        have := HK.out
        simp [intOf]; omega
    · have hz1 : (q == 0) = false := by simp [hz]
      have hz2 : (q != 0) = true := by simp [hz]
      have HE : Hid ((k : Int) = (T : Int)) := Lib.hid (by
        have := HK.out
        rw [vlF_stop (by omega)] at this; omega)
      clear hz hq
      go_wp2
      go_ret
      exact ⟨by rw [← HE.out] <;> rfl, HB2.out⟩
set_option maxHeartbeats 4000000 in
theorem implTake (u : Value) (ps : List Int) (p : Int) (w : World) (hu : Rd w u ps) (hx : natB ps = true) (hl : 0 < ps.length) (p0 : 2 ≤ p) (p1 : p ≤ 999999) :
    Calls Try.prog 59 #[u, .int .i64 p] w fun e w' => ∃ r, e = .returned (.tuple #[.int .i64 (vlN ps p), r]) ∧ Rd w' r (canOf (rsN ps p)) ∧ Below w.heap.size w w' := by
  have HU := Lib.hid hu
  obtain ⟨a, c, rfl⟩ : ∃ a c, u = .slice a ps.length c := by obtain ⟨_, _, a, c, e, _⟩ := hu; exact ⟨a, c, e⟩
  have HP := Lib.hid (natB_can hx)
  obtain ⟨S, hS⟩ : ∃ S, S = rsN ps p := ⟨_, rfl⟩
  have HSS : Hid (rsF (val ps).toNat (val ps) p = S) := Lib.hid hS.symm
  have H0 := Lib.hid (val_pos (natB_can hx).1 hl)
  obtain ⟨T, hT⟩ : ∃ T, T = vlN ps p := ⟨_, rfl⟩
  have HT : Hid (vlF (val ps).toNat (val ps) p = T) := Lib.hid hT.symm
  have HT8 : Hid (T < 800) := Lib.hid (by rw [hT]; exact vl_small (natB_can hx).1 (natB_can hx).2 hl _ p p0)
  rw [← hT, ← hS]
  clear hu hx hT hS
  go_enter Try.func59, Try.ntmps59
  go_wp2
  go_loopw [0, 6] (fun n o wr => ∃ (k f : Nat) (xs : List Int) (nv : Value), n = nv ∧ o = .int .i64 k ∧ Rd wr nv xs ∧ Can xs ∧ xs.length ≤ 40 ∧ 0 < val xs ∧ val xs ≤ f ∧ k + vlF f (val xs) p = T ∧ rsF f (val xs) p = S ∧ Below w.heap.size w wr) (fun _ o _ => T + 1 - (intOf o).toNat)
  case atStart => exact ⟨0, (val ps).toNat, ps, _, rfl, rfl, HU.out, HP.out.1, HP.out.2, H0.out, by have := H0.out; omega, by rw [HT.out]; omega, HSS.out, Below.refl _ _⟩
  case round =>
    obtain ⟨k, f, xs, nv, hn, rfl, hr, hc, hl, h0, hf, hk, hks, hb⟩ := hrel
    obtain rfl := hn.symm
    have HR := Lib.hid hr
    have HC := Lib.hid hc
    have HB := Lib.hid hb
    obtain ⟨m, hm⟩ : ∃ m, m = val xs := ⟨_, rfl⟩
    have HM := Lib.hid hm
    rw [← hm] at h0 hf hk hks
    have HK := Lib.hid hk
    have HKS := Lib.hid hks
    obtain ⟨av, cv, hav⟩ : ∃ a c, nv = .slice a xs.length c := by obtain ⟨_, _, a, c, e, _⟩ := hr; exact ⟨a, c, e⟩
    have HAV := Lib.hid hav
    clear hr hc hb hm hk hks hav
    go_wp2_with fail
    refine (implBy _ xs p _ HR.out HC.out.1 (by omega) (by omega) (by omega)).mono ?_
    rintro x w1 ⟨r, rfl, ho, hb⟩
    rw [← HM.out]
    have HO : Hid (Rd w1 r (canOf (m / p))) := Lib.hid (by rw [HM.out]; exact ho.rd)
    have HB2 := Lib.hid (HB.out.trans (hb.mono HB.out.size))
    have HB3 := Lib.hid hb
    obtain ⟨a2, c2, rfl⟩ := ho.slice
    obtain ⟨L, hL⟩ : ∃ L, L = (canOf (val xs / p)).length := ⟨_, rfl⟩
    rw [← hL] at HO ⊢
    clear ho hb hL
    obtain ⟨q, hq⟩ : ∃ q, q = m % p := ⟨_, rfl⟩
    rw [← hq]
    by_cases hz : q = 0
    · have hz1 : (q == 0) = true := by simp [hz]
      have hz2 : (q != 0) = false := by simp [hz]
      have HS : Hid (∃ g, f = g + 1 ∧ vlF f m p = vlF g (m / p) p + 1 ∧ rsF f m p = rsF g (m / p) p) := Lib.hid (rsF_step h0 hf (by omega))
      have HD : Hid (Can (canOf (m / p)) ∧ val (canOf (m / p)) = m / p ∧ (canOf (m / p)).length ≤ xs.length ∧ 0 < m / p ∧ m / p < m) := Lib.hid (by
        have h1 := HC.out
        have h2 := div_fits h1 (p := p) (by omega)
        rw [← HM.out] at h2
        exact ⟨h2.1, h2.2.1, h2.2.2, div_exact h0 (by omega) (by omega), (div_less h0 (by omega)).2.1⟩)
      have hk63 : (k : Int) ≤ 1000000000 := by have := HK.out; have := HT8.out; omega
      have hk64 : (0 : Int) ≤ (k : Int) := by omega
      clear hz hq
      go_wp2
      go_roundw
      case rel =>
        obtain ⟨g, hg, hs, hs2⟩ := HS.out
        exact ⟨k + 1, g, canOf (m / p), _, rfl, by first | rfl | go_num, HO.out, HD.out.1, by have := HD.out.2.2.1; omega, by rw [HD.out.2.1]; exact HD.out.2.2.2.1, by have := HD.out.2.2.2.2; rw [HD.out.2.1]; omega, by rw [HD.out.2.1]; have := HK.out; omega, by rw [HD.out.2.1, ← hs2]; exact HKS.out, HB2.out⟩
      case measure =>
        obtain ⟨g, hg, hs, hs2⟩ := HS.out
        have := HK.out
        simp [intOf]; omega
    · have hz1 : (q == 0) = false := by simp [hz]
      have hz2 : (q != 0) = true := by simp [hz]
      have HE : Hid ((k : Int) = (T : Int)) := Lib.hid (by
        have := HK.out
        rw [vlF_stop (by omega)] at this; omega)
      have HF : Hid (canOf S = xs) := Lib.hid (by
        have := HKS.out
        rw [rsF_stop (by omega)] at this
        rw [← this, HM.out]; exact canOf_val HC.out)
      have HRR := Lib.hid (HR.out.below HB3.out (Nat.le_refl _))
      have hav := HAV.out
      clear hz hq HAV
      subst hav
      go_wp2
      go_ret2
      exact ⟨_, by rw [← HE.out] <;> rfl, by rw [HF.out]; exact HRR.out, HB2.out⟩
end Go.Proofs.Ytoppaipiibaocaa.Ints
