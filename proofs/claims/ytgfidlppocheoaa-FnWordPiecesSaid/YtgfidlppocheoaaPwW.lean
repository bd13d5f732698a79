/- PowerWord, of the model and of the program. -/
import Derived.Test.YtgfidlppocheoaaPw
import Derived.Test.YtgfidlppocheoaaWords
import Derived.Test.YtgfidlppocheoaaBord
namespace Go.Proofs.Ytgfidlppocheoaa.Ints
open Go.RowKit
set_option linter.unusedVariables false
set_option linter.unusedSimpArgs false
noncomputable def pwR (zs : List Int) (n : Int) : List Int × Int :=
  if wordB zs = false then ([], 1) else if ¬ (0 ≤ n ∧ n ≤ 400) then ([], 2) else if 400 < (zs.length : Int) * n then ([], 5) else (pwL zs n.toNat, 0)
theorem pwR_word {zs : List Int} {n : Int} (h : wordB zs = false) : pwR zs n = ([], 1) := by rw [pwR, if_pos h]
theorem pwR_range {zs : List Int} {n : Int} (h : wordB zs = true) (h2 : ¬ (0 ≤ n ∧ n ≤ 400)) : pwR zs n = ([], 2) := by rw [pwR, if_neg (by rw [h]; simp), if_pos h2]
theorem pwR_full {zs : List Int} {n : Int} (h : wordB zs = true) (h2 : 0 ≤ n ∧ n ≤ 400) (h3 : 400 < (zs.length : Int) * n) : pwR zs n = ([], 5) := by rw [pwR, if_neg (by rw [h]; simp), if_neg (by simp [h2]), if_pos h3]
theorem pwR_good {zs : List Int} {n : Int} (h : wordB zs = true) (h2 : 0 ≤ n ∧ n ≤ 400) (h3 : ¬ 400 < (zs.length : Int) * n) : pwR zs n = (pwL zs n.toNat, 0) := by rw [pwR, if_neg (by rw [h]; simp), if_neg (by simp [h2]), if_neg h3]
theorem pw_prod {a n : Int} (h0 : 0 ≤ a) (h1 : a ≤ 400) (h2 : 0 ≤ n) (h3 : n ≤ 400) : 0 ≤ a * n ∧ a * n ≤ 160000 := by
  have h4 : a * n ≤ a * 400 := Int.mul_le_mul_of_nonneg_left h3 h0
  have h5 : 0 ≤ a * n := Int.mul_nonneg h0 h2
  omega
set_option maxHeartbeats 2000000 in
theorem implPowerWord (v : Value) (zs : List Int) (n : Int) (w : World) (hv : Rd w v zs) :
    Calls Try.prog 14 #[v, .int .i64 n] w fun e w' => ∃ r, e = .returned (.tuple #[r, .int .i64 (pwR zs n).2]) ∧ Ow w' w.heap.size w'.heap.size r (pwR zs n).1 ∧ Below w.heap.size w w' := by
  have HV := Lib.hid hv
  obtain ⟨_, _, a, c, rfl, _, _⟩ := hv
  cases hn : wordB zs with
  | false =>
    have HN := Lib.hid hn
    have HF := Lib.hid (pwR_word (n := n) hn)
    clear hn
    go_enter Try.func14, Try.ntmps14
    go_wp2_with fail
    refine (implWord _ zs _ HV.out).mono ?_
    rintro e w1 ⟨rfl, hb⟩
    rw [HN.out]
    have HB := Lib.hid hb
    clear hb
    go_wp2
    go_ret2
    exact ⟨_, by rw [HF.out] <;> rfl, by rw [HF.out]; exact Ow.emptyUp HB.out.size, HB.out⟩
  | true =>
    have HN := Lib.hid hn
    have HW := wordB_iff hn
    have hlen := HW.1
    by_cases h0 : 0 ≤ n
    rotate_left
    · have HF := Lib.hid (pwR_range (n := n) hn (by omega))
      have g0 : n < 0 := by omega
      clear hn HW
      go_enter Try.func14, Try.ntmps14
      go_wp2_with fail
      refine (implWord _ zs _ HV.out).mono ?_
      rintro e w1 ⟨rfl, hb⟩
      rw [HN.out]
      have HB := Lib.hid hb
      clear hb
      go_wp2
      go_ret2
      exact ⟨_, by rw [HF.out] <;> rfl, by rw [HF.out]; exact Ow.emptyUp HB.out.size, HB.out⟩
    have g0 : ¬ n < 0 := by omega
    by_cases h1 : n ≤ 400
    rotate_left
    · have HF := Lib.hid (pwR_range (n := n) hn (by omega))
      have g1 : 400 < n := by omega
      clear hn HW
      go_enter Try.func14, Try.ntmps14
      go_wp2_with fail
      refine (implWord _ zs _ HV.out).mono ?_
      rintro e w1 ⟨rfl, hb⟩
      rw [HN.out]
      have HB := Lib.hid hb
      clear hb
      go_wp2
      go_ret2
      exact ⟨_, by rw [HF.out] <;> rfl, by rw [HF.out]; exact Ow.emptyUp HB.out.size, HB.out⟩
    have g1 : ¬ 400 < n := by omega
    obtain ⟨P, hP⟩ : ∃ P, P = (zs.length : Int) * n := ⟨_, rfl⟩
    have hp := pw_prod (a := (zs.length : Int)) (n := n) (by omega) (by omega) h0 h1
    have wp : IntKind.i64.wrap ((zs.length : Int) * n) = P := by rw [IntKind.wrap_i64, hP]; omega
    have HP := Lib.hid hP
    by_cases h2 : 400 < P
    · have HF := Lib.hid (pwR_full (n := n) hn ⟨h0, h1⟩ (by rw [← hP]; exact h2))
      clear hn HW hP
      go_enter Try.func14, Try.ntmps14
      go_wp2_with fail
      refine (implWord _ zs _ HV.out).mono ?_
      rintro e w1 ⟨rfl, hb⟩
      rw [HN.out]
      have HB := Lib.hid hb
      clear hb
      go_wp2
      go_ret2
      exact ⟨_, by rw [HF.out] <;> rfl, by rw [HF.out]; exact Ow.emptyUp HB.out.size, HB.out⟩
    have HF := Lib.hid (pwR_good (n := n) hn ⟨h0, h1⟩ (by rw [← hP]; exact h2))
    obtain ⟨m, rfl⟩ : ∃ m : Nat, n = (m : Int) := ⟨n.toNat, by omega⟩
    have HM : Hid (m * zs.length ≤ 400) := Lib.hid (by
      have : ((m * zs.length : Nat) : Int) = P := by rw [hP]; push_cast; rw [Int.mul_comm]
      omega)
    have HZ := Lib.hid hlen
    clear hn HW hP
    go_enter Try.func14, Try.ntmps14
    go_wp2_with fail
    refine (implWord _ zs _ HV.out).mono ?_
    rintro e w1 ⟨rfl, hb⟩
    rw [HN.out]
    have HB := Lib.hid hb
    clear hb
    go_wp2_with fail
    refine (libRepeat _ zs m _ (HV.out.below HB.out (Nat.le_refl _)) HZ.out (by omega) HM.out).mono ?_
    rintro e w2 ⟨u, rfl, ho, hb2⟩
    have HO : Hid (Ow w2 w.heap.size w2.heap.size u (pwL zs m)) := Lib.hid (ho.mono HB.out.size (Nat.le_refl _) (Nat.le_refl _))
    have HB2 := Lib.hid (HB.out.trans (hb2.mono HB.out.size))
    clear ho hb2
    go_wp2
    go_ret2
    exact ⟨_, by rw [HF.out] <;> rfl, by rw [HF.out]; exact HO.out, HB2.out⟩
set_option maxHeartbeats 2000000 in
theorem specPower (v : Value) (zs : List Int) (n : Nat) (w : World) (hv : Rd w v zs) (hz : zs.length ≤ 400) (hn : n ≤ 400) (hp : n * zs.length ≤ 400) :
    Calls Try.prog 36 #[v, .int .i64 (n : Int)] w fun e w' => ∃ u, e = .returned u ∧ Ow w' w.heap.size w'.heap.size u (pwL zs n) ∧ Below w.heap.size w w' := by
  have HV := Lib.hid hv
  obtain ⟨_, _, a, c, rfl, _, _⟩ := hv
  have HO0 := Lib.hid (Ow.made w)
  have HB0 : Hid (Below w.heap.size w (w.alloc (.cells #[] 2))) := Lib.hid ((Below.refl _ _).alloc (Nat.le_refl _) _)
  go_enter Try.func36, Try.ntmps36
  go_wp2
  go_loopw [1, 5] (fun q o wr => ∃ (j k : Nat) (ov : Value), q = .int .i64 j ∧ o = ov ∧ j + k = n ∧ Ow wr w.heap.size wr.heap.size ov (pwL zs k) ∧ Below w.heap.size w wr) (fun q _ _ => (intOf q).toNat)
  case atStart => exact ⟨n, 0, _, rfl, rfl, by omega, HO0.out, HB0.out⟩
  case round =>
    obtain ⟨j, k, ov, rfl, hov, hj, how, hbel⟩ := hrel
    obtain rfl := hov.symm
    have HO := Lib.hid how
    have HB := Lib.hid hbel
    have hlen : (pwL zs k).length ≤ 400 := by
      rw [pwL_len]
      exact Nat.le_trans (Nat.mul_le_mul_right _ (by omega)) hp
    obtain ⟨L, hL⟩ : ∃ L, L = pwL zs k := ⟨_, rfl⟩
    have HL := Lib.hid hL
    rw [← hL] at HO hlen
    obtain ⟨ga, gc, hu⟩ := HO.out.shape
    subst hu
    clear how hbel hL
    by_cases hp0 : 0 < j
    · have hp' : (0 : Int) < (j : Int) := by omega
      have hsz := HB.out.size
      go_wp2_with (at_builtin; refine wpList_append_rd rfl _ _ rfl w.heap.size _ _ L zs rfl HO.out.row rfl (HV.out.below HB.out (Nat.le_refl _)) (by omega) hsz ?_)
      intro v' w1 hown1 hgrow
      have HB1 := Lib.hid (HB.out.grown hgrow hsz (fun q hq => (HO.out.row.lt q hq).1))
      have HO1 : Hid (Ow w1 w.heap.size w1.heap.size v' (pwL zs (k + 1))) := Lib.hid (by
        rw [pwL, ← HL.out]
        exact ⟨by simp; omega, fun z hz => by
          rcases List.mem_append.1 hz with hz | hz
          · exact HO.out.fit z hz
          · exact HV.out.fit z hz, by rw [List.length_append, List.map_append]; exact (by simpa using hown1), fun k hk => (hown1.lt k hk).2, Nat.le_refl _, HB1.out.size⟩)
      clear hown1 hgrow
      go_wp2
      go_roundw
      case rel => exact ⟨j - 1, k + 1, v', by first | (go_num; omega) | go_num, rfl, by omega, HO1.out, HB1.out⟩
      case measure => simp [intOf]; omega
    · have hp' : ¬ (0 : Int) < (j : Int) := by omega
      obtain rfl : k = n := by omega
      go_wp2
      go_ret
      exact ⟨_, rfl, by rw [← HL.out]; exact HO.out, HB.out⟩
set_option maxHeartbeats 2000000 in
theorem specPowerWord (v : Value) (zs : List Int) (n : Int) (w : World) (hv : Rd w v zs) :
    Calls Try.prog 15 #[v, .int .i64 n] w fun e w' => ∃ r, e = .returned (.tuple #[r, .int .i64 (pwR zs n).2]) ∧ Ow w' w.heap.size w'.heap.size r (pwR zs n).1 ∧ Below w.heap.size w w' := by
  have HV := Lib.hid hv
  obtain ⟨_, _, a, c, rfl, _, _⟩ := hv
  cases hn : wordB zs with
  | false =>
    have HN := Lib.hid hn
    have HF := Lib.hid (pwR_word (n := n) hn)
    clear hn
    go_enter Try.func15, Try.ntmps15
    go_wp2_with fail
    refine (specWord _ zs _ HV.out).mono ?_
    rintro e w1 ⟨rfl, rfl⟩
    rw [HN.out]
    go_wp2
    go_ret2
    exact ⟨_, by rw [HF.out] <;> rfl, by rw [HF.out]; exact Ow.empty _, Below.refl _ _⟩
  | true =>
    have HN := Lib.hid hn
    have HW := wordB_iff hn
    have hlen := HW.1
    by_cases h0 : 0 ≤ n
    rotate_left
    · have HF := Lib.hid (pwR_range (n := n) hn (by omega))
      have d0 : decide (0 ≤ n) = false := decide_eq_false h0
      clear hn HW
      go_enter Try.func15, Try.ntmps15
      go_wp2_with fail
      refine (specWord _ zs _ HV.out).mono ?_
      rintro e w1 ⟨rfl, rfl⟩
      rw [HN.out]
      go_wp2_with go_in
      go_ret2
      exact ⟨_, by rw [HF.out] <;> rfl, by rw [HF.out]; exact Ow.empty _, Below.refl _ _⟩
    by_cases h1 : n ≤ 400
    rotate_left
    · have HF := Lib.hid (pwR_range (n := n) hn (by omega))
      have d1 : decide (n ≤ 400) = false := decide_eq_false h1
      clear hn HW
      go_enter Try.func15, Try.ntmps15
      go_wp2_with fail
      refine (specWord _ zs _ HV.out).mono ?_
      rintro e w1 ⟨rfl, rfl⟩
      rw [HN.out]
      go_wp2_with go_in
      go_ret2
      exact ⟨_, by rw [HF.out] <;> rfl, by rw [HF.out]; exact Ow.empty _, Below.refl _ _⟩
    obtain ⟨P, hP⟩ : ∃ P, P = (zs.length : Int) * n := ⟨_, rfl⟩
    have hp := pw_prod (a := (zs.length : Int)) (n := n) (by omega) (by omega) h0 h1
    have wp : IntKind.i64.wrap ((zs.length : Int) * n) = P := by rw [IntKind.wrap_i64, hP]; omega
    have HP := Lib.hid hP
    by_cases h2 : 400 < P
    · have HF := Lib.hid (pwR_full (n := n) hn ⟨h0, h1⟩ (by rw [← hP]; exact h2))
      clear hn HW hP
      go_enter Try.func15, Try.ntmps15
      go_wp2_with fail
      refine (specWord _ zs _ HV.out).mono ?_
      rintro e w1 ⟨rfl, rfl⟩
      rw [HN.out]
      go_wp2_with go_in
      go_ret2
      exact ⟨_, by rw [HF.out] <;> rfl, by rw [HF.out]; exact Ow.empty _, Below.refl _ _⟩
    have HF := Lib.hid (pwR_good (n := n) hn ⟨h0, h1⟩ (by rw [← hP]; exact h2))
    obtain ⟨m, rfl⟩ : ∃ m : Nat, n = (m : Int) := ⟨n.toNat, by omega⟩
    have HM : Hid (m * zs.length ≤ 400) := Lib.hid (by
      have : ((m * zs.length : Nat) : Int) = P := by rw [hP]; push_cast; rw [Int.mul_comm]
      omega)
    have HZ := Lib.hid hlen
    have hm4 : m ≤ 400 := by omega
    clear hn HW hP
    go_enter Try.func15, Try.ntmps15
    go_wp2_with fail
    refine (specWord _ zs _ HV.out).mono ?_
    rintro e w1 ⟨rfl, rfl⟩
    rw [HN.out]
    go_wp2_with (first | (go_at_call 36; refine (specPower _ zs m _ HV.out HZ.out hm4 HM.out).mono ?_; rintro e w2 ⟨u, rfl, ho, hb2⟩; have HO := Lib.hid ho; have HB2 := Lib.hid hb2; clear ho hb2) | go_in)
    go_ret2
    exact ⟨_, by rw [HF.out] <;> rfl, by rw [HF.out]; exact HO.out, HB2.out⟩
end Go.Proofs.Ytgfidlppocheoaa.Ints
