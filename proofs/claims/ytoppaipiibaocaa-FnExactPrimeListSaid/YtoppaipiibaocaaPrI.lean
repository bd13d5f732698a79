/- The first 24 primes, of the model and of the program. -/
import Derived.Test.YtoppaipiibaocaaPrA
import Derived.Test.YtoppaipiibaocaaIn
namespace Go.Proofs.Ytoppaipiibaocaa.Math
open Go.RowKit
open Go.Maps (Keyed int_keyed keyOf_int_mk)
set_option linter.unusedVariables false
set_option linter.unusedSimpArgs false
set_option maxHeartbeats 2000000 in
theorem specPrimeAt (k : Nat) (w : World) (hk : k < 24) :
    Calls Try.prog 48 #[.int .i64 k] w fun x w' => x = .returned (.int .i64 (prA k : Int)) ∧ w = w' := by
  go_enter Try.func48, Try.ntmps48
  go_wp2
  go_loop [0, 3] (fun x y => ∃ n j : Nat, 2 ≤ n ∧ n ≤ 89 ∧ piN n + j = k ∧ x = .int .i64 j ∧ y = .int .i64 n) (fun _ y => 90 - (intOf y).toNat)
  case atStart => exact ⟨2, k, by omega, by omega, by rw [piN_two]; omega, rfl, rfl⟩
  case round =>
    obtain ⟨n, j, h2, h89, hj, rfl, rfl⟩ := hrel
    obtain ⟨b, hb⟩ : ∃ b, b = isP n := ⟨_, rfl⟩
    have HB := Lib.hid hb
    have HP : Hid (primeB (n : Int) = b) := Lib.hid (by rw [hb]; exact primeB_isP h2 (by omega))
    have HJ := Lib.hid hj
    have hj23 : j ≤ 23 := by omega
    clear hb hj
    go_wp2_with fail
    refine (spec_prime (n : Int) _ (by omega) (by omega)).mono ?_
    rintro e w' ⟨rfl, rfl⟩
    rw [HP.out]
    cases b with
    | true =>
      by_cases hj0 : j = 0
      · subst hj0
        have HR : Hid (prA k = n) := Lib.hid (by rw [← HJ.out, Nat.add_zero]; exact prA_hit h2 h89 HB.out.symm)
        have hz : ((0 : Nat) : Int) = 0 := rfl
        go_wp2
        go_ret
        exact ⟨by rw [HR.out] <;> rfl, rfl⟩
      · have hz : ((j : Int) == 0) = false := by simp; omega
        have hp := piN_yes h2 HB.out.symm
        have HN : Hid (n + 1 ≤ 89) := Lib.hid (piN_end (by omega) (by omega) (by have := HJ.out; omega))
        have HP2 := Lib.hid hp
        clear hp
        go_wp2
        go_round
        case rel => exact ⟨n + 1, j - 1, by omega, HN.out, by rw [HP2.out]; have := HJ.out; omega, by go_num, by go_num⟩
        case measure => simp [intOf]; omega
    | false =>
      have HP2 := Lib.hid (piN_no HB.out.symm)
      have HN : Hid (n + 1 ≤ 89) := Lib.hid (piN_end (by omega) (by omega) (by rw [HP2.out]; have := HJ.out; omega))
      go_wp2
      go_round
      case rel => exact ⟨n + 1, j, by omega, HN.out, by rw [HP2.out]; exact HJ.out, rfl, by go_num⟩
      case measure => simp [intOf]; omega
theorem primeAt_no (k : Int) (w : World) (h : ¬ (0 ≤ k ∧ k ≤ 23)) :
    Calls Try.prog 11 #[.int .i64 k] w fun x w' => x = .returned (.tuple #[.int .i64 0, .int .i64 2]) ∧ w = w' := by
  go_enter Try.func11, Try.ntmps11
  go_wp2_with fail
  refine (Ints.specInB k 0 23 false _ ⟨fun h' => (by cases h'), fun h' => absurd h' h⟩).mono ?_
  rintro e w' ⟨rfl, rfl⟩
  go_wp2
  go_ret2
  exact ⟨rfl, rfl⟩
theorem primeAt_yes (k : Nat) (w : World) (h : k < 24) :
    Calls Try.prog 11 #[.int .i64 k] w fun x w' => x = .returned (.tuple #[.int .i64 (prA k : Int), .int .i64 0]) ∧ w = w' := by
  go_enter Try.func11, Try.ntmps11
  go_wp2_with fail
  refine (Ints.specInB (k : Int) 0 23 true _ ⟨fun _ => ⟨by omega, by omega⟩, fun _ => rfl⟩).mono ?_
  rintro e w' ⟨rfl, rfl⟩
  go_wp2_with fail
  refine (specPrimeAt k _ h).mono ?_
  rintro e w' ⟨rfl, rfl⟩
  go_wp2
  go_ret2
  exact ⟨rfl, rfl⟩
theorem implPrimeAt_no (k : Int) (w : World) (h : ¬ (0 ≤ k ∧ k ≤ 23)) :
    Calls Try.prog 12 #[.int .i64 k] w fun x w' => x = .returned (.tuple #[.int .i64 0, .int .i64 2]) ∧ w = w' := by
  by_cases h0 : k < 0
  · go_enter Try.func12, Try.ntmps12
    go_wp2
    go_ret2
    exact ⟨rfl, rfl⟩
  · have h1 : (24 : Int) ≤ k := by omega
    go_enter Try.func12, Try.ntmps12
    go_wp2
    go_ret2
    exact ⟨rfl, rfl⟩
theorem keyed : Keyed Try.prog 2 := int_keyed Try.underlying2
theorem zeroB (w : World) : (zeroValue 4).run Try.prog w = .ok (.bool false) w := by kernel_rfl
theorem mapT : Try.prog.underlying 68 = some (.map 2 4) := by kernel_rfl
theorem boolT : Try.prog.underlying 4 = some .bool := by kernel_rfl
theorem wfN {n : Nat} (h : n ≤ 100000) : (Lit.int .i64 (n : Int)).wf = true := by apply WalkArith.wf_i64 <;> omega
set_option maxHeartbeats 8000000 in
theorem implPrimeAt (k : Nat) (w : World) (hk : k < 24) :
    Calls Try.prog 12 #[.int .i64 k] w fun x w' => x = .returned (.tuple #[.int .i64 (prA k : Int), .int .i64 0]) ∧ Below w.heap.size w w' := by
  have hmm := @run_makeMap Try.prog
  have t0 : ¬ (k : Int) < 0 := by omega
  have t1 : ¬ (24 : Int) ≤ (k : Int) := by omega
  go_enter Try.func12, Try.ntmps12
  go_wp2
  go_loopw [5, 6] (fun x y wr => ∃ (n j c : Nat) (D : DataW Unit), 2 ≤ n ∧ n ≤ 89 ∧ piN n = j ∧ j ≤ k ∧ x = .int .i64 j ∧ y = .int .i64 n ∧ c ≤ 200 * n ∧ wr.ownsMap Try.prog 2 (plainElem Try.prog 4) w.heap.size c D ∧ Crs D (crO n) ∧ Below w.heap.size w wr) (fun _ y _ => 90 - (intOf y).toNat)
  case atStart => exact ⟨2, 0, 0, _, by omega, by omega, piN_two, Nat.zero_le _, rfl, rfl, Nat.zero_le _, World.ownsMap_made _ _ _ _, Crs.start.same (fun m _ => crO_start m), (Below.refl _ _).alloc (Nat.le_refl _) _⟩
  case round =>
    obtain ⟨n, j, c, D, h2, h89, hp, hjk, rfl, rfl, hc, hown, hcr, hbel⟩ := hrel
    obtain ⟨b, hb⟩ : ∃ b, b = isP n := ⟨_, rfl⟩
    have HB := Lib.hid hb
    have HO := Lib.hid hown
    have HC := Lib.hid hcr
    have HW := Lib.hid hbel
    have HPi := Lib.hid hp
    have HAt : Hid (D.atKey (.int .i64 (n : Int)) (.lit (.bool false)) = .lit (.bool (!b))) := Lib.hid (by rw [hcr.2 n h89, crO_self h2 h89, hb])
    clear hown hcr hbel hp hb
    cases b with
    | false =>
      have HP2 := Lib.hid (piN_no HB.out.symm)
      have HN : Hid (n + 1 ≤ 89) := Lib.hid (piN_end (by omega) (by omega) (by rw [HP2.out, HPi.out]; omega))
      go_wp2_with (first | (at_lookup; refine wpList_lookup_own_bool _ rfl _ _ 68 rfl 2 4 keyed mapT boolT (zeroB _) w.heap.size c D rfl HO.out _ _ rfl (keyOf_int_mk Try.underlying2 (wfN (by omega))) true HAt.out ?_) | go_in)
      go_roundw
      case rel => exact ⟨n + 1, j, c, D, by omega, HN.out, by rw [HP2.out]; exact HPi.out, hjk, rfl, by go_num, by omega, HO.out, HC.out.same (fun m hm => crO_no h2 HB.out.symm h89 hm), HW.out⟩
      case measure => simp [intOf]; omega
    | true =>
      by_cases hj : j = k
      · subst hj
        have HR : Hid (prA j = n) := Lib.hid (by rw [← HPi.out]; exact prA_hit h2 h89 HB.out.symm)
        have hee : ((j : Int) == (j : Int)) = true := by simp
        go_wp2_with (first | (at_lookup; refine wpList_lookup_own_bool _ rfl _ _ 68 rfl 2 4 keyed mapT boolT (zeroB _) w.heap.size c D rfl HO.out _ _ rfl (keyOf_int_mk Try.underlying2 (wfN (by omega))) false HAt.out ?_) | go_in)
        go_ret2
        exact ⟨by rw [HR.out] <;> rfl, HW.out⟩
      · have hee : ((j : Int) == (k : Int)) = false := by simp; omega
        have HP2 := Lib.hid (piN_yes h2 HB.out.symm)
        have HN : Hid (n + 1 ≤ 89) := Lib.hid (piN_end (by omega) (by omega) (by rw [HP2.out, HPi.out]; omega))
        have hnn : (n : Int) * (n : Int) = ((n * n : Nat) : Int) := by simp
        have hn0 : n * n ≤ 89 * 89 := Nat.mul_le_mul h89 h89
        obtain ⟨q0, hq0⟩ : ∃ q0, q0 = n * n := ⟨_, rfl⟩
        rw [← hq0] at hnn hn0
        have HQ := Lib.hid hq0
        clear hq0
        go_wp2_with (first | (at_lookup; refine wpList_lookup_own_bool _ rfl _ _ 68 rfl 2 4 keyed mapT boolT (zeroB _) w.heap.size c D rfl HO.out _ _ rfl (keyOf_int_mk Try.underlying2 (wfN (by omega))) false HAt.out ?_) | go_in)
        go_loopw [7] (fun x wr => ∃ (q c2 : Nat) (D2 : DataW Unit), q0 ≤ q ∧ q ≤ 9000 ∧ q % n = 0 ∧ x = .int .i64 q ∧ c2 ≤ c + (q - q0) ∧ (q0 < q → q ≤ 89 + n) ∧ wr.ownsMap Try.prog 2 (plainElem Try.prog 4) w.heap.size c2 D2 ∧ Crs D2 (crU n q) ∧ Below w.heap.size w wr) (fun x _ => 9100 - (intOf x).toNat)
        case atStart => exact ⟨q0, c, D, Nat.le_refl _, by omega, by rw [HQ.out]; exact Nat.mul_mod_right _ _, by go_num, by omega, fun h => by omega, HO.out, HC.out.same (fun m hm => by rw [HQ.out]; exact crU_start n m), HW.out⟩
        case round =>
          obtain ⟨q, c2, D2, g0, g1, g2, rfl, g3, g4, hown2, hcr2, hbel2⟩ := hrel
          have HO2 := Lib.hid hown2
          have HC2 := Lib.hid hcr2
          have HW2 := Lib.hid hbel2
          have HG4 := Lib.hid g4
          have HG2 := Lib.hid g2
          clear hown2 hcr2 hbel2 g4 g2
          by_cases hq : q ≤ 89
          · have hqi : (q : Int) ≤ 89 := by omega
            go_wp2_with (first | (at_mapUpdate; refine wpList_mapUpdate_own _ rfl _ _ _ 68 rfl 2 4 keyed mapT _ w.heap.size c2 D2 rfl HO2.out (by unfold maxLen; omega) _ _ _ rfl rfl (keyOf_int_mk Try.underlying2 (wfN (n := q) (by omega))) _ [] (plainElem_bool boolT true) ?_) | fail)
            intro w3 hown3 hgrow3
            have HO3 := Lib.hid hown3
            have HW3 := Lib.hid (HW2.out.grown hgrow3 HW2.out.size (fun j hj => by cases hj; exact Nat.le_refl _))
            clear hown3 hgrow3
            go_wp2
            go_roundw
            case rel => exact ⟨q + n, c2 + 1, _, by omega, by omega, by rw [Nat.add_mod_right]; exact HG2.out, by go_num, by omega, fun h => by omega, HO3.out, HC2.out.put q (fun m hm => crU_step h2 HG2.out (by rw [← HQ.out]; exact g0)), HW3.out⟩
            case measure => simp [intOf]; omega
          · have hqi : ¬ (q : Int) ≤ 89 := by omega
            go_wp2
            go_roundw
            case rel => exact ⟨n + 1, j + 1, c2, D2, by omega, HN.out, by rw [HP2.out, HPi.out], by omega, by go_num, by go_num, by (have := HG4.out; omega), HO2.out, HC2.out.same (fun m hm => (crU_end h2 HB.out.symm h89 hm (by omega)).symm), HW2.out⟩
            case measure => simp [intOf]; omega
/-- What PrimeAt answers. -/
def paV (k : Int) : Int := if 0 ≤ k ∧ k ≤ 23 then (prA k.toNat : Int) else 0
def paC (k : Int) : Int := if 0 ≤ k ∧ k ≤ 23 then 0 else 2
theorem pa_yes {k : Nat} (h : k < 24) : paV (k : Int) = (prA k : Int) ∧ paC (k : Int) = 0 := by
  have hc : 0 ≤ (k : Int) ∧ (k : Int) ≤ 23 := by omega
  unfold paV paC
  rw [if_pos hc, if_pos hc]
  exact ⟨by simp, rfl⟩
theorem pa_no {k : Int} (h : ¬ (0 ≤ k ∧ k ≤ 23)) : paV k = 0 ∧ paC k = 2 := ⟨if_neg h, if_neg h⟩
theorem specPA (k : Int) (w : World) : Calls Try.prog 11 #[.int .i64 k] w fun e w' => e = .returned (.tuple #[.int .i64 (paV k), .int .i64 (paC k)]) ∧ Below w.heap.size w w' := by
  by_cases h : 0 ≤ k ∧ k ≤ 23
  · obtain ⟨n, rfl⟩ : ∃ n : Nat, k = n := ⟨k.toNat, by omega⟩
    rw [(pa_yes (k := n) (by omega)).1, (pa_yes (k := n) (by omega)).2]
    refine (primeAt_yes n w (by omega)).mono ?_
    rintro e w' ⟨rfl, rfl⟩
    exact ⟨rfl, Below.refl _ _⟩
  · rw [(pa_no h).1, (pa_no h).2]
    refine (primeAt_no k w h).mono ?_
    rintro e w' ⟨rfl, rfl⟩
    exact ⟨rfl, Below.refl _ _⟩
theorem implPA (k : Int) (w : World) : Calls Try.prog 12 #[.int .i64 k] w fun e w' => e = .returned (.tuple #[.int .i64 (paV k), .int .i64 (paC k)]) ∧ Below w.heap.size w w' := by
  by_cases h : 0 ≤ k ∧ k ≤ 23
  · obtain ⟨n, rfl⟩ : ∃ n : Nat, k = n := ⟨k.toNat, by omega⟩
    rw [(pa_yes (k := n) (by omega)).1, (pa_yes (k := n) (by omega)).2]
    exact implPrimeAt n w (by omega)
  · rw [(pa_no h).1, (pa_no h).2]
    refine (implPrimeAt_no k w h).mono ?_
    rintro e w' ⟨rfl, rfl⟩
    exact ⟨rfl, Below.refl _ _⟩
end Go.Proofs.Ytoppaipiibaocaa.Math
