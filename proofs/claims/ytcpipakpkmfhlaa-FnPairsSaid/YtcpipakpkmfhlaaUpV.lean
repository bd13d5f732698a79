/- Contracts of UnpairOf, of the model and of the program. -/
import Derived.Test.YtcpipakpkmfhlaaRtI
import Derived.Test.YtcpipakpkmfhlaaPair
import Derived.Test.YtcpipakpkmfhlaaVsub
namespace Go.Proofs.Ytcpipakpkmfhlaa.Ints
open Go.RowKit
set_option linter.unusedVariables false
set_option linter.unusedSimpArgs false
/-- The sum of a number's pair, and the pair. -/
noncomputable def unT (N : Int) : Int := (isq (N * 8 + 1) - 1) / 2
noncomputable def unB (N : Int) : Int := N - triV (unT N)
noncomputable def unA (N : Int) : Int := unT N - unB N
theorem tri_two {t : Int} (h : 0 ≤ t) : 2 * triV t = t * t + t := by
  unfold triV
  have e : t * (t + 1) = t * t + t := by rw [Int.mul_add, Int.mul_one]
  have h2 : (t * (t + 1)) % 2 = 0 := by
    rcases Int.emod_two_eq t with h0 | h0
    · rw [Int.mul_emod, h0, Int.zero_mul]; rfl
    · rw [Int.mul_emod, show (t + 1) % 2 = 0 by omega, Int.mul_zero]; rfl
  rw [← e]
  omega
theorem un_spec {N : Int} (h : 0 ≤ N) : 1 ≤ isq (N * 8 + 1) ∧ 0 ≤ unT N ∧ triV (unT N) ≤ N ∧ 0 ≤ unB N ∧ unB N ≤ unT N ∧ isq (N * 8 + 1) ≤ N * 8 + 1 ∧ unT N ≤ isq (N * 8 + 1) := by
  have h1 := isq_pos (N := N * 8 + 1) (by omega)
  obtain ⟨_, s1, s2⟩ := isq_spec (N := N * 8 + 1) (by omega)
  obtain ⟨R, hR⟩ : ∃ R, R = isq (N * 8 + 1) := ⟨_, rfl⟩
  have hT : unT N = (R - 1) / 2 := by rw [unT, hR]
  rw [← hR] at h1 s1 s2 ⊢
  obtain ⟨t, ht⟩ : ∃ t, t = unT N := ⟨_, rfl⟩
  rw [← ht] at hT ⊢
  have t0 : 0 ≤ t := by omega
  have e := tri_two t0
  have a1 : (2 * t + 1) * (2 * t + 1) ≤ R * R := sq_le (by omega) (by omega)
  have a2 : (R + 1) * (R + 1) ≤ (2 * t + 3) * (2 * t + 3) := sq_le (by omega) (by omega)
  have e1 : (2 * t + 1) * (2 * t + 1) = 4 * (t * t) + 4 * t + 1 := by
    rw [Int.add_mul, Int.mul_add, Int.mul_one, Int.one_mul, show 2 * t * (2 * t) = 4 * (t * t) by rw [Int.mul_assoc, Int.mul_left_comm t 2 t, ← Int.mul_assoc 2 2]; rfl]
    omega
  have e2 : (2 * t + 3) * (2 * t + 3) = 4 * (t * t) + 12 * t + 9 := by
    rw [Int.add_mul, Int.mul_add, Int.mul_add, show 2 * t * (2 * t) = 4 * (t * t) by rw [Int.mul_assoc, Int.mul_left_comm t 2 t, ← Int.mul_assoc 2 2]; rfl]
    omega
  have e3 : R ≤ R * R := by
    have := Int.mul_le_mul_of_nonneg_left (a := 1) (b := R) (c := R) (by omega) (by omega)
    omega
  have hb : unB N = N - triV t := by rw [unB, ← ht]
  rw [hb]
  refine ⟨h1, t0, by omega, by omega, by omega, by omega, by omega⟩
theorem nn_un {N : Int} (h : Nn 40 N) : Nn 41 (N * 8) ∧ Nn 42 (N * 8 + 1) ∧ Nn 42 (isq (N * 8 + 1)) ∧ Nn 42 (isq (N * 8 + 1) - 1) ∧ Nn 42 (unT N) ∧ Nn 40 (triV (unT N)) ∧ Nn 40 (unB N) ∧ Nn 42 (unA N) := by
  obtain ⟨s1, s2, s3, s4, s5, s6, s7⟩ := un_spec h.nn
  have n1 := h.mul (nn_small (a := 8) (by omega) (by omega))
  have n2 := n1.add ((nn_small (a := 1) (by omega) (by omega)).up (show 1 ≤ 40 + 1 by omega))
  have hN := h.lt
  have h2 := n2.lt
  have hA : unA N = unT N - unB N := rfl
  have hB : unB N = N - triV (unT N) := rfl
  have h2' : N * 8 + 1 < Pw 42 := h2
  have t0 : 0 ≤ triV (unT N) := by
    have := tri_two s2
    have := Int.mul_nonneg s2 s2
    omega
  refine ⟨n1, n2, ⟨by omega, by omega⟩, ⟨by omega, by omega⟩, ⟨by omega, by omega⟩, ⟨t0, by omega⟩, ⟨by omega, by omega⟩, ⟨by omega, by omega⟩⟩
theorem eight_can : canOf 8 = [8] := digit_can (by omega) (by omega)
set_option maxHeartbeats 2000000 in
theorem iUnpair (u : Value) (N : Int) (w : World) (hu : Rd w u (canOf N)) (hN : Nn 40 N) :
    Calls Try.prog 20 #[u] w fun e w' => ∃ r0 r1, e = .returned (.tuple #[r0, r1]) ∧ Ow w' w.heap.size w'.heap.size r0 (canOf (unA N)) ∧ Ow w' w.heap.size w'.heap.size r1 (canOf (unB N)) ∧ Sep r0 r1 ∧ Below w.heap.size w w' := by
  have HU := Lib.hid hu
  have HN := Lib.hid hN
  have HS := Lib.hid (un_spec hN.nn)
  have HM := Lib.hid (nn_un hN)
  clear hu hN
  go_enter Try.func20, Try.ntmps20
  go_wp2_with fail
  refine (iMbs _ N 8 1 40 _ HU.out HN.out (by omega) (by omega) (by omega) (by omega) (by omega)).mono ?_
  rintro e w1 ⟨r1, rfl, ho, hb⟩
  have X1 := Lib.hid ho
  have B1 := Lib.hid hb
  clear ho hb
  go_wp2_with fail
  refine (implRt _ (canOf (N * 8 + 1)) _ X1.out.rd HM.out.2.1.can.1 (by have := HM.out.2.1.can.2.2; omega)).mono ?_
  rintro e w2 ⟨r2, rfl, ho, hb⟩
  rw [HM.out.2.1.can.2.1] at ho
  have X2 := Lib.hid ho
  have B2 := Lib.hid (B1.out.trans (hb.mono B1.out.size))
  clear ho hb
  go_wp2_with fail
  refine (iLess _ _ 42 _ X2.out.rd HM.out.2.2.1 (by omega) (by omega) HS.out.1).mono ?_
  rintro e w3 ⟨r3, rfl, ho, hb⟩
  have X3 := Lib.hid ho
  have B3 := Lib.hid (B2.out.trans (hb.mono B2.out.size))
  clear ho hb
  go_wp2_with fail
  refine (iBy _ _ 2 42 _ X3.out.rd HM.out.2.2.2.1 (by omega) (by omega) (by omega)).mono ?_
  rintro e w4 ⟨r4, rfl, ho, hb⟩
  have X4 : Hid (Ow w4 w3.heap.size w4.heap.size r4 (canOf (unT N))) := Lib.hid ho
  have B4 := Lib.hid (B3.out.trans (hb.mono B3.out.size))
  clear ho hb
  go_wp2_with fail
  refine (iTri _ (unT N) 42 _ X4.out.rd HM.out.2.2.2.2.1 (by omega) (by omega)).mono ?_
  rintro e w5 ⟨r5, rfl, ho, hb⟩
  have X5 := Lib.hid ho
  have X4b := Lib.hid ((X4.out.below hb X4.out.size).up)
  have B5 := Lib.hid (B4.out.trans (hb.mono B4.out.size))
  clear ho hb
  go_wp2_with fail
  refine (iSub _ _ N (triV (unT N)) 40 _ (HU.out.below B5.out (Nat.le_refl _)) X5.out.rd HN.out HM.out.2.2.2.2.2.1 (by omega) HS.out.2.2.1).mono ?_
  rintro e w6 ⟨r6, rfl, ho, hb⟩
  have X6 : Hid (Ow w6 w5.heap.size w6.heap.size r6 (canOf (unB N))) := Lib.hid ho
  have X4c := Lib.hid ((X4b.out.below hb X4b.out.size).up)
  have B6 := Lib.hid (B5.out.trans (hb.mono B5.out.size))
  clear ho hb
  go_wp2_with fail
  refine (iSub _ _ (unT N) (unB N) 42 _ X4c.out.rd X6.out.rd HM.out.2.2.2.2.1 (HM.out.2.2.2.2.2.2.1.up (by omega)) (by omega) HS.out.2.2.2.2.1).mono ?_
  rintro e w7 ⟨r7, rfl, ho, hb⟩
  have HSp : Hid (Sep r7 r6) := Lib.hid ⟨(X6.out.apart ho (Nat.le_refl _)).2, (X6.out.apart ho (Nat.le_refl _)).1⟩
  have X7 : Hid (Ow w7 w.heap.size w7.heap.size r7 (canOf (unA N))) := Lib.hid (ho.mono B6.out.size (Nat.le_refl _) (Nat.le_refl _))
  have X6b := Lib.hid (((X6.out.below hb X6.out.size).up).mono B5.out.size (Nat.le_refl _) (Nat.le_refl _))
  have B7 := Lib.hid (B6.out.trans (hb.mono B6.out.size))
  clear ho hb
  go_wp2
  go_ret2
  exact ⟨_, _, rfl, X7.out, X6b.out, HSp.out, B7.out⟩
theorem rdSmall (w : World) (x : Int) (h0 : 0 < x) (h1 : x < 1000000) : Rd (w.alloc (.cells #[.int .i64 x] 2)) (.slice (some ⟨w.heap.size, 0, none⟩) 1 1) (canOf x) := by
  rw [digit_can h0 h1]; exact Rd.one w x (by omega)
theorem bAl (w : World) (o : Obj) : Below w.heap.size w (w.alloc o) := (Below.refl _ _).alloc (Nat.le_refl _) _
noncomputable def upA (ps : List Int) : List Int := if natB ps = true then canOf (unA (val ps)) else []
noncomputable def upB (ps : List Int) : List Int := if natB ps = true then canOf (unB (val ps)) else []
set_option maxHeartbeats 2000000 in
theorem implUnpairOf (u : Value) (ps : List Int) (w : World) (hu : Rd w u ps) :
    Calls Try.prog 6 #[u] w fun e w' => ∃ r q, e = .returned (.tuple #[r, q, .int .i64 (rtC ps)]) ∧ Ow w' w.heap.size w'.heap.size r (upA ps) ∧ Ow w' w.heap.size w'.heap.size q (upB ps) ∧ Sep r q ∧ Below w.heap.size w w' := by
  have HU := Lib.hid hu
  clear hu
  rcases eq_or (natB ps) with hx | hx
  · have HX := Lib.hid hx
    have HR : Hid (upA ps = [] ∧ upB ps = [] ∧ rtC ps = 1) := Lib.hid ⟨if_neg (by simp [hx]), if_neg (by simp [hx]), if_neg (by simp [hx])⟩
    clear hx
    go_enter Try.func6, Try.ntmps6
    go_wp2_with fail
    refine (implNat _ ps _ HU.out).mono ?_
    rintro e w1 ⟨rfl, hb⟩
    rw [HX.out]
    have HB := Lib.hid hb
    clear hb
    go_wp2
    go_ret3
    exact ⟨_, _, by rw [HR.out.2.2] <;> rfl, by rw [HR.out.1]; exact Ow.nilUp HB.out.size, by rw [HR.out.2.1]; exact Ow.nilUp HB.out.size, sep_nil _, HB.out⟩
  have HX := Lib.hid hx
  have HP := Lib.hid (natB_can hx)
  have HR : Hid (upA ps = canOf (unA (val ps)) ∧ upB ps = canOf (unB (val ps)) ∧ rtC ps = 0) := Lib.hid ⟨if_pos hx, if_pos hx, if_pos hx⟩
  clear hx
  go_enter Try.func6, Try.ntmps6
  go_wp2_with fail
  refine (implNat _ ps _ HU.out).mono ?_
  rintro e w1 ⟨rfl, hb⟩
  rw [HX.out]
  have HB0 := Lib.hid hb
  clear hb
  go_wp2_with fail
  refine (iUnpair _ (val ps) _ (by rw [canOf_val HP.out.1]; exact HU.out.below HB0.out (Nat.le_refl _)) (nn_of HP.out.1 HP.out.2)).mono ?_
  rintro e w2 ⟨r0, r1, rfl, o0, o1, sp, hb⟩
  have H0 := Lib.hid (o0.mono HB0.out.size (Nat.le_refl _) (Nat.le_refl _))
  have H1 := Lib.hid (o1.mono HB0.out.size (Nat.le_refl _) (Nat.le_refl _))
  have HS := Lib.hid sp
  have HB := Lib.hid (HB0.out.trans (hb.mono HB0.out.size))
  clear o0 o1 sp hb
  go_wp2
  go_ret3
  exact ⟨_, _, by rw [HR.out.2.2] <;> rfl, by rw [HR.out.1]; exact H0.out, by rw [HR.out.2.1]; exact H1.out, HS.out, HB.out⟩
end Go.Proofs.Ytcpipakpkmfhlaa.Ints
