/- TupleNumber and SequenceNumber, of the model and of the program. -/
import Derived.Test.YtamhahemfcajcaaPair
import Derived.Test.YtamhahemfcajcaaNats
import Derived.Test.YtamhahemfcajcaaFit
import Derived.Test.YtamhahemfcajcaaRdL
import Derived.Test.YtamhahemfcajcaaIn
import Derived.Test.YtamhahemfcajcaaCel
import Derived.Deep.RegionHeld3
namespace Go.Proofs.Ytamhahemfcajcaa.Ints
open Go.RowKit
set_option linter.unusedVariables false
set_option linter.unusedSimpArgs false
noncomputable def tpF : List (List Int) → Option (List Int)
  | [] => none
  | [x] => some x
  | x :: y :: xs => (tpF (y :: xs)).bind fun r => if (canOf (pairV (val x) (val r))).length ≤ 40 then some (canOf (pairV (val x) (val r))) else none
noncomputable def sqF : List (List Int) → Option (List Int)
  | [] => some []
  | x :: xs => (sqF xs).bind fun r => if (canOf (pairV (val x) (val r) + 1)).length ≤ 40 then some (canOf (pairV (val x) (val r) + 1)) else none
def optF : Option (List Int) → List Int × Int
  | some z => (z, 0)
  | none => ([], 5)
noncomputable def tnR (ss : List (List Int)) : List Int × Int := if allN ss = false then ([], 1) else if ¬ (1 ≤ ss.length ∧ ss.length ≤ 8) then ([], 2) else optF (tpF ss)
noncomputable def sqR (ss : List (List Int)) : List Int × Int := if allN ss = false then ([], 1) else if ¬ ss.length ≤ 8 then ([], 2) else optF (sqF ss)
theorem tpF_cons {x : List Int} {xs : List (List Int)} (h : xs ≠ []) : tpF (x :: xs) = (tpF xs).bind fun r => if (canOf (pairV (val x) (val r))).length ≤ 40 then some (canOf (pairV (val x) (val r))) else none := by
  match xs, h with
  | y :: ys, _ => rfl
theorem allN_cons {x : List Int} {xs : List (List Int)} (h : allN (x :: xs) = true) : natB x = true ∧ allN xs = true := by simpa [allN] using h
theorem allN_at {zss : List (List Int)} (h : allN zss = true) {i : Nat} (hi : i < zss.length) : natB (zss.getD i []) = true := by
  rw [allN, List.all_eq_true] at h
  have := h _ (List.getElem_mem hi)
  rwa [List.getD_eq_getElem?_getD, List.getElem?_eq_getElem hi]
theorem pair_nat {x r : List Int} (hx : natB x = true) (hr : natB r = true) (h : (canOf (pairV (val x) (val r))).length ≤ 40) : natB (canOf (pairV (val x) (val r))) = true := by
  obtain ⟨c1, l1⟩ := natB_can hx
  obtain ⟨c2, l2⟩ := natB_can hr
  exact can_natB (nn_pair (nn_of c1 l1) (nn_of c2 l2) (by omega)).can.1 h
theorem nn_pair1 {x r : List Int} (hx : natB x = true) (hr : natB r = true) : Nn 85 (pairV (val x) (val r) + 1) := by
  obtain ⟨c1, l1⟩ := natB_can hx
  obtain ⟨c2, l2⟩ := natB_can hr
  exact (nn_pair (nn_of c1 l1) (nn_of c2 l2) (by omega)).add ((nn_small (a := 1) (by omega) (by omega)).up (by omega))
theorem tpF_nat : ∀ (ss : List (List Int)) (r : List Int), allN ss = true → tpF ss = some r → natB r = true := by
  intro ss
  induction ss with
  | nil => intro r _ h; cases h
  | cons x xs ih =>
    intro r ha h
    obtain ⟨h1, h2⟩ := allN_cons ha
    cases xs with
    | nil => cases h; exact h1
    | cons y ys =>
      rw [tpF_cons (by simp)] at h
      cases ht : tpF (y :: ys) with
      | none => rw [ht] at h; cases h
      | some q =>
        rw [ht] at h
        simp only [Option.bind_some] at h
        split at h
        · rename_i hl
          cases h
          exact pair_nat h1 (ih q h2 ht) hl
        · cases h
theorem sqF_nat : ∀ (ss : List (List Int)) (r : List Int), allN ss = true → sqF ss = some r → natB r = true := by
  intro ss
  induction ss with
  | nil => intro r _ h; cases h; exact can_natB can_nil (by simp)
  | cons x xs ih =>
    intro r ha h
    obtain ⟨h1, h2⟩ := allN_cons ha
    rw [sqF] at h
    cases ht : sqF xs with
    | none => rw [ht] at h; cases h
    | some q =>
      rw [ht] at h
      simp only [Option.bind_some] at h
      split at h
      · rename_i hl
        cases h
        exact can_natB (nn_pair1 h1 (ih q h2 ht)).can.1 hl
      · cases h
theorem tpF_up : ∀ (ss : List (List Int)) (j : Nat), j < ss.length → tpF (ss.drop j) = none → tpF ss = none := by
  intro ss
  induction ss with
  | nil => intro j hj; simp at hj
  | cons x xs ih =>
    intro j hj h
    cases j with
    | zero => exact h
    | succ j =>
      have hne : xs ≠ [] := by intro e; subst e; simp at hj
      rw [tpF_cons hne, ih j (by simpa using hj) h]; rfl
theorem sqF_up : ∀ (ss : List (List Int)) (j : Nat), sqF (ss.drop j) = none → sqF ss = none := by
  intro ss
  induction ss with
  | nil => intro j h; simpa using h
  | cons x xs ih =>
    intro j h
    cases j with
    | zero => exact h
    | succ j => rw [sqF, ih j h]; rfl
theorem drop_one (ss : List (List Int)) (k : Nat) (h : k < ss.length) : ss.drop k = ss.getD k [] :: ss.drop (k + 1) := by
  rw [List.drop_eq_getElem_cons h, List.getD_eq_getElem?_getD, List.getElem?_eq_getElem h]; rfl
theorem rd_can {w : World} {v : Value} {x : List Int} (h : Rd w v x) (hx : natB x = true) : Rd w v (canOf (val x)) := by rw [canOf_val (natB_can hx).1]; exact h
theorem specNats (v : Value) (zss : List (List Int)) (w : World) (h : RdL w v zss) :
    Calls Try.prog 17 #[v] w fun e w' => e = .returned (.bool (allN zss)) ∧ w = w' := by
  have hl := h.len
  obtain ⟨_, a, c, rfl, hcap, hr⟩ := h
  go_enter Try.func17, Try.ntmps17
  go_wp2
  go_loop [3] (fun s => ∃ k : Nat, k ≤ zss.length ∧ s = .int .i64 k ∧ ∀ i, i < k → natB (zss.getD i []) = true) (fun s => zss.length - (intOf s).toNat)
  case atStart => exact ⟨0, Nat.zero_le _, rfl, fun i hi => by omega⟩
  case round =>
    obtain ⟨k, hk, rfl, hall⟩ := hrel
    have HA := Lib.hid hall
    clear hall
    by_cases hlt : k < zss.length
    · obtain ⟨b, o, rfl, hb, hcell⟩ := hr (by intro h0; rw [h0] at hlt; simp at hlt)
      obtain ⟨x, hc, hx⟩ := hcell k hlt
      obtain ⟨zs, hzs⟩ : ∃ z, z = zss.getD k [] := ⟨_, rfl⟩
      rw [← hzs] at hx
      have HZ := Lib.hid hzs
      have HX := Lib.hid hx
      obtain ⟨_, _, ax, cx, rfl, _, _⟩ := hx
      have i0 : (0 : Int) ≤ (k : Int) := by omega
      have i1 : (k : Int) < (zss.length : Int) := by omega
      clear hcell hr hzs
      cases hw : natB zs with
      | true =>
        have HW := Lib.hid hw
        have HN : Hid (∀ i, i < k + 1 → natB (zss.getD i []) = true) := Lib.hid (fun i hi => by
          by_cases he : i = k
          · subst he; rw [← HZ.out]; exact HW.out
          · exact HA.out i (by omega))
        clear hw
        go_wp2_with fail
        refine (specNat _ zs _ HX.out).mono ?_
        rintro e w2 ⟨rfl, rfl⟩
        rw [HW.out]
        go_wp2
        go_round
        case rel => exact ⟨k + 1, by omega, by go_num, HN.out⟩
        case measure => simp [intOf]; omega
      | false =>
        have HW := Lib.hid hw
        have HF := Lib.hid (allN_false hlt (by rw [← HZ.out]; exact hw))
        clear hw
        go_wp2_with fail
        refine (specNat _ zs _ HX.out).mono ?_
        rintro e w2 ⟨rfl, rfl⟩
        rw [HW.out]
        go_wp2
        go_ret
        exact ⟨by rw [HF.out] <;> rfl, rfl⟩
    · obtain rfl : k = zss.length := by omega
      have HF := Lib.hid (allN_true (zss := zss) (fun i hi => HA.out i hi))
      have hnlt : ¬ ((zss.length : Int) < (zss.length : Int)) := by omega
      go_wp2
      go_ret
      exact ⟨by rw [HF.out] <;> rfl, rfl⟩
set_option maxRecDepth 100000 in
set_option maxHeartbeats 4000000 in
theorem specTup (v : Value) (ss : List (List Int)) (w : World) (h : RdL w v ss) :
    Calls Try.prog 6 #[v] w fun e w' => ∃ r, e = .returned (.tuple #[r, .int .i64 (tnR ss).2]) ∧ Ow w' w.heap.size w'.heap.size r (tnR ss).1 ∧ Below w.heap.size w w' := by
  have HV := Lib.hid h
  have hl := h.len
  obtain ⟨_, a, c, rfl, hcap, hr⟩ := h
  have HR0 := Lib.hid hr
  rcases eqOr (allN ss) with hn | hn
  · have HN := Lib.hid hn
    have e0 : Hid (tnR ss = ([], 1)) := Lib.hid (by rw [tnR, if_pos hn])
    clear hn hr
    go_enter Try.func6, Try.ntmps6
    go_wp2_with fail
    refine (specNats _ ss _ HV.out).mono ?_
    rintro e w' ⟨rfl, hw'⟩
    subst hw'
    rw [HN.out]
    go_wp2
    go_ret2
    exact ⟨_, by rw [e0.out] <;> rfl, by rw [e0.out]; exact Ow.empty w, Below.refl _ _⟩
  have HN := Lib.hid hn
  have hn1 : ¬ allN ss = false := by rw [hn]; simp
  by_cases h8 : 1 ≤ ss.length ∧ ss.length ≤ 8
  rotate_left
  · have e0 : Hid (tnR ss = ([], 2)) := Lib.hid (by rw [tnR, if_neg hn1, if_pos h8])
    have HI : Hid (¬ (1 ≤ ss.length ∧ ss.length ≤ 8)) := Lib.hid h8
    clear hn hn1 h8 hr
    go_enter Try.func6, Try.ntmps6
    go_wp2_with fail
    refine (specNats _ ss _ HV.out).mono ?_
    rintro e w' ⟨rfl, hw'⟩
    subst hw'
    rw [HN.out]
    go_wp2_with fail
    refine (specInB (ss.length : Int) 1 8 false _ ⟨fun q => by (cases q), fun q => absurd (by omega) HI.out⟩).mono ?_
    rintro e w' ⟨rfl, hw'⟩
    have hw2 := hw'.symm
    clear hw'
    subst hw2
    go_wp2
    go_ret2
    exact ⟨_, by rw [e0.out] <;> rfl, by rw [e0.out]; exact Ow.empty _, Below.refl _ _⟩
  have HRES : Hid (tnR ss = optF (tpF ss)) := Lib.hid (by rw [tnR, if_neg hn1, if_neg (by omega)])
  obtain ⟨b, o, rfl, hb, hcell⟩ := hr (by intro h0; rw [h0] at h8; simp at h8)
  obtain ⟨n, hnl⟩ : ∃ n, ss.length = n + 1 := ⟨ss.length - 1, by omega⟩
  have HCL := Lib.hid hcell
  have HBB := Lib.hid hb
  obtain ⟨xv, hc, hx⟩ := hcell n (by omega)
  have HX := Lib.hid hx
  obtain ⟨_, _, ax, cx, hxv, _, _⟩ := hx
  rw [hxv] at hc HX
  have HNL := Lib.hid hnl
  have e1 : IntKind.i64.wrap ((ss.length : Int) - 1) = (n : Int) := by rw [IntKind.wrap_i64]; omega
  have e2 : IntKind.i64.wrap ((ss.length : Int) - 2) = (n : Int) - 1 := by rw [IntKind.wrap_i64]; omega
  have i1 : (0 : Int) ≤ (n : Int) := by omega
  have i2 : (n : Int) < (ss.length : Int) := by omega
  have i8 : Hid (1 ≤ (ss.length : Int) ∧ (ss.length : Int) ≤ 8) := Lib.hid (by omega)
  have HST : Hid (tpF (ss.drop n) = some (ss.getD n [])) := Lib.hid (by rw [drop_one ss n (by omega), List.drop_of_length_le (by omega)]; rfl)
  clear hn hn1 hr hcell hxv h8 hnl
  go_enter Try.func6, Try.ntmps6
  go_wp2_with fail
  refine (specNats _ ss _ HV.out).mono ?_
  rintro e w' ⟨rfl, hw'⟩
  subst hw'
  rw [HN.out]
  go_wp2_with fail
  refine (specInB (ss.length : Int) 1 8 true _ ⟨fun _ => i8.out, fun _ => rfl⟩).mono ?_
  rintro e w' ⟨rfl, hw'⟩
  have hw2 := hw'.symm
  clear hw'
  subst hw2
  go_wp2_with fail
  refine (specOwn _ (ss.getD n []) _ HX.out).mono ?_
  rintro e w1 ⟨q0, rfl, ho1, hb1⟩
  have HO1 := Lib.hid ho1
  have HB1 := Lib.hid hb1
  clear ho1 hb1 hc
  go_wp2
  go_loopw [4, 5] (fun o i wr => ∃ (k : Nat) (z : List Int) (ov : Value), o = ov ∧ i = .int .i64 ((k : Int) - 1) ∧ k < ss.length ∧ tpF (ss.drop k) = some z ∧ Ow wr w.heap.size wr.heap.size ov z ∧ Below w.heap.size w wr) (fun _ i _ => (intOf i + 1).toNat)
  case atStart => exact ⟨n, _, _, rfl, rfl, by have := HNL.out; omega, HST.out, HO1.out, HB1.out⟩
  case round =>
    obtain ⟨k, z, ov, hov, rfl, hk, htp, hown, hbel⟩ := hrel
    obtain rfl := hov.symm
    have HO := Lib.hid hown
    have HB := Lib.hid hbel
    have HTP := Lib.hid htp
    have HZN := Lib.hid (tpF_nat (ss.drop k) z (by rw [allN, List.all_eq_true]; intro x hx; have h1 := HN.out; rw [allN, List.all_eq_true] at h1; exact h1 x (List.mem_of_mem_drop hx)) htp)
    by_cases h0 : 0 < k
    · obtain ⟨j, rfl⟩ : ∃ j, k = j + 1 := ⟨k - 1, by omega⟩
      obtain ⟨xv, hc, hx⟩ := HCL.out j (by omega)
      replace hc := (hbel.cell (p := ⟨b, o + j, none⟩) HBB.out).trans hc
      have hxn := allN_at HN.out (i := j) (by omega)
      have hdr := drop_one ss j (by omega)
      obtain ⟨x, hxe⟩ : ∃ x, x = ss.getD j [] := ⟨_, rfl⟩
      rw [← hxe] at hx hxn hdr
      have HX := Lib.hid (rd_can (hx.below hbel (Nat.le_refl _)) hxn)
      have HZ := Lib.hid (rd_can hown.rd HZN.out)
      obtain ⟨_, _, ax, cx, rfl, _, _⟩ := hx
      have hstep : tpF (ss.drop j) = if (canOf (pairV (val x) (val z))).length ≤ 40 then some (canOf (pairV (val x) (val z))) else none := by
        rw [hdr, tpF_cons (by intro e; have h1 := congrArg List.length e; rw [List.length_drop, List.length_nil] at h1; omega), htp]; rfl
      have HSTP := Lib.hid hstep
      have hnx := nn_of (natB_can hxn).1 (natB_can hxn).2
      have hnz := nn_of (natB_can HZN.out).1 (natB_can HZN.out).2
      have HNX := Lib.hid hnx
      have HNZ := Lib.hid hnz
      have ek : (((j + 1 : Nat) : Int) - 1) = (j : Int) := by omega
      have j0 : (0 : Int) ≤ (j : Int) := by omega
      have j1 : (j : Int) < (ss.length : Int) := by omega
      have e3 : IntKind.i64.wrap ((j : Int) - 1) = (j : Int) - 1 := by rw [IntKind.wrap_i64]; omega
      rw [ek]
      clear hown htp hxe hdr hstep hnx hnz hxn hbel ek
      go_wp2_with fail
      refine (sPair _ _ (val x) (val z) 40 _ HX.out HZ.out HNX.out HNZ.out (by omega) (by omega)).mono ?_
      rintro e w5 ⟨r5, rfl, ho5, hb5⟩
      obtain ⟨L, hL⟩ : ∃ L, L = canOf (pairV (val x) (val z)) := ⟨_, rfl⟩
      rw [← hL] at HSTP ho5
      have HO5 := Lib.hid (ho5.mono HB.out.size (Nat.le_refl _) (Nat.le_refl _))
      have HB5 := Lib.hid (HB.out.trans (hb5.mono HB.out.size))
      obtain ⟨ga, gc, rfl⟩ := ho5.shape
      clear ho5 hb5 hL hc
      by_cases h40 : L.length ≤ 40
      · have HS2 : Hid (tpF (ss.drop j) = some L) := Lib.hid (by rw [HSTP.out, if_pos h40])
        have k1 : ¬ (40 : Int) < (L.length : Int) := by omega
        go_wp2
        go_roundw
        case rel => exact ⟨j, L, _, rfl, by first | rfl | go_num, by omega, HS2.out, HO5.out, HB5.out⟩
        case measure => simp [intOf] <;> omega
      · have e0 : Hid (tnR ss = ([], 5)) := Lib.hid (by rw [HRES.out, tpF_up ss j (by omega) (by rw [HSTP.out, if_neg h40])]; rfl)
        have k1 : (40 : Int) < (L.length : Int) := by omega
        go_wp2
        go_ret2
        exact ⟨_, by rw [e0.out] <;> rfl, by rw [e0.out]; exact Ow.emptyUp HB5.out.size, HB5.out⟩
    · obtain rfl : k = 0 := by omega
      have e0 : Hid (tnR ss = (z, 0)) := Lib.hid (by rw [HRES.out]; have := HTP.out; rw [List.drop_zero] at this; rw [this]; rfl)
      clear hown hbel htp h0
      go_wp2
      go_ret2
      exact ⟨_, by rw [e0.out] <;> rfl, by rw [e0.out]; exact HO.out, HB.out⟩
set_option maxRecDepth 100000 in
set_option maxHeartbeats 4000000 in
theorem specSeq (v : Value) (ss : List (List Int)) (w : World) (h : RdL w v ss) :
    Calls Try.prog 14 #[v] w fun e w' => ∃ r, e = .returned (.tuple #[r, .int .i64 (sqR ss).2]) ∧ Ow w' w.heap.size w'.heap.size r (sqR ss).1 ∧ Below w.heap.size w w' := by
  have HV := Lib.hid h
  have hl := h.len
  obtain ⟨_, a, c, rfl, hcap, hr⟩ := h
  have HR0 := Lib.hid hr
  rcases eqOr (allN ss) with hn | hn
  · have HN := Lib.hid hn
    have e0 : Hid (sqR ss = ([], 1)) := Lib.hid (by rw [sqR, if_pos hn])
    clear hn hr
    go_enter Try.func14, Try.ntmps14
    go_wp2_with fail
    refine (specNats _ ss _ HV.out).mono ?_
    rintro e w' ⟨rfl, hw'⟩
    subst hw'
    rw [HN.out]
    go_wp2
    go_ret2
    exact ⟨_, by rw [e0.out] <;> rfl, by rw [e0.out]; exact Ow.empty w, Below.refl _ _⟩
  have HN := Lib.hid hn
  have hn1 : ¬ allN ss = false := by rw [hn]; simp
  by_cases h8 : ss.length ≤ 8
  rotate_left
  · have e0 : Hid (sqR ss = ([], 2)) := Lib.hid (by rw [sqR, if_neg hn1, if_pos h8])
    have k1 : (8 : Int) < (ss.length : Int) := by omega
    clear hn hn1 h8 hr
    go_enter Try.func14, Try.ntmps14
    go_wp2_with fail
    refine (specNats _ ss _ HV.out).mono ?_
    rintro e w' ⟨rfl, hw'⟩
    subst hw'
    rw [HN.out]
    go_wp2
    go_ret2
    exact ⟨_, by rw [e0.out] <;> rfl, by rw [e0.out]; exact Ow.empty _, Below.refl _ _⟩
  have HRES : Hid (sqR ss = optF (sqF ss)) := Lib.hid (by rw [sqR, if_neg hn1, if_neg (by omega)])
  have k1 : ¬ (8 : Int) < (ss.length : Int) := by omega
  have e1 : IntKind.i64.wrap ((ss.length : Int) - 1) = (ss.length : Int) - 1 := by rw [IntKind.wrap_i64]; omega
  have HB0 : Hid (Below w.heap.size w (w.alloc (Obj.cells #[] 2))) := Lib.hid ((Below.refl _ _).alloc (Nat.le_refl _) _)
  clear hn hn1 hr
  go_enter Try.func14, Try.ntmps14
  go_wp2_with fail
  refine (specNats _ ss _ HV.out).mono ?_
  rintro e w' ⟨rfl, hw'⟩
  subst hw'
  rw [HN.out]
  go_wp2
  go_loopw [4, 5] (fun o i wr => ∃ (k : Nat) (z : List Int) (ov : Value), o = ov ∧ i = .int .i64 ((k : Int) - 1) ∧ k ≤ ss.length ∧ sqF (ss.drop k) = some z ∧ Ow wr w.heap.size wr.heap.size ov z ∧ Below w.heap.size w wr) (fun _ i _ => (intOf i + 1).toNat)
  case atStart => exact ⟨ss.length, _, _, rfl, rfl, Nat.le_refl _, by rw [List.drop_length]; rfl, Ow.made w, HB0.out⟩
  case round =>
    obtain ⟨k, z, ov, hov, rfl, hk, htp, hown, hbel⟩ := hrel
    obtain rfl := hov.symm
    have HO := Lib.hid hown
    have HB := Lib.hid hbel
    have HTP := Lib.hid htp
    have HZN := Lib.hid (sqF_nat (ss.drop k) z (by rw [allN, List.all_eq_true]; intro x hx; have h1 := HN.out; rw [allN, List.all_eq_true] at h1; exact h1 x (List.mem_of_mem_drop hx)) htp)
    by_cases h0 : 0 < k
    · obtain ⟨j, rfl⟩ : ∃ j, k = j + 1 := ⟨k - 1, by omega⟩
      obtain ⟨b, o, rfl, hb, hcell⟩ := HR0.out (by intro q; rw [q] at hk; simp at hk)
      obtain ⟨xv, hc, hx⟩ := hcell j (by omega)
      replace hc := (hbel.cell (p := ⟨b, o + j, none⟩) hb).trans hc
      have hxn := allN_at HN.out (i := j) (by omega)
      have hdr := drop_one ss j (by omega)
      obtain ⟨x, hxe⟩ : ∃ x, x = ss.getD j [] := ⟨_, rfl⟩
      rw [← hxe] at hx hxn hdr
      have HX := Lib.hid (rd_can (hx.below hbel (Nat.le_refl _)) hxn)
      have HZ := Lib.hid (rd_can hown.rd HZN.out)
      obtain ⟨_, _, ax, cx, rfl, _, _⟩ := hx
      have hstep : sqF (ss.drop j) = if (canOf (pairV (val x) (val z) + 1)).length ≤ 40 then some (canOf (pairV (val x) (val z) + 1)) else none := by
        rw [hdr, sqF, htp]; rfl
      have HSTP := Lib.hid hstep
      have hnx := nn_of (natB_can hxn).1 (natB_can hxn).2
      have hnz := nn_of (natB_can HZN.out).1 (natB_can HZN.out).2
      have HNX := Lib.hid hnx
      have HNZ := Lib.hid hnz
      have HNP := Lib.hid (nn_pair hnx hnz (by omega))
      have HN1 := Lib.hid ((nn_small (a := 1) (by omega) (by omega)).up (show 1 ≤ 84 by omega))
      have ek : (((j + 1 : Nat) : Int) - 1) = (j : Int) := by omega
      have j0 : (0 : Int) ≤ (j : Int) := by omega
      have j1 : (j : Int) < (ss.length : Int) := by omega
      have e3 : IntKind.i64.wrap ((j : Int) - 1) = (j : Int) - 1 := by rw [IntKind.wrap_i64]; omega
      rw [ek]
      clear hown htp hxe hdr hstep hnx hnz hxn hbel ek hcell
      go_wp2_with fail
      refine (sPair _ _ (val x) (val z) 40 _ HX.out HZ.out HNX.out HNZ.out (by omega) (by omega)).mono ?_
      rintro e w5 ⟨r5, rfl, ho5, hb5⟩
      have hone := Rd.one w5 1 (by omega)
      rw [← one_can] at hone
      have hbo : Below w5.heap.size w5 (w5.alloc (.cells #[.int .i64 1] 2)) := (Below.refl _ _).alloc (Nat.le_refl _) _
      have HONE := Lib.hid hone
      have X1a := Lib.hid ((ho5.below hbo (Nat.le_refl _)).up)
      have HB5 := Lib.hid ((HB.out.trans (hb5.mono HB.out.size)).trans (hbo.mono (HB.out.trans (hb5.mono HB.out.size)).size))
      clear ho5 hb5 hone hbo hc
      go_wp2_with fail
      refine (sAdd _ _ (pairV (val x) (val z)) 1 84 _ X1a.out.rd HONE.out HNP.out HN1.out (by omega)).mono ?_
      rintro e w6 ⟨r6, rfl, ho6, hb6⟩
      obtain ⟨L, hL⟩ : ∃ L, L = canOf (pairV (val x) (val z) + 1) := ⟨_, rfl⟩
      rw [← hL] at HSTP ho6
      have HO6 := Lib.hid (ho6.mono HB5.out.size (Nat.le_refl _) (Nat.le_refl _))
      have HB6 := Lib.hid (HB5.out.trans (hb6.mono HB5.out.size))
      obtain ⟨ga, gc, rfl⟩ := ho6.shape
      clear ho6 hb6 hL
      by_cases h40 : L.length ≤ 40
      · have HS2 : Hid (sqF (ss.drop j) = some L) := Lib.hid (by rw [HSTP.out, if_pos h40])
        have k1 : ¬ (40 : Int) < (L.length : Int) := by omega
        go_wp2
        go_roundw
        case rel => exact ⟨j, L, _, rfl, by first | rfl | go_num, by omega, HS2.out, HO6.out, HB6.out⟩
        case measure => simp [intOf] <;> omega
      · have e0 : Hid (sqR ss = ([], 5)) := Lib.hid (by rw [HRES.out, sqF_up ss j (by rw [HSTP.out, if_neg h40])]; rfl)
        have k1 : (40 : Int) < (L.length : Int) := by omega
        go_wp2
        go_ret2
        exact ⟨_, by rw [e0.out] <;> rfl, by rw [e0.out]; exact Ow.emptyUp HB6.out.size, HB6.out⟩
    · obtain rfl : k = 0 := by omega
      have e0 : Hid (sqR ss = (z, 0)) := Lib.hid (by rw [HRES.out]; have := HTP.out; rw [List.drop_zero] at this; rw [this]; rfl)
      clear hown hbel htp h0
      go_wp2
      go_ret2
      exact ⟨_, by rw [e0.out] <;> rfl, by rw [e0.out]; exact HO.out, HB.out⟩
end Go.Proofs.Ytamhahemfcajcaa.Ints
