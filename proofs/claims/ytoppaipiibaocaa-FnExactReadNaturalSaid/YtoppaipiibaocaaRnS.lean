/- Naturals read from texts, of the model. -/
import Derived.Test.YtoppaipiibaocaaRnV
import Derived.Test.YtoppaipiibaocaaMul
import Derived.Lib.OthersKept
import Derived.WalkSmall
import Derived.OneCell
namespace Go.Proofs.Ytoppaipiibaocaa.Ints
open Go.RowKit
set_option linter.unusedVariables false
set_option linter.unusedSimpArgs false

theorem specMaxN (b : Int) (w : World) (m : Nat) (hm : m = b.toNat) : Calls Try.prog 96 #[.int .i64 0, .int .i64 b] w fun e w' => e = .returned (.int .i64 m) ∧ w = w' := by
  by_cases h : b < 0
  · have HM : Hid ((m : Int) = 0) := Lib.hid (by omega)
    clear hm
    go_enter Try.func96, Try.ntmps96
    go_wp2
    go_ret
    exact ⟨by rw [HM.out] <;> rfl, rfl⟩
  · have HM : Hid ((m : Int) = b) := Lib.hid (by omega)
    clear hm
    go_enter Try.func96, Try.ntmps96
    go_wp2
    go_ret
    exact ⟨by rw [HM.out] <;> rfl, rfl⟩
set_option maxRecDepth 100000 in
set_option maxHeartbeats 8000000 in
theorem specRdNat0 (s : ByteArray) (w : World) (hs : s.size ≤ 1048576) :
    Calls Try.prog 61 #[.string s] w fun e w' => ∃ u, e = .returned (.tuple #[u, .bool (rnB s)]) ∧ Ow w' w.heap.size w'.heap.size u (rnV s) ∧ Below w.heap.size w w' := by
  obtain ⟨i0, hi, hz0, hz1, hz2⟩ := info_parts infoE
  by_cases z0 : s.size = 0
  · have HF := Lib.hid (rn_bad (s := s) (fun h => h.1 z0))
    have d0 : ((s.size : Int) == 0) = true := by simp [z0]
    have d00 : (s.size : Int) = 0 := by omega
    have d01 : (s.size == 0) = true := by simp [z0]
    go_enter Try.func61, Try.ntmps61
    go_wp2
    go_ret2
    exact ⟨_, by rw [HF.out.1] <;> rfl, by rw [HF.out.2]; exact Ow.empty w, Below.refl _ _⟩
  have d0 : ((s.size : Int) == 0) = false := by rw [beq_eq_false_iff_ne]; omega
  have d01 : (s.size == 0) = false := by rw [beq_eq_false_iff_ne]; omega
  have hpos : 0 < s.size := by omega
  by_cases z1 : s.size ≤ 240
  rotate_left
  · have HF := Lib.hid (rn_bad (s := s) (fun h => z1 h.2.1))
    have f1 : decide ((240 : Int) < (s.size : Int)) = true := decide_eq_true (by omega)
    have f2 : decide (240 < s.size) = true := decide_eq_true (by omega)
    clear z1
    go_enter Try.func61, Try.ntmps61
    go_wp2
    go_ret2
    exact ⟨_, by rw [HF.out.1] <;> rfl, by rw [HF.out.2]; exact Ow.empty w, Below.refl _ _⟩
  have f1 : decide ((240 : Int) < (s.size : Int)) = false := decide_eq_false (by omega)
  have f2 : decide (240 < s.size) = false := decide_eq_false (by omega)
  obtain ⟨b, hb⟩ : ∃ b, b = bt s 0 := ⟨_, rfl⟩
  have hid0 := idxS (k := 0) hpos hb
  have hbk : (s[0]'hpos).toNat = b := by rw [hb, bt_at hpos]
  have hix : (0 : Int) < (s.size : Int) := by omega
  have HBt := Lib.hid hb
  simp only [Int.natCast_zero] at hid0
  clear hb
  by_cases z2 : 1 < s.size
  · have q1 : decide ((1 : Int) < (s.size : Int)) = true := decide_eq_true (by omega)
    have q2 : decide (1 < s.size) = true := decide_eq_true (by omega)
    by_cases z3 : b = 48
    · have HF := Lib.hid (rn_bad (s := s) (fun h => h.2.2.1 z2 (by rw [← HBt.out]; exact z3)))
      have q3 : ((b : Int) == 48) = true := by simp [z3]
      have q4 : (b == 48) = true := by simp [z3]
      clear z3 z2
      go_enter Try.func61, Try.ntmps61
      go_wp2
      go_ret2
      exact ⟨_, by rw [HF.out.1] <;> rfl, by rw [HF.out.2]; exact Ow.empty w, Below.refl _ _⟩
    · have HK : Hid (1 < s.size → bt s 0 ≠ 48) := Lib.hid (fun _ => by rw [← HBt.out]; exact z3)
      have q3 : ((b : Int) == 48) = false := by simp; omega
      have q4 : (b == 48) = false := by simp [z3]
      have q5 : ¬ (b : Int) = 48 := by omega
      have q6 : ¬ b = 48 := z3
      clear z2
      have HNZ := Lib.hid z0
      have HS := Lib.hid z1
      clear z0
      go_enter Try.func61, Try.ntmps61
      go_wp2
      go_loopw [4, 5] (fun o x wr => ∃ (j : Nat) (ov : Value), o = ov ∧ j ≤ lbN s ∧ x = .int .i64 ((s.size : Int) - 6 * j) ∧ (∀ i, s.size ≤ i + 6 * j → i < s.size → Dgt (bt s i)) ∧ wr.ownsRow w.heap.size 2 1 ov j (((rnL s).take j).map (Value.int .i64)) ∧ Below w.heap.size w wr) (fun _ x _ => (intOf x).toNat)
      case atStart => exact ⟨0, _, rfl, Nat.zero_le _, by simp, fun i a b => by omega, by simpa using World.ownsRow_made w #[] 0 (Nat.le_refl _) (by unfold maxLen; omega) (by simp), (Below.refl _ _).alloc (Nat.le_refl _) _⟩
      case round =>
        obtain ⟨j, ov, hov, hj, rfl, hall, hown, hbel⟩ := hrel
        obtain rfl := hov.symm
        have HA := Lib.hid hall
        have HW := Lib.hid hbel
        have hsz := hbel.size
        have hN : lbN s ≤ 40 := by unfold lbN; omega
        clear hall hbel
        by_cases hlt : 6 * j < s.size
        · have g1 : (0 : Int) < (s.size : Int) - 6 * (j : Int) := by omega
          have hjN : j < lbN s := by unfold lbN; omega
          obtain ⟨A, hA⟩ : ∃ A, A = lbA s j := ⟨_, rfl⟩
          obtain ⟨E, hE⟩ : ∃ E, E = lbE s j := ⟨_, rfl⟩
          have HAE : Hid (A = lbA s j ∧ E = lbE s j) := Lib.hid ⟨hA, hE⟩
          have hAE : A < E ∧ E ≤ A + 6 ∧ (E : Int) = (s.size : Int) - 6 * j ∧ A = ((s.size : Int) - 6 * j - 6).toNat := by
            rw [hA, hE]; unfold lbA lbE; omega
          obtain ⟨a0, a1, a2, a3⟩ := hAE
          have HM := Lib.hid a3
          rw [← a2] at g1 ⊢
          rw [← a2] at HM
          have HE2 := Lib.hid a2
          have a4 : E ≤ s.size := by omega
          clear hA hE a3 a2
          have t1 : IntKind.i64.wrap ((E : Int) - 6) = (E : Int) - 6 := by rw [IntKind.wrap_i64]; omega
          have HJN := Lib.hid hjN
          have HOw := Lib.hid hown
          clear hjN hown
          go_wp2_with (go_at_call 96; refine (specMaxN _ _ A (by rw [HM.out])).mono ?_; rintro e w' ⟨rfl, rfl⟩)
          go_loop [6, 7] (fun l i => ∃ c : Nat, A + c ≤ E ∧ l = .int .i64 (fvN s A c) ∧ i = .int .i64 ((A + c : Nat) : Int) ∧ (∀ i, A ≤ i → i < A + c → Dgt (bt s i))) (fun _ i => E - (intOf i).toNat)
          case atStart => exact ⟨0, by omega, rfl, by simp, fun i a b => by omega⟩
          case round =>
            obtain ⟨c, hc, rfl, rfl, hdg⟩ := hrel
            have HD := Lib.hid hdg
            obtain ⟨v, hv⟩ : ∃ v, v = fvN s A c := ⟨_, rfl⟩
            have hvr := fvN_range (s := s) (a := A) (c := c) hdg
            rw [← hv] at hvr
            have hp6 := pow_six (c := c) (by omega)
            have v0 : 0 ≤ v := hvr.1
            have v1 : v ≤ 999999 := by omega
            rw [← hv]
            have HV := Lib.hid hv
            clear hdg hvr hp6 hv
            obtain ⟨p, hp⟩ : ∃ p, p = A + c := ⟨_, rfl⟩
            rw [← hp]
            by_cases hpe : p < E
            · have hps : p < s.size := by omega
              obtain ⟨k, hk⟩ : ∃ k, k = bt s p := ⟨_, rfl⟩
              have hidk := idxS hps hk
              have hkk : (s[p]'hps).toNat = k := by rw [hk, bt_at hps]
              have i0' : (0 : Int) ≤ (p : Int) := by omega
              have i1 : (p : Int) < (s.size : Int) := by omega
              have i2 : (p : Int) < (E : Int) := by omega
              have HKt := Lib.hid hk
              have HP := Lib.hid hp
              by_cases hg : Dgt k
              rotate_left
              · have HF := Lib.hid (rn_bad (s := s) (fun h => hg (by rw [hk]; exact h.2.2.2 p hps)))
                have H2 : Hid (false = true ↔ (48 ≤ (k : Int) ∧ (k : Int) ≤ 57)) := Lib.hid ⟨fun h => (by cases h), fun h => absurd h hg⟩
                clear hk hp hg hc
                go_wp2_with fail
                refine (specDgt _ false _ H2.out).mono ?_
                rintro e w' ⟨rfl, rfl⟩
                go_wp2
                go_ret2
                exact ⟨_, by rw [HF.out.1] <;> rfl, by rw [HF.out.2]; exact Ow.emptyUp HW.out.size, HW.out⟩
              obtain ⟨g0, g2⟩ := hg
              obtain ⟨x, hx⟩ : ∃ x, x = (k : Int) - 48 := ⟨_, rfl⟩
              have hx' : (k : Int) - 48 = x := hx.symm
              have x0 : 0 ≤ x := by omega
              have x1 : x ≤ 9 := by omega
              have e3 : IntKind.u8.wrap x = x := by simp [IntKind.wrap, IntKind.bits, IntKind.signed]; omega
              have e4 : IntKind.i64.wrap x = x := by rw [IntKind.wrap_i64]; omega
              have H2 : Hid (48 ≤ (k : Int) ∧ (k : Int) ≤ 57) := Lib.hid ⟨g0, g2⟩
              have HNx : Hid (fvN s A (c + 1) = v * 10 + x) := Lib.hid (by rw [fvN, ← hp, ← hk, hx', HV.out])
              have HDN : Hid (∀ i, A ≤ i → i < A + (c + 1) → Dgt (bt s i)) := Lib.hid (fun i a b => by
                by_cases he : i = p
                · subst he; rw [← HKt.out]; exact ⟨g0, g2⟩
                · exact HD.out i a (by omega))
              clear hk hp hx
              go_wp2_with fail
              refine (specDgt _ true _ ⟨fun _ => H2.out, fun _ => rfl⟩).mono ?_
              rintro e w' ⟨rfl, rfl⟩
              go_wp2
              go_round
              case rel => exact ⟨c + 1, by have := HP.out; omega, by rw [HNx.out] <;> (first | rfl | go_num), by (have := HP.out; rw [show A + (c + 1) = p + 1 by omega]); go_num, HDN.out⟩
              case measure => simp [intOf]; omega
            · have hpE : p = E := by omega
              subst hpE
              have hnl : ¬ ((p : Int) < (p : Int)) := by omega
              have HL : Hid (lbV s s.size j = v) := Lib.hid (by
                rw [lbV_full, ← HAE.out.1, ← HAE.out.2, HV.out]; congr 1; omega)
              have HTk : Hid ((rnL s).take (j + 1) = (rnL s).take j ++ [v]) := Lib.hid (by rw [rnL_succ HJN.out, HL.out])
              have HAN : Hid (∀ i, s.size ≤ i + 6 * (j + 1) → i < s.size → Dgt (bt s i)) := Lib.hid (fun i a b => by
                have e2 := HE2.out
                by_cases he : i < p
                · have hA0 : A = lbA s j := HAE.out.1
                  exact HD.out i (by rw [hA0]; unfold lbA; omega) (by omega)
                · exact HA.out i (by omega) b)
              clear hpe hp
              have hjc : j ≤ 40 := by omega
              have hown := HOw.out
              go_wp2_with (at_builtin; refine wpList_append_own _ rfl _ _ 25 rfl w.heap.size 2 i0 (.int .i64 0) 1 8 Try.underlying25 hi hz0 hz1 hz2 rfl (by decide) _ _ _ rfl (hown.alloc _) ⟨_, 0, none⟩ 1 1 [.int .i64 v] rfl rfl ?c1 ?c2 ?c3 ?c4 ?c5 ?_)
              try (case c1 => exact cellNew _ _ _)
              case c2 => first | exact oneCell _ | rfl
              case c3 => unfold maxLen; omega
              case c4 => omega
              case c5 => first | omega | (simp; omega)
              intro v' w2 hown2 hgrow _
              have HO : Hid (w2.ownsRow w.heap.size 2 1 v' (j + 1) (((rnL s).take (j + 1)).map (Value.int .i64))) := Lib.hid (by rw [HTk.out]; simpa using hown2)
              have HQ := Lib.hid ((HW.out.alloc hsz (Obj.cells #[Value.int IntKind.i64 v] 2)).grown hgrow (by simp; omega) (fun q hq => (hown.lt q hq).1))
              clear hown2 hgrow hown
              go_wp2
              go_roundw
              case rel => exact ⟨j + 1, v', rfl, HJN.out, by (have := HE2.out); first | go_num | (rw [this]; go_num), HAN.out, HO.out, HQ.out⟩
              case measure => simp [intOf]; omega
        · have hjN : j = lbN s := by
            have := HNZ.out
            unfold lbN at hj ⊢; omega
          have g1 : ¬ (0 : Int) < (s.size : Int) - 6 * (j : Int) := by omega
          have HAll : Hid (AllD s) := Lib.hid (fun i hi => HA.out i (by omega) hi)
          have HOk : Hid (NOk s) := Lib.hid ⟨HNZ.out, HS.out, HK.out, HAll.out⟩
          rw [List.take_of_length_le (by rw [rnL, rnRow_length]; omega)] at hown
          have hlen : (rnL s).length = j := by rw [rnL, rnRow_length, hjN]
          have HOw : Hid (Ow wr w.heap.size wr.heap.size ov (rnL s)) := Lib.hid (ow_of_row (by omega) (rnRow_fit _ (Nat.le_refl _) HAll.out) (by rw [hlen]; exact hown) HW.out.size)
          have HF := Lib.hid (rn_good HOk.out)
          have HTr : Hid (canOf (val (rnL s)) = trim (rnL s)) := Lib.hid (canOf_eq (trim_can (rnRow_dig _ (Nat.le_refl _) HAll.out)) (trim_val _))
          clear hown hlen hjN hlt hj
          go_wp2_with (go_at_call 92; refine (specTrim ov (rnL s) _ _ _ HOw.out).mono ?_; rintro e w' ⟨u, rfl, ho, rfl⟩; have HO := Lib.hid ho; clear ho)
          go_ret2
          exact ⟨_, by rw [HF.out.1] <;> rfl, by rw [HF.out.2, HTr.out]; exact HO.out, HW.out⟩
  · have HK : Hid (1 < s.size → bt s 0 ≠ 48) := Lib.hid (fun h => absurd h z2)
    have q1 : decide ((1 : Int) < (s.size : Int)) = false := decide_eq_false (by omega)
    have q2 : decide (1 < s.size) = false := decide_eq_false (by omega)
    clear z2
    have HNZ := Lib.hid z0
    have HS := Lib.hid z1
    clear z0
    go_enter Try.func61, Try.ntmps61
    go_wp2
    go_loopw [4, 5] (fun o x wr => ∃ (j : Nat) (ov : Value), o = ov ∧ j ≤ lbN s ∧ x = .int .i64 ((s.size : Int) - 6 * j) ∧ (∀ i, s.size ≤ i + 6 * j → i < s.size → Dgt (bt s i)) ∧ wr.ownsRow w.heap.size 2 1 ov j (((rnL s).take j).map (Value.int .i64)) ∧ Below w.heap.size w wr) (fun _ x _ => (intOf x).toNat)
    case atStart => exact ⟨0, _, rfl, Nat.zero_le _, by simp, fun i a b => by omega, by simpa using World.ownsRow_made w #[] 0 (Nat.le_refl _) (by unfold maxLen; omega) (by simp), (Below.refl _ _).alloc (Nat.le_refl _) _⟩
    case round =>
      obtain ⟨j, ov, hov, hj, rfl, hall, hown, hbel⟩ := hrel
      obtain rfl := hov.symm
      have HA := Lib.hid hall
      have HW := Lib.hid hbel
      have hsz := hbel.size
      have hN : lbN s ≤ 40 := by unfold lbN; omega
      clear hall hbel
      by_cases hlt : 6 * j < s.size
      · have g1 : (0 : Int) < (s.size : Int) - 6 * (j : Int) := by omega
        have hjN : j < lbN s := by unfold lbN; omega
        obtain ⟨A, hA⟩ : ∃ A, A = lbA s j := ⟨_, rfl⟩
        obtain ⟨E, hE⟩ : ∃ E, E = lbE s j := ⟨_, rfl⟩
        have HAE : Hid (A = lbA s j ∧ E = lbE s j) := Lib.hid ⟨hA, hE⟩
        have hAE : A < E ∧ E ≤ A + 6 ∧ (E : Int) = (s.size : Int) - 6 * j ∧ A = ((s.size : Int) - 6 * j - 6).toNat := by
          rw [hA, hE]; unfold lbA lbE; omega
        obtain ⟨a0, a1, a2, a3⟩ := hAE
        have HM := Lib.hid a3
        rw [← a2] at g1 ⊢
        rw [← a2] at HM
        have HE2 := Lib.hid a2
        have a4 : E ≤ s.size := by omega
        clear hA hE a3 a2
        have t1 : IntKind.i64.wrap ((E : Int) - 6) = (E : Int) - 6 := by rw [IntKind.wrap_i64]; omega
        have HJN := Lib.hid hjN
        have HOw := Lib.hid hown
        clear hjN hown
        go_wp2_with (go_at_call 96; refine (specMaxN _ _ A (by rw [HM.out])).mono ?_; rintro e w' ⟨rfl, rfl⟩)
        go_loop [6, 7] (fun l i => ∃ c : Nat, A + c ≤ E ∧ l = .int .i64 (fvN s A c) ∧ i = .int .i64 ((A + c : Nat) : Int) ∧ (∀ i, A ≤ i → i < A + c → Dgt (bt s i))) (fun _ i => E - (intOf i).toNat)
        case atStart => exact ⟨0, by omega, rfl, by simp, fun i a b => by omega⟩
        case round =>
          obtain ⟨c, hc, rfl, rfl, hdg⟩ := hrel
          have HD := Lib.hid hdg
          obtain ⟨v, hv⟩ : ∃ v, v = fvN s A c := ⟨_, rfl⟩
          have hvr := fvN_range (s := s) (a := A) (c := c) hdg
          rw [← hv] at hvr
          have hp6 := pow_six (c := c) (by omega)
          have v0 : 0 ≤ v := hvr.1
          have v1 : v ≤ 999999 := by omega
          rw [← hv]
          have HV := Lib.hid hv
          clear hdg hvr hp6 hv
          obtain ⟨p, hp⟩ : ∃ p, p = A + c := ⟨_, rfl⟩
          rw [← hp]
          by_cases hpe : p < E
          · have hps : p < s.size := by omega
            obtain ⟨k, hk⟩ : ∃ k, k = bt s p := ⟨_, rfl⟩
            have hidk := idxS hps hk
            have hkk : (s[p]'hps).toNat = k := by rw [hk, bt_at hps]
            have i0' : (0 : Int) ≤ (p : Int) := by omega
            have i1 : (p : Int) < (s.size : Int) := by omega
            have i2 : (p : Int) < (E : Int) := by omega
            have HKt := Lib.hid hk
            have HP := Lib.hid hp
            by_cases hg : Dgt k
            rotate_left
            · have HF := Lib.hid (rn_bad (s := s) (fun h => hg (by rw [hk]; exact h.2.2.2 p hps)))
              have H2 : Hid (false = true ↔ (48 ≤ (k : Int) ∧ (k : Int) ≤ 57)) := Lib.hid ⟨fun h => (by cases h), fun h => absurd h hg⟩
              clear hk hp hg hc
              go_wp2_with fail
              refine (specDgt _ false _ H2.out).mono ?_
              rintro e w' ⟨rfl, rfl⟩
              go_wp2
              go_ret2
              exact ⟨_, by rw [HF.out.1] <;> rfl, by rw [HF.out.2]; exact Ow.emptyUp HW.out.size, HW.out⟩
            obtain ⟨g0, g2⟩ := hg
            obtain ⟨x, hx⟩ : ∃ x, x = (k : Int) - 48 := ⟨_, rfl⟩
            have hx' : (k : Int) - 48 = x := hx.symm
            have x0 : 0 ≤ x := by omega
            have x1 : x ≤ 9 := by omega
            have e3 : IntKind.u8.wrap x = x := by simp [IntKind.wrap, IntKind.bits, IntKind.signed]; omega
            have e4 : IntKind.i64.wrap x = x := by rw [IntKind.wrap_i64]; omega
            have H2 : Hid (48 ≤ (k : Int) ∧ (k : Int) ≤ 57) := Lib.hid ⟨g0, g2⟩
            have HNx : Hid (fvN s A (c + 1) = v * 10 + x) := Lib.hid (by rw [fvN, ← hp, ← hk, hx', HV.out])
            have HDN : Hid (∀ i, A ≤ i → i < A + (c + 1) → Dgt (bt s i)) := Lib.hid (fun i a b => by
              by_cases he : i = p
              · subst he; rw [← HKt.out]; exact ⟨g0, g2⟩
              · exact HD.out i a (by omega))
            clear hk hp hx
            go_wp2_with fail
            refine (specDgt _ true _ ⟨fun _ => H2.out, fun _ => rfl⟩).mono ?_
            rintro e w' ⟨rfl, rfl⟩
            go_wp2
            go_round
            case rel => exact ⟨c + 1, by have := HP.out; omega, by rw [HNx.out] <;> (first | rfl | go_num), by (have := HP.out; rw [show A + (c + 1) = p + 1 by omega]); go_num, HDN.out⟩
            case measure => simp [intOf]; omega
          · have hpE : p = E := by omega
            subst hpE
            have hnl : ¬ ((p : Int) < (p : Int)) := by omega
            have HL : Hid (lbV s s.size j = v) := Lib.hid (by
              rw [lbV_full, ← HAE.out.1, ← HAE.out.2, HV.out]; congr 1; omega)
            have HTk : Hid ((rnL s).take (j + 1) = (rnL s).take j ++ [v]) := Lib.hid (by rw [rnL_succ HJN.out, HL.out])
            have HAN : Hid (∀ i, s.size ≤ i + 6 * (j + 1) → i < s.size → Dgt (bt s i)) := Lib.hid (fun i a b => by
              have e2 := HE2.out
              by_cases he : i < p
              · have hA0 : A = lbA s j := HAE.out.1
                exact HD.out i (by rw [hA0]; unfold lbA; omega) (by omega)
              · exact HA.out i (by omega) b)
            clear hpe hp
            have hjc : j ≤ 40 := by omega
            have hown := HOw.out
            go_wp2_with (at_builtin; refine wpList_append_own _ rfl _ _ 25 rfl w.heap.size 2 i0 (.int .i64 0) 1 8 Try.underlying25 hi hz0 hz1 hz2 rfl (by decide) _ _ _ rfl (hown.alloc _) ⟨_, 0, none⟩ 1 1 [.int .i64 v] rfl rfl ?e1 ?e2 ?e3 ?e4 ?e5 ?_)
            try (case e1 => exact cellNew _ _ _)
            case e2 => first | exact oneCell _ | rfl
            case e3 => unfold maxLen; omega
            case e4 => omega
            case e5 => first | omega | (simp; omega)
            intro v' w2 hown2 hgrow _
            have HO : Hid (w2.ownsRow w.heap.size 2 1 v' (j + 1) (((rnL s).take (j + 1)).map (Value.int .i64))) := Lib.hid (by rw [HTk.out]; simpa using hown2)
            have HQ := Lib.hid ((HW.out.alloc hsz (Obj.cells #[Value.int IntKind.i64 v] 2)).grown hgrow (by simp; omega) (fun q hq => (hown.lt q hq).1))
            clear hown2 hgrow hown
            go_wp2
            go_roundw
            case rel => exact ⟨j + 1, v', rfl, HJN.out, by (have := HE2.out); first | go_num | (rw [this]; go_num), HAN.out, HO.out, HQ.out⟩
            case measure => simp [intOf]; omega
      · have hjN : j = lbN s := by
          have := HNZ.out
          unfold lbN at hj ⊢; omega
        have g1 : ¬ (0 : Int) < (s.size : Int) - 6 * (j : Int) := by omega
        have HAll : Hid (AllD s) := Lib.hid (fun i hi => HA.out i (by omega) hi)
        have HOk : Hid (NOk s) := Lib.hid ⟨HNZ.out, HS.out, HK.out, HAll.out⟩
        rw [List.take_of_length_le (by rw [rnL, rnRow_length]; omega)] at hown
        have hlen : (rnL s).length = j := by rw [rnL, rnRow_length, hjN]
        have HOw : Hid (Ow wr w.heap.size wr.heap.size ov (rnL s)) := Lib.hid (ow_of_row (by omega) (rnRow_fit _ (Nat.le_refl _) HAll.out) (by rw [hlen]; exact hown) HW.out.size)
        have HF := Lib.hid (rn_good HOk.out)
        have HTr : Hid (canOf (val (rnL s)) = trim (rnL s)) := Lib.hid (canOf_eq (trim_can (rnRow_dig _ (Nat.le_refl _) HAll.out)) (trim_val _))
        clear hown hlen hjN hlt hj
        go_wp2_with (go_at_call 92; refine (specTrim ov (rnL s) _ _ _ HOw.out).mono ?_; rintro e w' ⟨u, rfl, ho, rfl⟩; have HO := Lib.hid ho; clear ho)
        go_ret2
        exact ⟨_, by rw [HF.out.1] <;> rfl, by rw [HF.out.2, HTr.out]; exact HO.out, HW.out⟩
theorem specRdNat (s : ByteArray) (w : World) (hs : s.size ≤ 1048576) :
    Calls Try.prog 21 #[.string s] w fun e w' => ∃ u, e = .returned (.tuple #[u, .bool (rnB s)]) ∧ Ow w' w.heap.size w'.heap.size u (rnV s) ∧ Below w.heap.size w w' := by
  go_enter Try.func21, Try.ntmps21
  go_wp2_with fail
  refine (specRdNat0 s _ hs).mono ?_
  rintro e w1 ⟨u, rfl, ho, hb1⟩
  have HO := Lib.hid ho
  have HB1 := Lib.hid hb1
  clear hb1 ho
  go_wp2
  go_ret2
  exact ⟨_, rfl, HO.out, HB1.out⟩
end Go.Proofs.Ytoppaipiibaocaa.Ints
