/- Contracts of PowerNatural, of the model and of the program. -/
import Derived.Test.YtknlpoeolicinacMul2
namespace Go.Proofs.Ytknlpoeolicinac.Ints
open Go.RowKit
set_option linter.unusedVariables false

noncomputable def powP (ps : List Int) : Nat → List Int
  | 0 => [1]
  | k + 1 => canOf (val (powP ps k) * val ps)
def PowOk (ps : List Int) (e : Nat) : Prop := ∀ j, j ≤ e → (powP ps j).length ≤ 40
open Classical in
noncomputable def powB (ps : List Int) (e : Nat) : Bool := decide (PowOk ps e)
noncomputable def powZ (ps : List Int) (e : Nat) : List Int := if powB ps e = true then powP ps e else []
noncomputable def powV (ps : List Int) (n : Int) : List Int := if natB ps = true ∧ 0 ≤ n ∧ n ≤ 800 then powZ ps n.toNat else []
noncomputable def powC (ps : List Int) (n : Int) : Int := if natB ps = true then (if 0 ≤ n ∧ n ≤ 800 then (if powB ps n.toNat = true then 0 else 5) else 2) else 1
theorem powP_can {ps : List Int} (h : Can ps) (k : Nat) : Can (powP ps k) := by
  induction k with
  | zero =>
    refine ⟨fun i hi => ?_, .inr (by simp [powP])⟩
    simp [powP] at hi
    subst hi; simp [powP]
  | succ k ih => exact (mul_fits ih h).1
theorem powB_true {ps : List Int} {e : Nat} (h : PowOk ps e) : powB ps e = true ∧ powZ ps e = powP ps e := by
  have : powB ps e = true := by simp [powB, h]
  exact ⟨this, by rw [powZ, if_pos this]⟩
theorem powB_false {ps : List Int} {e k : Nat} (hk : k ≤ e) (h : ¬ (powP ps k).length ≤ 40) : powB ps e = false ∧ powZ ps e = [] := by
  have : powB ps e = false := by
    simp only [powB, decide_eq_false_iff_not]
    exact fun H => h (H k hk)
  exact ⟨this, by rw [powZ, this]; rfl⟩
theorem limbs_one : limbs 1 = [1] := by
  have := limbs_can (n := 1) (by omega)
  exact can_uniq this.1 (powP_can (ps := []) can_nil 0) (by rw [this.2]; simp [val])
theorem Ow.one (w : World) (x : Int) (h0 : -9223372036854775808 ≤ x) (h1 : x ≤ 9223372036854775807) : Ow (w.alloc (.cells #[Value.int .i64 x] 2)) w.heap.size (w.heap.size + 1) (.slice (some ⟨w.heap.size, 0, none⟩) 1 1) [x] := by
  have hb : Blk (w.alloc (.cells #[Value.int .i64 x] 2)) w.heap.size 1 [x] := ⟨[], rfl, heap_alloc_new w _⟩
  have h2 := hb.ow (B := w.heap.size) (Nat.le_refl _) (by unfold maxLen; omega) (by simp) (fun z hz => by simp at hz; subst hz; exact ⟨h0, h1⟩)
  simpa using h2

set_option maxHeartbeats 2000000 in
theorem specPowLoop (u : Value) (ps : List Int) (e : Nat) (w : World) (hu : Rd w u ps) (hp : Can ps) (hla : ps.length ≤ 40) (he : e ≤ 800) :
    Calls Try.prog 57 #[u, .int .i64 (e : Int)] w fun x w' => ∃ r, x = .returned (.tuple #[r, .bool (powB ps e)]) ∧ Ow w' w.heap.size w'.heap.size r (powZ ps e) ∧ Below w.heap.size w w' := by
  have HU := Lib.hid hu
  have HP := Lib.hid hp
  have H1 := Lib.hid (Ow.one w 1 (by omega) (by omega))
  clear hu hp
  go_enter Try.func57, Try.ntmps57
  go_wp2
  go_loopw [1, 6] (fun x o wr => ∃ (k m : Nat) (ov : Value), k + m = e ∧ x = .int .i64 m ∧ o = ov ∧ PowOk ps k ∧ Ow wr w.heap.size wr.heap.size ov (powP ps k) ∧ Below w.heap.size w wr) (fun x _ _ => (intOf x).toNat)
  case atStart => exact ⟨0, e, _, by omega, rfl, rfl, fun j hj => by rw [Nat.le_zero.1 hj]; simp [powP], by simpa [powP] using H1.out, (Below.refl _ _).alloc (Nat.le_refl _) _⟩
  case round =>
    obtain ⟨k, m, ov, hkm, rfl, hov, hok, ho, hb⟩ := hrel
    obtain rfl := hov.symm
    have HK := Lib.hid hok
    have HO := Lib.hid ho
    have HB := Lib.hid hb
    clear hok ho hb
    cases m with
    | zero =>
      have HF := Lib.hid (powB_true (show PowOk ps e by have := HK.out; rwa [show k = e by omega] at this))
      have HE : Hid (k = e) := Lib.hid (by omega)
      go_wp2
      go_ret2
      exact ⟨_, by rw [HF.out.1] <;> rfl, by rw [HF.out.2, ← HE.out]; exact HO.out, HB.out⟩
    | succ m =>
      have hp1 : (0 : Int) < ((m + 1 : Nat) : Int) := by omega
      have hp2 : (0 : Int) < (m : Int) + 1 := by omega
      go_wp2_with fail
      refine (specMul _ _ _ ps _ HO.out.rd (HU.out.below HB.out (Nat.le_refl _)) (powP_can HP.out k) HP.out (by have := HK.out k (Nat.le_refl _); omega) (by omega)).mono ?_
      rintro x w1 ⟨r, rfl, ho, hb⟩
      have HO2 := Lib.hid (ho.mono HB.out.size (Nat.le_refl _) (Nat.le_refl _))
      have HB2 := Lib.hid (HB.out.trans (hb.mono HB.out.size))
      obtain ⟨a, c, rfl⟩ := ho.slice
      clear ho hb
      have HL : Hid ((canOf (val (powP ps k) * val ps)).length = (powP ps (k + 1)).length) := Lib.hid rfl
      rw [HL.out]
      by_cases h40 : (powP ps (k + 1)).length ≤ 40
      · have q1 : ¬ (40 : Int) < ((powP ps (k + 1)).length : Int) := by omega
        have HK2 : Hid (PowOk ps (k + 1)) := Lib.hid (fun j hj => by
          by_cases e1 : j = k + 1
          · rw [e1]; exact h40
          · exact HK.out j (by omega))
        clear h40
        go_wp2
        go_roundw
        case rel => exact ⟨k + 1, m, _, by omega, by go_num, rfl, HK2.out, HO2.out, HB2.out⟩
        case measure => simp [intOf]
      · have q1 : (40 : Int) < ((powP ps (k + 1)).length : Int) := by omega
        have HF := Lib.hid (powB_false (ps := ps) (e := e) (k := k + 1) (by omega) h40)
        clear h40
        go_wp2
        go_ret2
        exact ⟨_, by rw [HF.out.1] <;> rfl, by rw [HF.out.2]; exact HO2.out.nilIn, HB2.out⟩
theorem pow_bad {ps : List Int} {n : Int} (h : natB ps = false) : powV ps n = [] ∧ powC ps n = 1 := by simp [powV, powC, h]
theorem pow_range {ps : List Int} {n : Int} (h : natB ps = true) (k : ¬ (0 ≤ n ∧ n ≤ 800)) : powV ps n = [] ∧ powC ps n = 2 := by
  rw [powV, powC, if_neg (fun H => k H.2), if_pos h, if_neg k]; exact ⟨rfl, rfl⟩
theorem pow_good {ps : List Int} {e : Nat} (h : natB ps = true) (k : e ≤ 800) : powV ps e = powZ ps e ∧ powC ps e = if powB ps e = true then 0 else 5 := by
  have q : (0 : Int) ≤ (e : Int) ∧ (e : Int) ≤ 800 := by omega
  rw [powV, powC, if_pos ⟨h, q⟩, if_pos h, if_pos q, Int.toNat_natCast]; exact ⟨rfl, rfl⟩
theorem specPowerNatural (u : Value) (ps : List Int) (n : Int) (w : World) (hu : Rd w u ps) :
    Calls Try.prog 29 #[u, .int .i64 n] w fun e w' => ∃ r, e = .returned (.tuple #[r, .int .i64 (powC ps n)]) ∧ Ow w' w.heap.size w'.heap.size r (powV ps n) ∧ Below w.heap.size w w' := by
  have HU := Lib.hid hu
  clear hu
  rcases eq_or (natB ps) with hx | hx
  · have HX := Lib.hid hx
    have HR := Lib.hid (pow_bad (n := n) hx)
    clear hx
    go_enter Try.func29, Try.ntmps29
    go_wp2_with (go_at_call 43; refine (specNat _ ps _ HU.out).mono ?_; rintro e w' ⟨rfl, rfl⟩; rw [HX.out])
    go_ret2
    exact ⟨_, by rw [HR.out.2] <;> rfl, by rw [HR.out.1]; exact Ow.nilOf w, Below.refl _ _⟩
  · have HX := Lib.hid hx
    by_cases hr : 0 ≤ n ∧ n ≤ 800
    · obtain ⟨e, rfl⟩ : ∃ e : Nat, n = e := ⟨n.toNat, by omega⟩
      have he : e ≤ 800 := by omega
      obtain ⟨r0, r1⟩ := hr
      have HG := Lib.hid (pow_good hx he)
      have HP := Lib.hid (natB_can hx)
      clear hx
      rcases eq_or (powB ps e) with hb | hb
      · have HPB := Lib.hid hb
        have HZ : Hid (powC ps e = 5 ∧ powV ps e = []) := Lib.hid ⟨by rw [HG.out.2, hb]; rfl, by rw [HG.out.1, powZ, hb]; rfl⟩
        clear hb
        go_enter Try.func29, Try.ntmps29
        go_wp2_with (first | (go_at_call 43; refine (specNat _ ps _ HU.out).mono ?_; rintro e w' ⟨rfl, rfl⟩; rw [HX.out]) | (go_at_call 57; refine (specPowLoop _ ps e _ HU.out HP.out.1 HP.out.2 he).mono ?_; rintro x w1 ⟨r, rfl, ho, hb⟩; rw [HPB.out]; have HO := Lib.hid ho; have HB := Lib.hid hb; clear ho hb) | go_in)
        go_ret2
        exact ⟨_, by rw [HZ.out.1] <;> rfl, by rw [HZ.out.2]; exact Ow.nilUp HB.out.size, HB.out⟩
      · have HPB := Lib.hid hb
        have HZ : Hid (powC ps e = 0 ∧ powV ps e = powZ ps e) := Lib.hid ⟨by rw [HG.out.2, hb]; rfl, HG.out.1⟩
        clear hb
        go_enter Try.func29, Try.ntmps29
        go_wp2_with (first | (go_at_call 43; refine (specNat _ ps _ HU.out).mono ?_; rintro e w' ⟨rfl, rfl⟩; rw [HX.out]) | (go_at_call 57; refine (specPowLoop _ ps e _ HU.out HP.out.1 HP.out.2 he).mono ?_; rintro x w1 ⟨r, rfl, ho, hb⟩; rw [HPB.out]; have HO := Lib.hid ho; have HB := Lib.hid hb; clear ho hb) | go_in)
        go_ret2
        exact ⟨_, by rw [HZ.out.1] <;> rfl, by rw [HZ.out.2]; exact HO.out, HB.out⟩
    · have HR := Lib.hid (pow_range hx hr)
      by_cases h0 : 0 ≤ n
      · have h1 : ¬ n ≤ 800 := by omega
        have h2 : decide (n ≤ 800) = false := by simp; omega
        clear hx hr h1
        go_enter Try.func29, Try.ntmps29
        go_wp2_with (first | (go_at_call 43; refine (specNat _ ps _ HU.out).mono ?_; rintro e w' ⟨rfl, rfl⟩; rw [HX.out]) | go_in)
        go_ret2
        exact ⟨_, by rw [HR.out.2] <;> rfl, by rw [HR.out.1]; exact Ow.nilOf w, Below.refl _ _⟩
      · clear hx hr
        go_enter Try.func29, Try.ntmps29
        go_wp2_with (first | (go_at_call 43; refine (specNat _ ps _ HU.out).mono ?_; rintro e w' ⟨rfl, rfl⟩; rw [HX.out]) | go_in)
        go_ret2
        exact ⟨_, by rw [HR.out.2] <;> rfl, by rw [HR.out.1]; exact Ow.nilOf w, Below.refl _ _⟩
set_option maxHeartbeats 2000000 in
theorem implPowerNatural (u : Value) (ps : List Int) (n : Int) (w : World) (hu : Rd w u ps) :
    Calls Try.prog 30 #[u, .int .i64 n] w fun e w' => ∃ r, e = .returned (.tuple #[r, .int .i64 (powC ps n)]) ∧ Ow w' w.heap.size w'.heap.size r (powV ps n) ∧ Below w.heap.size w w' := by
  have HU := Lib.hid hu
  clear hu
  rcases eq_or (natB ps) with hx | hx
  · have HX := Lib.hid hx
    have HR := Lib.hid (pow_bad (n := n) hx)
    clear hx
    go_enter Try.func30, Try.ntmps30
    go_wp2_with fail
    refine (implNat _ ps _ HU.out).mono ?_
    rintro e w' ⟨rfl, hb⟩
    rw [HX.out]
    have HB := Lib.hid hb
    clear hb
    go_wp2
    go_ret2
    exact ⟨_, by rw [HR.out.2] <;> rfl, by rw [HR.out.1]; exact Ow.nilUp HB.out.size, HB.out⟩
  · have HX := Lib.hid hx
    by_cases hr : 0 ≤ n ∧ n ≤ 800
    · obtain ⟨e, rfl⟩ : ∃ e : Nat, n = e := ⟨n.toNat, by omega⟩
      have he : e ≤ 800 := by omega
      have r0 : ¬ (e : Int) < 0 := by omega
      have r1 : ¬ (800 : Int) < (e : Int) := by omega
      have HG := Lib.hid (pow_good hx he)
      have HP := Lib.hid (natB_can hx)
      have hla := (natB_can hx).2
      clear hx hr
      go_enter Try.func30, Try.ntmps30
      go_wp2_with fail
      refine (implNat _ ps _ HU.out).mono ?_
      rintro x w1 ⟨rfl, hb⟩
      rw [HX.out]
      have HB1 := Lib.hid hb
      clear hb
      go_wp2_with fail
      refine (implLimbs 1 _ (by omega) (by omega)).mono ?_
      rintro x w2 ⟨r1', rfl, ho, hb⟩
      rw [limbs_one] at ho
      have HO1 := Lib.hid (ho.mono HB1.out.size (Nat.le_refl _) (Nat.le_refl _))
      have HB2 := Lib.hid (HB1.out.trans (hb.mono HB1.out.size))
      clear ho hb
      go_wp2
      go_loopw [6, 18] (fun o x wr => ∃ (k : Nat) (ov : Value), k ≤ e ∧ x = .int .i64 k ∧ o = ov ∧ PowOk ps k ∧ Ow wr w.heap.size wr.heap.size ov (powP ps k) ∧ Below w.heap.size w wr) (fun _ x _ => e - (intOf x).toNat)
      case atStart => exact ⟨0, _, Nat.zero_le _, rfl, rfl, fun j hj => by rw [Nat.le_zero.1 hj]; simp [powP], HO1.out, HB2.out⟩
      case round =>
        obtain ⟨k, ov, hk, rfl, hov, hok, ho, hb⟩ := hrel
        obtain rfl := hov.symm
        have HK := Lib.hid hok
        have HO := Lib.hid ho
        have HB := Lib.hid hb
        clear hok ho hb
        by_cases hke : k < e
        · have hke2 : (k : Int) < (e : Int) := by omega
          go_wp2_with fail
          refine (implMul _ _ _ ps _ HO.out.rd (HU.out.below HB.out (Nat.le_refl _)) (powP_can HP.out.1 k) HP.out.1 (by have := HK.out k (Nat.le_refl _); omega) (by omega)).mono ?_
          rintro x w3 ⟨r, rfl, ho, hb⟩
          have HO2 := Lib.hid (ho.mono HB.out.size (Nat.le_refl _) (Nat.le_refl _))
          have HB3 := Lib.hid (HB.out.trans (hb.mono HB.out.size))
          obtain ⟨a, c, rfl⟩ := ho.slice
          clear ho hb
          have HL : Hid ((canOf (val (powP ps k) * val ps)).length = (powP ps (k + 1)).length) := Lib.hid rfl
          rw [HL.out]
          by_cases h40 : (powP ps (k + 1)).length ≤ 40
          · have q1 : ¬ (40 : Int) < ((powP ps (k + 1)).length : Int) := by omega
            have HK2 : Hid (PowOk ps (k + 1)) := Lib.hid (fun j hj => by
              by_cases e1 : j = k + 1
              · rw [e1]; exact h40
              · exact HK.out j (by omega))
            clear h40
            go_wp2
            go_roundw
            case rel => exact ⟨k + 1, _, by omega, by go_num, rfl, HK2.out, HO2.out, HB3.out⟩
            case measure => simp [intOf]; omega
          · have q1 : (40 : Int) < ((powP ps (k + 1)).length : Int) := by omega
            have HF := Lib.hid (powB_false (ps := ps) (e := e) (k := k + 1) (by omega) h40)
            have HZ : Hid (powC ps e = 5 ∧ powV ps e = []) := Lib.hid ⟨by rw [HG.out.2, HF.out.1]; rfl, by rw [HG.out.1, HF.out.2]⟩
            clear h40
            go_wp2
            go_ret2
            exact ⟨_, by rw [HZ.out.1] <;> rfl, by rw [HZ.out.2]; exact HO2.out.nilIn, HB3.out⟩
        · have hke2 : ¬ (k : Int) < (e : Int) := by omega
          have HE : Hid (k = e) := Lib.hid (by omega)
          have HF := Lib.hid (powB_true (show PowOk ps e by have := HK.out; rwa [HE.out] at this))
          have HZ : Hid (powC ps e = 0 ∧ powV ps e = powP ps e) := Lib.hid ⟨by rw [HG.out.2, HF.out.1]; rfl, by rw [HG.out.1, HF.out.2]⟩
          go_wp2
          go_ret2
          exact ⟨_, by rw [HZ.out.1] <;> rfl, by rw [HZ.out.2, ← HE.out]; exact HO.out, HB.out⟩
    · have HR := Lib.hid (pow_range hx hr)
      by_cases h0 : n < 0
      · clear hx hr
        go_enter Try.func30, Try.ntmps30
        go_wp2_with fail
        refine (implNat _ ps _ HU.out).mono ?_
        rintro e w' ⟨rfl, hb⟩
        rw [HX.out]
        have HB := Lib.hid hb
        clear hb
        go_wp2
        go_ret2
        exact ⟨_, by rw [HR.out.2] <;> rfl, by rw [HR.out.1]; exact Ow.nilUp HB.out.size, HB.out⟩
      · have h1 : 800 < n := by omega
        clear hx hr
        go_enter Try.func30, Try.ntmps30
        go_wp2_with fail
        refine (implNat _ ps _ HU.out).mono ?_
        rintro e w' ⟨rfl, hb⟩
        rw [HX.out]
        have HB := Lib.hid hb
        clear hb
        go_wp2
        go_ret2
        exact ⟨_, by rw [HR.out.2] <;> rfl, by rw [HR.out.1]; exact Ow.nilUp HB.out.size, HB.out⟩
end Go.Proofs.Ytknlpoeolicinac.Ints
