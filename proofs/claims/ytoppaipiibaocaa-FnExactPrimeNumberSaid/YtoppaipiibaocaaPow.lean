/- Contracts of PowerNatural, of the model and of the program. -/
import Derived.Test.YtoppaipiibaocaaMul2
namespace Go.Proofs.Ytoppaipiibaocaa.Ints
open Go.RowKit
set_option linter.unusedVariables false

noncomputable def powP (ps : List Int) : Nat → List Int
  | 0 => [1]
  | k + 1 => canOf (val (powP ps k) * val ps)
def PowOk (ps : List Int) (e : Nat) : Prop := ∀ j, j ≤ e → (powP ps j).length ≤ 40
open Classical in
noncomputable def powB (ps : List Int) (e : Nat) : Bool := decide (PowOk ps e)
noncomputable def powZ (ps : List Int) (e : Nat) : List Int := if powB ps e = true then powP ps e else []
noncomputable def powV (ps : List Int) (n : Int) : List Int := if natB ps = true ∧ 0 ≤ n ∧ n ≤ 800 then powZ ps n.toNat else []
noncomputable def powC (ps : List Int) (n : Int) : Int := if natB ps = true then (if 0 ≤ n ∧ n ≤ 800 then (if powB ps n.toNat = true then 0 else 5) else 2) else 1
theorem powP_can {ps : List Int} (h : Can ps) (k : Nat) : Can (powP ps k) := by
  induction k with
  | zero =>
    refine ⟨fun i hi => ?_, .inr (by simp [powP])⟩
    simp [powP] at hi
    subst hi; simp [powP]
  | succ k ih => exact (mul_fits ih h).1
theorem powB_true {ps : List Int} {e : Nat} (h : PowOk ps e) : powB ps e = true ∧ powZ ps e = powP ps e := by
  have : powB ps e = true := by simp [powB, h]
  exact ⟨this, by rw [powZ, if_pos this]⟩
theorem powB_false {ps : List Int} {e k : Nat} (hk : k ≤ e) (h : ¬ (powP ps k).length ≤ 40) : powB ps e = false ∧ powZ ps e = [] := by
  have : powB ps e = false := by
    simp only [powB, decide_eq_false_iff_not]
    exact fun H => h (H k hk)
  exact ⟨this, by rw [powZ, this]; rfl⟩
theorem limbs_one : limbs 1 = [1] := by
  have := limbs_can (n := 1) (by omega)
  exact can_uniq this.1 (powP_can (ps := []) can_nil 0) (by rw [this.2]; simp [val])
theorem Ow.one (w : World) (x : Int) (h0 : -9223372036854775808 ≤ x) (h1 : x ≤ 9223372036854775807) : Ow (w.alloc (.cells #[Value.int .i64 x] 2)) w.heap.size (w.heap.size + 1) (.slice (some ⟨w.heap.size, 0, none⟩) 1 1) [x] := by
  have hb : Blk (w.alloc (.cells #[Value.int .i64 x] 2)) w.heap.size 1 [x] := ⟨[], rfl, heap_alloc_new w _⟩
  have h2 := hb.ow (B := w.heap.size) (Nat.le_refl _) (by unfold maxLen; omega) (by simp) (fun z hz => by simp at hz; subst hz; exact ⟨h0, h1⟩)
  simpa using h2

set_option maxHeartbeats 2000000 in
theorem specPowLoop (u : Value) (ps : List Int) (e : Nat) (w : World) (hu : Rd w u ps) (hp : Can ps) (hla : ps.length ≤ 40) (he : e ≤ 900) :
    Calls Try.prog 49 #[u, .int .i64 (e : Int)] w fun x w' => ∃ r, x = .returned (.tuple #[r, .bool (powB ps e)]) ∧ Ow w' w.heap.size w'.heap.size r (powZ ps e) ∧ Below w.heap.size w w' := by
  have HU := Lib.hid hu
  have HP := Lib.hid hp
  have H1 := Lib.hid (Ow.one w 1 (by omega) (by omega))
  clear hu hp
  go_enter Try.func49, Try.ntmps49
  go_wp2
  go_loopw [1, 6] (fun x o wr => ∃ (k m : Nat) (ov : Value), k + m = e ∧ x = .int .i64 m ∧ o = ov ∧ PowOk ps k ∧ Ow wr w.heap.size wr.heap.size ov (powP ps k) ∧ Below w.heap.size w wr) (fun x _ _ => (intOf x).toNat)
  case atStart => exact ⟨0, e, _, by omega, rfl, rfl, fun j hj => by rw [Nat.le_zero.1 hj]; simp [powP], by simpa [powP] using H1.out, (Below.refl _ _).alloc (Nat.le_refl _) _⟩
  case round =>
    obtain ⟨k, m, ov, hkm, rfl, hov, hok, ho, hb⟩ := hrel
    obtain rfl := hov.symm
    have HK := Lib.hid hok
    have HO := Lib.hid ho
    have HB := Lib.hid hb
    clear hok ho hb
    cases m with
    | zero =>
      have HF := Lib.hid (powB_true (show PowOk ps e by have := HK.out; rwa [show k = e by omega] at this))
      have HE : Hid (k = e) := Lib.hid (by omega)
      go_wp2
      go_ret2
      exact ⟨_, by rw [HF.out.1] <;> rfl, by rw [HF.out.2, ← HE.out]; exact HO.out, HB.out⟩
    | succ m =>
      have hp1 : (0 : Int) < ((m + 1 : Nat) : Int) := by omega
      have hp2 : (0 : Int) < (m : Int) + 1 := by omega
      go_wp2_with fail
      refine (specMul _ _ _ ps _ HO.out.rd (HU.out.below HB.out (Nat.le_refl _)) (powP_can HP.out k) HP.out (by have := HK.out k (Nat.le_refl _); omega) (by omega)).mono ?_
      rintro x w1 ⟨r, rfl, ho, hb⟩
      have HO2 := Lib.hid (ho.mono HB.out.size (Nat.le_refl _) (Nat.le_refl _))
      have HB2 := Lib.hid (HB.out.trans (hb.mono HB.out.size))
      obtain ⟨a, c, rfl⟩ := ho.slice
      clear ho hb
      have HL : Hid ((canOf (val (powP ps k) * val ps)).length = (powP ps (k + 1)).length) := Lib.hid rfl
      rw [HL.out]
      by_cases h40 : (powP ps (k + 1)).length ≤ 40
      · have q1 : ¬ (40 : Int) < ((powP ps (k + 1)).length : Int) := by omega
        have HK2 : Hid (PowOk ps (k + 1)) := Lib.hid (fun j hj => by
          by_cases e1 : j = k + 1
          · rw [e1]; exact h40
          · exact HK.out j (by omega))
        clear h40
        go_wp2
        go_roundw
        case rel => exact ⟨k + 1, m, _, by omega, by go_num, rfl, HK2.out, HO2.out, HB2.out⟩
        case measure => simp [intOf]
      · have q1 : (40 : Int) < ((powP ps (k + 1)).length : Int) := by omega
        have HF := Lib.hid (powB_false (ps := ps) (e := e) (k := k + 1) (by omega) h40)
        clear h40
        go_wp2
        go_ret2
        exact ⟨_, by rw [HF.out.1] <;> rfl, by rw [HF.out.2]; exact HO2.out.nilIn, HB2.out⟩
theorem pow_bad {ps : List Int} {n : Int} (h : natB ps = false) : powV ps n = [] ∧ powC ps n = 1 := by simp [powV, powC, h]
theorem pow_range {ps : List Int} {n : Int} (h : natB ps = true) (k : ¬ (0 ≤ n ∧ n ≤ 800)) : powV ps n = [] ∧ powC ps n = 2 := by
  rw [powV, powC, if_neg (fun H => k H.2), if_pos h, if_neg k]; exact ⟨rfl, rfl⟩
theorem pow_good {ps : List Int} {e : Nat} (h : natB ps = true) (k : e ≤ 800) : powV ps e = powZ ps e ∧ powC ps e = if powB ps e = true then 0 else 5 := by
  have q : (0 : Int) ≤ (e : Int) ∧ (e : Int) ≤ 800 := by omega
  rw [powV, powC, if_pos ⟨h, q⟩, if_pos h, if_pos q, Int.toNat_natCast]; exact ⟨rfl, rfl⟩
end Go.Proofs.Ytoppaipiibaocaa.Ints
