/- Programs of fractions: the program's test. -/
import Derived.Test.YtbifkjmmhfnblaaDoorFrc
import Derived.Test.YtbifkjmmhfnblaaDoorFraL
namespace Go.Proofs.YtbifkjmmhfnblaaDoor.Ints
open Go.RowKit
set_option linter.unusedVariables false
set_option linter.unusedSimpArgs false
theorem implFactor (n : Int) (b : Bool) (w : World) (h : b = true ↔ (1 ≤ n ∧ n ≤ 999999)) : Calls Tryd.prog 128 #[.int .i64 n] w fun e w' => e = .returned (.bool b) ∧ w = w' := by
  cases b with
  | true =>
    obtain ⟨h0, h1⟩ := h.1 rfl
    clear h
    go_enter Tryd.func128, Tryd.ntmps128
    go_wp2
    go_ret
    exact ⟨rfl, rfl⟩
  | false =>
    have hn : ¬ (1 ≤ n ∧ n ≤ 999999) := fun h' => by cases h.2 h'
    clear h
    by_cases h0 : 1 ≤ n
    · have h1 : decide (n ≤ 999999) = false := decide_eq_false (fun h1 => hn ⟨h0, h1⟩)
      clear hn
      go_enter Tryd.func128, Tryd.ntmps128
      go_wp2
      go_ret
      exact ⟨rfl, rfl⟩
    · clear hn
      go_enter Tryd.func128, Tryd.ntmps128
      go_wp2
      go_ret
      exact ⟨rfl, rfl⟩
theorem implFactorY (n : Int) (w : World) (h : 1 ≤ n ∧ n ≤ 999999) : Calls Tryd.prog 128 #[.int .i64 n] w fun e w' => e = .returned (.bool true) ∧ w = w' := implFactor n true w ⟨fun _ => h, fun _ => rfl⟩
theorem implFactorN (n : Int) (w : World) (h : ¬ (1 ≤ n ∧ n ≤ 999999)) : Calls Tryd.prog 128 #[.int .i64 n] w fun e w' => e = .returned (.bool false) ∧ w = w' := implFactor n false w ⟨fun h' => (by cases h'), fun h' => absurd h' h⟩
theorem implFraOk (x y : Int) (w : World) : Calls Tryd.prog 101 #[.agg #[.int .i64 x, .int .i64 y]] w fun e w' => e = .returned (.bool (fraB ⟨x, y⟩)) ∧ Below w.heap.size w w' := by
  have HB : Hid (Below w.heap.size w (w.alloc (Obj.cells #[.int .i64 x, .int .i64 y] 92))) := Lib.hid ((Below.refl w.heap.size w).alloc (Nat.le_refl _) _)
  by_cases h1 : 1 ≤ x ∧ x ≤ 999999
  rotate_left
  · have H1 := Lib.hid h1
    have e : Hid (fraB ⟨x, y⟩ = false) := Lib.hid (fraB_false (fun h => h1 h.1))
    clear h1
    go_enter Tryd.func101, Tryd.ntmps101
    go_wp2_with fail
    refine (implFactorN x _ H1.out).mono ?_
    rintro e1 w1 ⟨rfl, rfl⟩
    go_wp2
    go_ret
    exact ⟨by rw [e.out] <;> rfl, HB.out⟩
  have H1 := Lib.hid h1
  clear h1
  by_cases h2 : 1 ≤ y ∧ y ≤ 999999
  rotate_left
  · have H2 := Lib.hid h2
    have e : Hid (fraB ⟨x, y⟩ = false) := Lib.hid (fraB_false (fun h => h2 h.2))
    clear h2
    go_enter Tryd.func101, Tryd.ntmps101
    go_wp2_with fail
    refine (implFactorY x _ H1.out).mono ?_
    rintro e1 w1 ⟨rfl, rfl⟩
    go_wp2_with fail
    refine (implFactorN y _ H2.out).mono ?_
    rintro e1 w1 ⟨rfl, rfl⟩
    go_wp2
    go_ret
    exact ⟨by rw [e.out] <;> rfl, HB.out⟩
  have H2 := Lib.hid h2
  have e : Hid (fraB ⟨x, y⟩ = true) := Lib.hid (fraB_true ⟨H1.out, h2⟩)
  clear h2
  go_enter Tryd.func101, Tryd.ntmps101
  go_wp2_with fail
  refine (implFactorY x _ H1.out).mono ?_
  rintro e1 w1 ⟨rfl, rfl⟩
  go_wp2_with fail
  refine (implFactorY y _ H2.out).mono ?_
  rintro e1 w1 ⟨rfl, rfl⟩
  go_wp2
  go_ret
  exact ⟨by rw [e.out] <;> rfl, HB.out⟩
set_option maxHeartbeats 2000000 in
theorem implEachFra (v : Value) (rs : List Fra) (w : World) (h : RdFra w v rs) :
    Calls Tryd.prog 100 #[.func (Fn.func 101) #[] #[], v] w fun e w' => e = .returned (.bool (allF rs)) ∧ Below w.heap.size w w' := by
  obtain ⟨hl, hf, a, c, rfl, hcap, hr⟩ := h
  go_enter Tryd.func100, Tryd.ntmps100
  go_wp2
  go_loopw [9] (fun s wr => ∃ k : Nat, k ≤ rs.length ∧ s = .int .i64 k ∧ (∀ i, i < k → FraOk (rs.getD i zFra)) ∧ Below w.heap.size w wr) (fun s _ => rs.length - (intOf s).toNat)
  case atStart => exact ⟨0, Nat.zero_le _, rfl, fun i hi => by omega, Below.refl _ _⟩
  case round =>
    obtain ⟨k, hk, rfl, hall, hbel⟩ := hrel
    have HA := Lib.hid hall
    have HB := Lib.hid hbel
    clear hall
    by_cases hlt : k < rs.length
    · obtain ⟨b, o, rfl, hb, hcell⟩ := hr (by intro h0; rw [h0] at hlt; simp at hlt)
      obtain ⟨c0, c1⟩ := hcell k hlt
      replace c0 := (hbel.cell (p := ⟨b, o + k * 2, none⟩) hb).trans c0
      replace c1 := (hbel.cell (p := ⟨b, o + k * 2 + 1, none⟩) hb).trans c1
      obtain ⟨r, hr0⟩ : ∃ r, r = rs.getD k zFra := ⟨_, rfl⟩
      rw [← hr0] at c0 c1
      have HE := Lib.hid hr0
      obtain ⟨x, y⟩ := r
      dsimp only at c0 c1
      have hb0 : ∀ ob : Obj, Hid (Below wr.heap.size wr (wr.alloc ob)) := fun ob => Lib.hid ((Below.refl _ _).alloc (Nat.le_refl _) ob)
      obtain ⟨br, hbr⟩ : ∃ br, br = fraB ⟨x, y⟩ := ⟨_, rfl⟩
      have HBR := Lib.hid hbr
      clear hcell hbel hr0 hr hbr
      go_wp2_with fail
      refine (implFraOk x y _).mono ?_
      rintro e w1 ⟨rfl, hb1⟩
      rw [← HBR.out]
      have HB2 := Lib.hid ((HB.out.trans ((hb0 _).out.mono HB.out.size)).trans (hb1.mono (Nat.le_trans HB.out.size (hb0 _).out.size)))
      clear hb1 c0 c1
      rcases eqOr br with hbr | hbr
      · subst hbr
        have HF : Hid (allF rs = false) := Lib.hid (allF_false (fun h => fraB_no HBR.out.symm (by rw [HE.out]; exact h k hlt)))
        go_wp2
        go_ret
        exact ⟨by rw [HF.out] <;> rfl, HB2.out⟩
      · subst hbr
        have HA2 : Hid (∀ i, i < k + 1 → FraOk (rs.getD i zFra)) := Lib.hid (fun i hi => by
          by_cases e : i = k
          · subst e; rw [← HE.out]; exact fraB_ok HBR.out.symm
          · exact HA.out i (by omega))
        go_wp2
        go_roundw
        case rel => exact ⟨k + 1, by omega, by go_num, HA2.out, HB2.out⟩
        case measure => simp [intOf]; omega
    · obtain rfl : k = rs.length := by omega
      have HF : Hid (allF rs = true) := Lib.hid (allF_true HA.out)
      clear hbel hr
      go_wp2
      go_ret
      exact ⟨by rw [HF.out] <;> rfl, HB.out⟩
theorem implValidFractions (v : Value) (rs : List Fra) (w : World) (hv : RdFra w v rs) :
    Calls Tryd.prog 65 #[v] w fun e w' => e = .returned (.bool (frsB rs)) ∧ Below w.heap.size w w' := by
  have HV := Lib.hid hv
  obtain ⟨_, _, a, c, rfl, _, _⟩ := hv
  by_cases l1 : rs.length < 1
  · have e := Lib.hid (frsB_false (rs := rs) (fun h => by have := h.lo; omega))
    have d1 : decide ((1 : Int) ≤ (rs.length : Int)) = false := decide_eq_false (by omega)
    clear l1
    go_enter Tryd.func65, Tryd.ntmps65
    go_wp2
    go_ret
    exact ⟨by rw [e.out] <;> rfl, Below.refl _ _⟩
  have d1 : decide ((1 : Int) ≤ (rs.length : Int)) = true := decide_eq_true (by omega)
  by_cases l2 : 100 < rs.length
  · have e := Lib.hid (frsB_false (rs := rs) (fun h => by have := h.hi; omega))
    have d2 : decide ((rs.length : Int) ≤ 100) = false := decide_eq_false (by omega)
    clear l1 l2
    go_enter Tryd.func65, Tryd.ntmps65
    go_wp2
    go_ret
    exact ⟨by rw [e.out] <;> rfl, Below.refl _ _⟩
  have d2 : decide ((rs.length : Int) ≤ 100) = true := decide_eq_true (by omega)
  have e : Hid (frsB rs = allF rs) := Lib.hid (allF_frs (by omega) (by omega))
  clear l1 l2
  go_enter Tryd.func65, Tryd.ntmps65
  go_wp2_with fail
  refine (implEachFra _ rs _ HV.out).mono ?_
  rintro e1 w1 ⟨rfl, hb1⟩
  have HB1 := Lib.hid hb1
  clear hb1
  go_wp2
  go_ret
  exact ⟨by rw [e.out] <;> rfl, HB1.out⟩
end Go.Proofs.YtbifkjmmhfnblaaDoor.Ints
