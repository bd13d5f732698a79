/- The text of a list of numbers, of the program. -/
import Derived.Test.YtbifkjmmhfnblaaDoorLtS
import Derived.OwnWalk
namespace Go.Proofs.YtbifkjmmhfnblaaDoor.Ints
open Go.RowKit
set_option linter.unusedVariables false
set_option linter.unusedSimpArgs false
theorem closLt (x : Int) (b : Bool) (w : World) (h : b = true ↔ ¬ (-1000000000000 ≤ x ∧ x ≤ 1000000000000)) :
    Calls Tryd.prog 87 #[.int .i64 x] w fun e w' => e = .returned (.bool b) ∧ w = w' := by
  by_cases h1 : x < -1000000000000
  · have HF : Hid (b = true) := Lib.hid (h.2 (by omega))
    clear h
    go_enter Tryd.func87, Tryd.ntmps87
    go_wp2
    go_ret
    exact ⟨by rw [HF.out] <;> rfl, rfl⟩
  by_cases h2 : 1000000000000 < x
  · have HF : Hid (b = true) := Lib.hid (h.2 (by omega))
    have e1 : decide (x < -1000000000000) = false := decide_eq_false h1
    clear h
    go_enter Tryd.func87, Tryd.ntmps87
    go_wp2
    go_ret
    exact ⟨by rw [HF.out] <;> rfl, rfl⟩
  · have HF : Hid (b = false) := Lib.hid (by cases b with | false => rfl | true => exact absurd (h.1 rfl) (by omega))
    have e1 : decide (x < -1000000000000) = false := decide_eq_false h1
    have e2 : decide (1000000000000 < x) = false := decide_eq_false h2
    clear h
    go_enter Tryd.func87, Tryd.ntmps87
    go_wp2
    go_ret
    exact ⟨by rw [HF.out] <;> rfl, rfl⟩
set_option maxHeartbeats 1000000 in
theorem indexLt (v : Value) (zs : List Int) (w : World) (h : Rd w v zs) :
    Calls Tryd.prog 120 #[v, .func (Fn.func 87) #[] #[]] w fun e w' =>
      ∃ r : Int, e = .returned (.int .i64 r) ∧ decide (0 ≤ r) = !betB (-1000000000000) 1000000000000 zs ∧ w = w' := by
  obtain ⟨hl, hf, a, c, rfl, hcap, hr⟩ := h
  go_enter Tryd.func120, Tryd.ntmps120
  go_wp2
  go_loop [8] (fun s => ∃ k : Nat, k ≤ zs.length ∧ s = .int .i64 k ∧ ∀ i, i < k → -1000000000000 ≤ zs.getD i 0 ∧ zs.getD i 0 ≤ 1000000000000) (fun s => zs.length - (intOf s).toNat)
  case atStart => exact ⟨0, Nat.zero_le _, rfl, fun i hi => by omega⟩
  case round =>
    obtain ⟨k, hk, rfl, hall⟩ := hrel
    have HA := Lib.hid hall
    clear hall
    by_cases hlt : k < zs.length
    · obtain ⟨b, o, rfl, hb, hcell⟩ := hr (by intro h0; rw [h0] at hlt; simp at hlt)
      have hc := hcell k hlt
      obtain ⟨x, hx⟩ : ∃ x, x = zs.getD k 0 := ⟨_, rfl⟩
      rw [← hx] at hc
      have HX := Lib.hid hx
      clear hcell hr hx
      by_cases hg : -1000000000000 ≤ x ∧ x ≤ 1000000000000
      · have HN : Hid (∀ i, i < k + 1 → -1000000000000 ≤ zs.getD i 0 ∧ zs.getD i 0 ≤ 1000000000000) := Lib.hid (fun i hi => by
          by_cases he : i = k
          · subst he; rw [← HX.out]; exact hg
          · exact HA.out i (by omega))
        have HG := Lib.hid hg
        clear hg
        go_wp2_with fail
        refine (closLt x false _ ⟨(fun h => by cases h), (fun h => absurd HG.out h)⟩).mono ?_
        rintro e w' ⟨rfl, rfl⟩
        go_wp2
        go_round
        case rel => exact ⟨k + 1, by omega, by go_num, HN.out⟩
        case measure => simp [intOf]; omega
      · have HF : Hid (betB (-1000000000000) 1000000000000 zs = false) := Lib.hid (betB_false fun H => hg (by rw [HX.out]; exact H k hlt))
        have HG := Lib.hid hg
        clear hg
        go_wp2_with fail
        refine (closLt x true _ ⟨fun _ => HG.out, fun _ => rfl⟩).mono ?_
        rintro e w' ⟨rfl, rfl⟩
        go_wp2
        go_ret
        exact ⟨k, rfl, by rw [HF.out]; simp, rfl⟩
    · have HF : Hid (betB (-1000000000000) 1000000000000 zs = true) := Lib.hid (betB_true fun i hi => HA.out i (by omega))
      go_wp2
      go_ret
      exact ⟨-1, rfl, by rw [HF.out]; rfl, rfl⟩
theorem containsLt (v : Value) (zs : List Int) (w : World) (h : Rd w v zs) :
    Calls Tryd.prog 86 #[v, .func (Fn.func 87) #[] #[]] w fun e w' => e = .returned (.bool (!betB (-1000000000000) 1000000000000 zs)) ∧ w = w' := by
  have H := Lib.hid h
  clear h
  go_enter Tryd.func86, Tryd.ntmps86
  go_wp2_with fail
  refine (indexLt _ zs _ H.out).mono ?_
  rintro e w' ⟨r, rfl, hr, rfl⟩
  have HR := Lib.hid hr
  clear hr
  go_wp2
  go_ret
  exact ⟨by rw [← HR.out] <;> rfl, rfl⟩

theorem implHas (v : Value) (zs : List Int) (w : World) (h : Rd w v zs) :
    Calls Tryd.prog 46 #[v] w fun e w' => e = .returned (.bool (fitB zs)) ∧ w = w' := by
  have H := Lib.hid h
  obtain ⟨_, _, a, c, rfl, _, _⟩ := h
  obtain ⟨b, hb⟩ : ∃ b, b = betB (-1000000000000) 1000000000000 zs := ⟨_, rfl⟩
  have HB := Lib.hid hb
  by_cases hl : zs.length ≤ 64
  rotate_left
  · have e1 : decide ((zs.length : Int) ≤ 64) = false := decide_eq_false (by omega)
    have HF : Hid (fitB zs = false) := Lib.hid (by rw [fitB, decide_eq_false hl]; rfl)
    clear hb hl
    go_enter Tryd.func46, Tryd.ntmps46
    go_wp2_with fail
    go_ret
    exact ⟨by rw [HF.out] <;> rfl, rfl⟩
  have e1 : decide ((zs.length : Int) ≤ 64) = true := decide_eq_true (by omega)
  have HF : Hid (fitB zs = b) := Lib.hid (by rw [fitB, decide_eq_true hl, hb]; rfl)
  clear hb hl
  go_enter Tryd.func46, Tryd.ntmps46
  go_wp2_with fail
  refine (containsLt _ zs _ H.out).mono ?_
  rintro e w1 ⟨rfl, rfl⟩
  rw [← HB.out]
  go_wp2
  go_ret
  exact ⟨by rw [HF.out]; simp, rfl⟩
end Go.Proofs.YtbifkjmmhfnblaaDoor.Ints
