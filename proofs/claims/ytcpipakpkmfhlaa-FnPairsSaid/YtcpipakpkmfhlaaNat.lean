/- Contracts of the model's and the program's tests for naturals. -/
import Derived.Test.YtcpipakpkmfhlaaDig
namespace Go.Proofs.Ytcpipakpkmfhlaa.Ints
open Go.RowKit
set_option linter.unusedVariables false

/-- A natural. -/
def Natl (zs : List Int) : Prop := zs.length ≤ 40 ∧ Dig 1000000 zs ∧ (zs.length = 0 ∨ zs.getD (zs.length - 1) 0 ≠ 0)
open Classical in
noncomputable def natB (zs : List Int) : Bool := decide (Natl zs)
theorem natB_true {zs : List Int} (h : Natl zs) : natB zs = true := by simp [natB, h]
theorem natB_false {zs : List Int} (h : ¬ Natl zs) : natB zs = false := by simp [natB, h]

set_option maxHeartbeats 1000000 in
theorem specNat (v : Value) (zs : List Int) (w : World) (h : Rd w v zs) :
    Calls Try.prog 48 #[v] w fun e w' => e = .returned (.bool (natB zs)) ∧ w = w' := by
  obtain ⟨hl, hf, a, c, rfl, hcap, hr⟩ := h
  by_cases h40 : 40 < zs.length
  · have HN := Lib.hid (natB_false (zs := zs) fun H => by have := H.1; omega)
    have h40' : (40 : Int) < (zs.length : Int) := by omega
    go_enter Try.func48, Try.ntmps48
    go_wp2
    go_ret
    exact ⟨by rw [HN.out] <;> rfl, rfl⟩
  · have h40' : ¬ (40 : Int) < (zs.length : Int) := by omega
    go_enter Try.func48, Try.ntmps48
    go_wp2
    go_loop [3] (fun s => ∃ k : Nat, k ≤ zs.length ∧ s = .int .i64 k ∧ ∀ i, i < k → 0 ≤ zs.getD i 0 ∧ zs.getD i 0 < 1000000) (fun s => zs.length - (intOf s).toNat)
    case atStart => exact ⟨0, Nat.zero_le _, rfl, fun i hi => by omega⟩
    case round =>
      obtain ⟨k, hk, rfl, hall⟩ := hrel
      have HA := Lib.hid hall
      clear hall
      by_cases hlt : k < zs.length
      · obtain ⟨b, o, rfl, hb, hcell⟩ := hr (by intro h0; rw [h0] at hlt; simp at hlt)
        have hc := hcell k hlt
        obtain ⟨x, hx⟩ : ∃ x, x = zs.getD k 0 := ⟨_, rfl⟩
        rw [← hx] at hc
        have HX := Lib.hid hx
        clear hcell hr hx
        by_cases hg : 0 ≤ x ∧ x < 1000000
        · have HN : Hid (∀ i, i < k + 1 → 0 ≤ zs.getD i 0 ∧ zs.getD i 0 < 1000000) := Lib.hid (fun i hi => by
            by_cases he : i = k
            · subst he; rw [← HX.out]; exact hg
            · exact HA.out i (by omega))
          obtain ⟨hg0, hg1⟩ := hg
          have hg2 : x ≤ 999999 := by omega
          go_wp2
          go_round
          case rel => exact ⟨k + 1, by omega, by go_num, HN.out⟩
          case measure => simp [intOf]; omega
        · have HF : Hid (natB zs = false) := Lib.hid (natB_false fun H => hg (by rw [HX.out]; exact H.2.1 k hlt))
          by_cases h0 : 0 ≤ x
          · have h1 : ¬ x ≤ 999999 := by omega
            clear hg
            go_wp2
            go_ret
            exact ⟨by rw [HF.out] <;> rfl, rfl⟩
          · clear hg
            go_wp2
            go_ret
            exact ⟨by rw [HF.out] <;> rfl, rfl⟩
      · obtain rfl : k = zs.length := by omega
        by_cases hz : zs.length = 0
        · have hzb : ((zs.length : Int) == 0) = true := by simp [hz]
          have HF : Hid (natB zs = true) := Lib.hid (natB_true ⟨by omega, fun i hi => HA.out i hi, .inl hz⟩)
          clear hz
          go_wp2
          go_ret
          exact ⟨by rw [HF.out] <;> rfl, rfl⟩
        · obtain ⟨b, o, rfl, hb, hcell⟩ := hr (by intro h0; rw [h0] at hz; simp at hz)
          have hzb : ((zs.length : Int) == 0) = false := beq_eq_false_iff_ne.2 (by omega)
          have hc := hcell (zs.length - 1) (by omega)
          have hi0 : (0 : Int) ≤ (zs.length : Int) - 1 := by omega
          have hi1 : ((zs.length : Int) - 1).toNat = zs.length - 1 := by omega
          obtain ⟨x, hx⟩ : ∃ x, x = zs.getD (zs.length - 1) 0 := ⟨_, rfl⟩
          rw [← hx] at hc
          have HX := Lib.hid hx
          by_cases hx0 : x = 0
          · have hb0 : (x != 0) = false := by simp [hx0]
            have HF : Hid (natB zs = false) := Lib.hid (natB_false fun H => by
              rcases H.2.2 with h | h
              · exact hz h
              · exact h (by rw [← HX.out]; exact hx0))
            clear hz hx hx0 hcell hr
            go_wp2
            go_ret
            exact ⟨by rw [HF.out] <;> rfl, rfl⟩
          · have hb0 : (x != 0) = true := by simp [hx0]
            have HF : Hid (natB zs = true) := Lib.hid (natB_true ⟨by omega, fun i hi => HA.out i hi, .inr (by rw [← HX.out]; exact hx0)⟩)
            clear hz hx hx0 hcell hr
            go_wp2
            go_ret
            exact ⟨by rw [HF.out] <;> rfl, rfl⟩

theorem natB_split {zs : List Int} (h : zs.length ≤ 40) (hl : zs.length = 0 ∨ zs.getD (zs.length - 1) 0 ≠ 0) : natB zs = digB 1000000 zs := by
  by_cases hd : Dig 1000000 zs
  · rw [digB_true hd, natB_true ⟨h, hd, hl⟩]
  · rw [digB_false hd, natB_false fun H => hd H.2.1]
set_option maxHeartbeats 1000000 in
theorem implNat (v : Value) (zs : List Int) (w : World) (h : Rd w v zs) :
    Calls Try.prog 19 #[v] w fun e w' => e = .returned (.bool (natB zs)) ∧ Below w.heap.size w w' := by
  have H := Lib.hid h
  obtain ⟨hl, hf, a, c, rfl, hcap, hr⟩ := h
  by_cases h40 : 40 < zs.length
  · have HN := Lib.hid (natB_false (zs := zs) fun H => by have := H.1; omega)
    have h40' : (40 : Int) < (zs.length : Int) := by omega
    go_enter Try.func19, Try.ntmps19
    go_wp2
    go_ret
    exact ⟨by rw [HN.out] <;> rfl, Below.refl _ _⟩
  · have h40' : ¬ (40 : Int) < (zs.length : Int) := by omega
    by_cases hz : zs.length = 0
    · have hp : ¬ (0 : Int) < (zs.length : Int) := by omega
      have HF := Lib.hid (natB_split (zs := zs) (by omega) (.inl hz))
      clear hz hr
      go_enter Try.func19, Try.ntmps19
      go_wp2_with (go_at_call 39; refine (areBelow_any _ zs _ _ H.out).mono ?_; rintro e w' ⟨rfl, hb⟩)
      go_ret
      exact ⟨by rw [HF.out] <;> rfl, hb⟩
    · obtain ⟨b, o, rfl, hb, hcell⟩ := hr (by intro h0; rw [h0] at hz; simp at hz)
      have hp : (0 : Int) < (zs.length : Int) := by omega
      have hc := hcell (zs.length - 1) (by omega)
      have hi0 : (0 : Int) ≤ (zs.length : Int) - 1 := by omega
      have hi1 : ((zs.length : Int) - 1).toNat = zs.length - 1 := by omega
      obtain ⟨x, hx⟩ : ∃ x, x = zs.getD (zs.length - 1) 0 := ⟨_, rfl⟩
      rw [← hx] at hc
      by_cases hx0 : x = 0
      · have hb0 : (x == 0) = true := by simp [hx0]
        have HF : Hid (natB zs = false) := Lib.hid (natB_false fun H => by
          rcases H.2.2 with h | h
          · exact hz h
          · exact h (by rw [← hx]; exact hx0))
        clear hz hx hx0 hcell hr
        go_enter Try.func19, Try.ntmps19
        go_wp2
        go_ret
        exact ⟨by rw [HF.out] <;> rfl, Below.refl _ _⟩
      · have hb0 : (x == 0) = false := by simp [hx0]
        have HF := Lib.hid (natB_split (zs := zs) (by omega) (.inr (by rw [← hx]; exact hx0)))
        clear hz hx hx0 hcell hr
        go_enter Try.func19, Try.ntmps19
        go_wp2_with (go_at_call 39; refine (areBelow_any _ zs _ _ H.out).mono ?_; rintro e w' ⟨rfl, hb⟩)
        go_ret
        exact ⟨by rw [HF.out] <;> rfl, hb⟩

end Go.Proofs.Ytcpipakpkmfhlaa.Ints
