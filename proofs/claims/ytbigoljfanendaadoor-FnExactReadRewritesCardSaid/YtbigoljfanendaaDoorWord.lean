/- Contracts of the model's and the program's tests for words. -/
import Derived.Test.YtbigoljfanendaaDoorDig
namespace Go.Proofs.YtbigoljfanendaaDoor.Ints
open Go.RowKit
set_option linter.unusedVariables false

/-- A word. -/
def Word (zs : List Int) : Prop := zs.length ≤ 400 ∧ Dig 10 zs
open Classical in
noncomputable def wordB (zs : List Int) : Bool := decide (Word zs)
theorem wordB_true {zs : List Int} (h : Word zs) : wordB zs = true := by simp [wordB, h]
theorem wordB_false {zs : List Int} (h : ¬ Word zs) : wordB zs = false := by simp [wordB, h]
theorem wordB_iff {zs : List Int} (h : wordB zs = true) : Word zs := by simpa [wordB] using h
theorem wordB_split {zs : List Int} (h : zs.length ≤ 400) : wordB zs = digB 10 zs := by
  by_cases hd : Dig 10 zs
  · rw [digB_true hd, wordB_true ⟨h, hd⟩]
  · rw [digB_false hd, wordB_false fun H => hd H.2]

set_option maxHeartbeats 1000000 in
theorem specWord (v : Value) (zs : List Int) (w : World) (h : Rd w v zs) :
    Calls Tryd.prog 108 #[v] w fun e w' => e = .returned (.bool (wordB zs)) ∧ w = w' := by
  obtain ⟨hl, hf, a, c, rfl, hcap, hr⟩ := h
  go_enter Tryd.func108, Tryd.ntmps108
  go_wp2
  go_loop [3] (fun s => ∃ k : Nat, k ≤ zs.length ∧ s = .int .i64 k ∧ ∀ i, i < k → 0 ≤ zs.getD i 0 ∧ zs.getD i 0 < 10) (fun s => zs.length - (intOf s).toNat)
  case atStart => exact ⟨0, Nat.zero_le _, rfl, fun i hi => by omega⟩
  case round =>
    obtain ⟨k, hk, rfl, hall⟩ := hrel
    have HA := Lib.hid hall
    clear hall
    by_cases hlt : k < zs.length
    · obtain ⟨b, o, rfl, hb, hcell⟩ := hr (by intro h0; rw [h0] at hlt; simp at hlt)
      have hc := hcell k hlt
      obtain ⟨x, hx⟩ : ∃ x, x = zs.getD k 0 := ⟨_, rfl⟩
      rw [← hx] at hc
      have HX := Lib.hid hx
      clear hcell hr hx
      by_cases hg : 0 ≤ x ∧ x < 10
      · have HN : Hid (∀ i, i < k + 1 → 0 ≤ zs.getD i 0 ∧ zs.getD i 0 < 10) := Lib.hid (fun i hi => by
          by_cases he : i = k
          · subst he; rw [← HX.out]; exact hg
          · exact HA.out i (by omega))
        obtain ⟨hg0, hg1⟩ := hg
        have hg2 : x ≤ 9 := by omega
        go_wp2
        go_round
        case rel => exact ⟨k + 1, by omega, by go_num, HN.out⟩
        case measure => simp [intOf]; omega
      · have HF : Hid (wordB zs = false) := Lib.hid (wordB_false fun H => hg (by rw [HX.out]; exact H.2 k hlt))
        by_cases h0 : 0 ≤ x
        · have h1 : ¬ x ≤ 9 := by omega
          clear hg
          go_wp2
          go_ret
          exact ⟨by rw [HF.out] <;> rfl, rfl⟩
        · clear hg
          go_wp2
          go_ret
          exact ⟨by rw [HF.out] <;> rfl, rfl⟩
    · obtain rfl : k = zs.length := by omega
      by_cases hz : zs.length ≤ 400
      · have HF : Hid (wordB zs = true) := Lib.hid (wordB_true ⟨hz, fun i hi => HA.out i hi⟩)
        have hz' : (zs.length : Int) ≤ 400 := by omega
        go_wp2
        go_ret
        exact ⟨by rw [HF.out] <;> rfl, rfl⟩
      · have HF : Hid (wordB zs = false) := Lib.hid (wordB_false fun H => hz H.1)
        have hz' : ¬ (zs.length : Int) ≤ 400 := by omega
        go_wp2
        go_ret
        exact ⟨by rw [HF.out] <;> rfl, rfl⟩

theorem implWord (v : Value) (zs : List Int) (w : World) (h : Rd w v zs) :
    Calls Tryd.prog 201 #[v] w fun e w' => e = .returned (.bool (wordB zs)) ∧ Below w.heap.size w w' := by
  have H := Lib.hid h
  obtain ⟨hl, hf, a, c, rfl, hcap, hr⟩ := h
  clear hr
  by_cases hz : zs.length ≤ 400
  · have HF := Lib.hid (wordB_split hz)
    have hz' : (zs.length : Int) ≤ 400 := by omega
    go_enter Tryd.func201, Tryd.ntmps201
    go_wp2_with (go_at_call 179; refine (areBelow_any _ zs _ _ H.out).mono ?_; rintro e w' ⟨rfl, hb⟩)
    go_ret
    exact ⟨by rw [HF.out] <;> rfl, hb⟩
  · have HF : Hid (wordB zs = false) := Lib.hid (wordB_false fun H => hz H.1)
    have hz' : ¬ (zs.length : Int) ≤ 400 := by omega
    go_enter Tryd.func201, Tryd.ntmps201
    go_wp2
    go_ret
    exact ⟨by rw [HF.out] <;> rfl, Below.refl _ _⟩
theorem specInT (n lo hi : Int) (w : World) (h0 : lo ≤ n) (h1 : n ≤ hi) : Calls Tryd.prog 95 #[.int .i64 n, .int .i64 lo, .int .i64 hi] w fun e w' => e = .returned (.bool true) ∧ w = w' := by
  go_enter Tryd.func95, Tryd.ntmps95
  go_wp2
  go_ret
  exact ⟨rfl, rfl⟩
end Go.Proofs.YtbigoljfanendaaDoor.Ints
