/- The model's row of symbols. -/
import Derived.Test.YtepdjlhlcjkdkaaTrE
import Derived.Test.YtepdjlhlcjkdkaaIn
import Derived.Deep.QuietTactic
import Derived.BigQuiet
import Derived.BigRegion
import Derived.Lib.Hide
import Derived.Deep.RegionHeld3
namespace Go.Proofs.Ytepdjlhlcjkdkaa.Ints
open Go.RowKit
set_option linter.unusedVariables false
set_option linter.unusedSimpArgs false
/-! The model's row of symbols. -/
def Bet (lo hi : Int) (zs : List Int) : Prop := ∀ i, i < zs.length → lo ≤ zs.getD i 0 ∧ zs.getD i 0 ≤ hi
open Classical in
noncomputable def betB (lo hi : Int) (zs : List Int) : Bool := decide (Bet lo hi zs)
theorem betB_true {lo hi : Int} {zs : List Int} (h : Bet lo hi zs) : betB lo hi zs = true := by simp [betB, h]
theorem betB_false {lo hi : Int} {zs : List Int} (h : ¬ Bet lo hi zs) : betB lo hi zs = false := by simp [betB, h]
theorem betB_dig (zs : List Int) : betB 0 9 zs = digB 10 zs := by
  by_cases h : Dig 10 zs
  · rw [digB_true h, betB_true fun i hi => by have := h i hi; omega]
  · rw [digB_false h, betB_false fun H => h fun i hi => by have := H i hi; omega]
set_option maxHeartbeats 4000000 in
theorem specRow (v : Value) (zs : List Int) (n lo hi : Int) (w : World) (hv : Rd w v zs) :
    Calls Try.prog 119 #[v, .int .i64 n, .int .i64 lo, .int .i64 hi] w fun e w' => e = .returned (.bool (decide ((zs.length : Int) = n) && betB lo hi zs)) ∧ ∃ m, w' = w.drewN m := by
  obtain ⟨hl, hf, a, c, rfl, hcap, hr⟩ := hv
  by_cases hn : (zs.length : Int) = n
  rotate_left
  · have hd : ((zs.length : Int) != n) = true := by simpa using hn
    rw [decide_eq_false hn]
    clear hn hr
    go_enter Try.func119, Try.ntmps119
    go_wp2
    go_ret
    exact ⟨rfl, 0, rfl⟩
  have hd : ((zs.length : Int) != n) = false := by simpa using hn
  rw [decide_eq_true hn, Bool.true_and]
  clear hn
  go_enter Try.func119, Try.ntmps119
  go_wp2
  go_loopw [9] (fun s wr => ∃ k : Nat, k ≤ zs.length ∧ s = .int .i64 k ∧ (∀ i, i < k → lo ≤ zs.getD i 0 ∧ zs.getD i 0 ≤ hi) ∧ ∃ m, wr = w.drewN m) (fun s _ => zs.length - (intOf s).toNat)
  case atStart => exact ⟨0, Nat.zero_le _, rfl, fun i hi => by omega, 0, rfl⟩
  case round =>
    obtain ⟨k, hk, rfl, hall, m, hwr⟩ := hrel
    have HWR := Lib.hid hwr
    have HA := Lib.hid hall
    have hcw : ∀ p : Addr, wr.cell? p = w.cell? p := fun p => by rw [hwr]; rfl
    have HCW := Lib.hid hcw
    clear hall hwr hcw
    by_cases hlt : k < zs.length
    · obtain ⟨b, o, rfl, hb, hcell⟩ := hr (by intro h0; rw [h0] at hlt; simp at hlt)
      obtain ⟨x, hx⟩ : ∃ x, x = zs.getD k 0 := ⟨_, rfl⟩
      have hc : wr.cell? ⟨b, o + k, none⟩ = some (.int .i64 x) := by rw [hx, HCW.out]; exact hcell k hlt
      have i0 : (0 : Int) ≤ (k : Int) := by omega
      have i1 : (k : Int) < (zs.length : Int) := by omega
      have HX := Lib.hid hx
      clear hcell hr hx
      by_cases hg : lo ≤ x ∧ x ≤ hi
      · have HA1 := Lib.hid hg
        have HN : Hid (∀ i, i < k + 1 → lo ≤ zs.getD i 0 ∧ zs.getD i 0 ≤ hi) := Lib.hid (fun i hi => by
          by_cases he : i = k
          · subst he; rw [← HX.out]; exact HA1.out
          · exact HA.out i (by omega))
        clear hg
        go_wp2_with fail
        refine (specInY _ _ _ _ HA1.out).mono ?_
        rintro e1 w1 ⟨rfl, rfl⟩
        go_wp2
        go_roundw
        case rel => exact ⟨k + 1, by omega, by go_num, HN.out, m, HWR.out⟩
        case measure => simp [intOf]; omega
      · have HA1 := Lib.hid hg
        have HF : Hid (betB lo hi zs = false) := Lib.hid (betB_false fun H => HA1.out (by have := H k hlt; rw [← HX.out] at this; exact this))
        clear hg
        go_wp2_with fail
        refine (specInN _ _ _ _ HA1.out).mono ?_
        rintro e1 w1 ⟨rfl, rfl⟩
        go_wp2
        go_ret
        exact ⟨by rw [HF.out] <;> rfl, m, HWR.out⟩
    · obtain rfl : k = zs.length := by omega
      have HF : Hid (betB lo hi zs = true) := Lib.hid (betB_true HA.out)
      clear hr hlt
      have hnlt : ¬ ((zs.length : Int) < (zs.length : Int)) := by omega
      go_wp2
      go_ret
      exact ⟨by rw [HF.out] <;> rfl, m, HWR.out⟩
end Go.Proofs.Ytepdjlhlcjkdkaa.Ints
