/- Contracts of SetNumber, of the model and of the program. -/
import Derived.Test.YtmbojhlcmgknbaaSn
import Derived.Test.YtmbojhlcmgknbaaOwn
import Derived.Test.YtmbojhlcmgknbaaWvI
namespace Go.Proofs.Ytmbojhlcmgknbaa.Ints
open Go.RowKit
set_option linter.unusedVariables false

theorem specInR (n lo hi : Int) (r : Bool) (w : World) (h : r = (decide (lo ≤ n) && decide (n ≤ hi))) : Calls Try.prog 23 #[.int .i64 n, .int .i64 lo, .int .i64 hi] w fun e w' => e = .returned (.bool r) ∧ w = w' := by
  subst h
  by_cases h0 : lo ≤ n
  · by_cases h1 : n ≤ hi
    · have e : Hid ((decide (lo ≤ n) && decide (n ≤ hi)) = true) := Lib.hid (by simp [h0, h1])
      go_enter Try.func23, Try.ntmps23
      go_wp2
      go_ret
      exact ⟨by rw [e.out] <;> rfl, rfl⟩
    · have e : Hid ((decide (lo ≤ n) && decide (n ≤ hi)) = false) := Lib.hid (by simp [h1])
      have d0 : decide (lo ≤ n) = true := decide_eq_true h0
      have d1 : decide (n ≤ hi) = false := decide_eq_false h1
      clear h0 h1
      go_enter Try.func23, Try.ntmps23
      go_wp2
      go_ret
      exact ⟨by rw [e.out] <;> rfl, rfl⟩
  · have e : Hid ((decide (lo ≤ n) && decide (n ≤ hi)) = false) := Lib.hid (by simp [h0])
    have d0 : decide (lo ≤ n) = false := decide_eq_false h0
    clear h0
    go_enter Try.func23, Try.ntmps23
    go_wp2
    go_ret
    exact ⟨by rw [e.out] <;> rfl, rfl⟩

theorem specInQ (n lo hi : Int) (r : Bool) (w : World) (h : r = (decide (lo ≤ n) && decide (n ≤ hi))) : Calls Try.prog 23 #[.int .i64 n, .int .i64 lo, .int .i64 hi] w fun e w' => e = .returned (.bool r) ∧ w' = w :=
  (specInR n lo hi r w h).mono fun _ _ h => ⟨h.1, h.2.symm⟩
set_option maxRecDepth 100000 in
set_option maxHeartbeats 4000000 in
theorem specRises (v : Value) (zs : List Int) (w : World) (h : Rd w v zs) :
    Calls Try.prog 11 #[v, .int .i64 0, .int .i64 799] w fun e w' => e = .returned (.bool (riseB zs)) ∧ Below w.heap.size w w' := by
  obtain ⟨hl, hf, a, c, rfl, hcap, hr⟩ := h
  have HR := Lib.hid hr
  clear hr
  go_enter Try.func11, Try.ntmps11
  go_wp2
  go_loopw [7] (fun s wr => ∃ k : Nat, k ≤ zs.length ∧ s = .int .i64 k ∧ (Inc zs k ∧ ∀ i, i < k → 0 ≤ zs.getD i 0 ∧ zs.getD i 0 < 800) ∧ Below w.heap.size w wr) (fun s _ => zs.length - (intOf s).toNat)
  case atStart => exact ⟨0, Nat.zero_le _, rfl, ⟨(fun i hi => by omega), (fun i hi => by omega)⟩, Below.refl _ _⟩
  case round =>
    obtain ⟨k, hk, rfl, hall, hbel⟩ := hrel
    have HA := Lib.hid hall
    have HB := Lib.hid hbel
    clear hall
    by_cases hlt : k < zs.length
    · obtain ⟨b, o, rfl, hb, hcell⟩ := HR.out (by intro h0; rw [h0] at hlt; simp at hlt)
      obtain ⟨x, hx⟩ : ∃ x, x = zs.getD k 0 := ⟨_, rfl⟩
      have hc : wr.cell? ⟨b, o + k, none⟩ = some (.int .i64 x) := by rw [hx]; exact (hbel.cell hb).trans (hcell k hlt)
      have i0 : (0 : Int) ≤ (k : Int) := by omega
      have i1 : (k : Int) < (zs.length : Int) := by omega
      have HX := Lib.hid hx
      by_cases hg : 0 ≤ x ∧ x ≤ 799
      · have HI : Hid (true = (decide ((0 : Int) ≤ x) && decide (x ≤ 799))) := Lib.hid (by simp [hg])
        have HG := Lib.hid hg
        by_cases hk0 : k = 0
        · have hN : Inc zs (k + 1) ∧ ∀ i, i < k + 1 → 0 ≤ zs.getD i 0 ∧ zs.getD i 0 < 800 := ⟨fun i hi => by omega, fun i hi => by
            obtain rfl : i = k := by omega
            rw [← HX.out]; have := HG.out; omega⟩
          have HN := Lib.hid hN
          have dz : decide ((0 : Int) < (k : Int)) = false := decide_eq_false (by omega)
          have dz2 : decide (0 < k) = false := decide_eq_false (by omega)
          clear hN hcell hbel hx hg hk0
          go_wp2
          go_quiet ((go_at_call 23; exact Calls.quiet_of_same (specInQ _ _ _ true _ HI.out)))
          go_wp2
          go_roundw
          case rel => exact ⟨k + 1, by omega, by go_num, HN.out, below_drewN HB.out _⟩
          case measure => simp [intOf]; omega
        · obtain ⟨y, hy⟩ : ∃ y, y = zs.getD (k - 1) 0 := ⟨_, rfl⟩
          have hc2 : wr.cell? ⟨b, o + (k - 1), none⟩ = some (.int .i64 y) := by rw [hy]; exact (hbel.cell hb).trans (hcell (k - 1) (by omega))
          have HY := Lib.hid hy
          have j0 : (0 : Int) ≤ (k : Int) - 1 := by omega
          have j1 : (k : Int) - 1 < (zs.length : Int) := by omega
          have j2 : ((k : Int) - 1).toNat = k - 1 := by omega
          have dz : (0 : Int) < (k : Int) := by omega
          have dz2 : 0 < k := by omega
          have HG2 : Hid (¬ k = 0) := Lib.hid hk0
          by_cases hxy : y < x
          · have hN : Inc zs (k + 1) ∧ ∀ i, i < k + 1 → 0 ≤ zs.getD i 0 ∧ zs.getD i 0 < 800 := ⟨HA.out.1.up (fun _ => by rw [← HX.out, ← HY.out]; exact hxy), fun i hi => by
              by_cases he : i = k
              · subst he; rw [← HX.out]; have := HG.out; omega
              · exact HA.out.2 i (by omega)⟩
            have HN := Lib.hid hN
            have dx : decide (x ≤ y) = false := decide_eq_false (by omega)
            clear hN hcell hbel hx hy hg hk0 hxy
            go_wp2
            go_quiet ((go_at_call 23; exact Calls.quiet_of_same (specInQ _ _ _ true _ HI.out)))
            go_wp2
            go_roundw
            case rel => exact ⟨k + 1, by omega, by go_num, HN.out, below_drewN HB.out _⟩
            case measure => simp [intOf]; omega
          · have hF : riseB zs = false := riseB_inc fun H => by
              have := H (k - 1) (by omega)
              rw [show k - 1 + 1 = k by omega, ← HX.out, ← HY.out] at this
              omega
            have HF := Lib.hid hF
            have dx : decide (x ≤ y) = true := decide_eq_true (by omega)
            clear hF hcell hbel hx hy hg hk0 hxy
            go_wp2
            go_quiet ((go_at_call 23; exact Calls.quiet_of_same (specInQ _ _ _ true _ HI.out)))
            go_wp2
            go_ret
            exact ⟨by rw [HF.out] <;> rfl, below_drewN HB.out _⟩
      · have HI : Hid (false = (decide ((0 : Int) ≤ x) && decide (x ≤ 799))) := Lib.hid (by
          by_cases h0 : (0 : Int) ≤ x
          · have h1 : ¬ x ≤ 799 := fun h => hg ⟨h0, h⟩
            simp [h1]
          · simp [h0])
        have hF : riseB zs = false := riseB_dig fun H => by
          have := H k hlt
          rw [← hx] at this
          omega
        have HF := Lib.hid hF
        clear hF hcell hbel hx hg
        go_wp2
        go_quiet ((go_at_call 23; exact Calls.quiet_of_same (specInQ _ _ _ false _ HI.out)))
        go_wp2
        go_ret
        exact ⟨by rw [HF.out] <;> rfl, below_drewN HB.out _⟩
    · obtain rfl : k = zs.length := by omega
      have hT : riseB zs = true := riseB_true HA.out.1 (fun i hi => HA.out.2 i hi)
      have HT := Lib.hid hT
      have i1 : ¬ (zs.length : Int) < (zs.length : Int) := by omega
      clear hT hbel
      go_wp2
      go_ret
      exact ⟨by rw [HT.out] <;> rfl, HB.out⟩
end Go.Proofs.Ytmbojhlcmgknbaa.Ints
