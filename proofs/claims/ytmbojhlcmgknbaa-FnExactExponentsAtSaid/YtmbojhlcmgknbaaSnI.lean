/- Contracts of SetNumber, of the model and of the program. -/
import Derived.Test.YtmbojhlcmgknbaaSnN
namespace Go.Proofs.Ytmbojhlcmgknbaa.Ints
open Go.RowKit
set_option linter.unusedVariables false

set_option maxRecDepth 100000 in
set_option maxHeartbeats 4000000 in
theorem implIsInc (v : Value) (zs : List Int) (w : World) (h : Rd w v zs) (ib : Bool) (hib : ib = true ↔ Inc zs zs.length) :
    Calls Try.prog 17 #[v] w fun e w' => e = .returned (.bool ib) ∧ Below w.heap.size w w' := by
  have HI := Lib.hid hib
  clear hib
  have H := Lib.hid h
  obtain ⟨hl, hf, a, c, rfl, hcap, hr⟩ := h
  have HR := Lib.hid hr
  clear hr
  go_enter Try.func17, Try.ntmps17
  go_wp2
  go_loopw [7] (fun s wr => ∃ k : Nat, k ≤ zs.length ∧ s = .int .i64 k ∧ Inc zs k ∧ Below w.heap.size w wr) (fun s _ => zs.length - (intOf s).toNat)
  case atStart => exact ⟨0, Nat.zero_le _, rfl, (fun i hi => by omega), Below.refl _ _⟩
  case round =>
    obtain ⟨k, hk, rfl, hall, hbel⟩ := hrel
    have HA := Lib.hid hall
    have HB := Lib.hid hbel
    clear hall
    by_cases hlt : k < zs.length
    · obtain ⟨b, o, rfl, hb, hcell⟩ := HR.out (by intro h0; rw [h0] at hlt; simp at hlt)
      obtain ⟨x, hx⟩ : ∃ x, x = zs.getD k 0 := ⟨_, rfl⟩
      have hc : wr.cell? ⟨b, o + k, none⟩ = some (.int .i64 x) := by rw [hx]; exact (hbel.cell hb).trans (hcell k hlt)
      have i0 : (0 : Int) ≤ (k : Int) := by omega
      have i1 : (k : Int) < (zs.length : Int) := by omega
      have HX := Lib.hid hx
      by_cases hk0 : k = 0
      · have hN : Inc zs (k + 1) := fun i hi => by omega
        have HN := Lib.hid hN
        have dz : decide ((0 : Int) < (k : Int)) = false := decide_eq_false (by omega)
        have dz2 : decide (0 < k) = false := decide_eq_false (by omega)
        clear hN hcell hbel hx hk0
        go_wp2
        go_roundw
        case rel => exact ⟨k + 1, by omega, by go_num, HN.out, HB.out⟩
        case measure => simp [intOf]; omega
      · obtain ⟨y, hy⟩ : ∃ y, y = zs.getD (k - 1) 0 := ⟨_, rfl⟩
        have hc2 : wr.cell? ⟨b, o + (k - 1), none⟩ = some (.int .i64 y) := by rw [hy]; exact (hbel.cell hb).trans (hcell (k - 1) (by omega))
        have HY := Lib.hid hy
        have j0 : (0 : Int) ≤ (k : Int) - 1 := by omega
        have j1 : (k : Int) - 1 < (zs.length : Int) := by omega
        have j2 : ((k : Int) - 1).toNat = k - 1 := by omega
        have dz : (0 : Int) < (k : Int) := by omega
        have dz2 : 0 < k := by omega
        by_cases hxy : y < x
        · have hN : Inc zs (k + 1) := HA.out.up (fun _ => by rw [← HX.out, ← HY.out]; exact hxy)
          have HN := Lib.hid hN
          have dx : decide (x ≤ y) = false := decide_eq_false (by omega)
          clear hN hcell hbel hx hy hk0 hxy
          go_wp2
          go_roundw
          case rel => exact ⟨k + 1, by omega, by go_num, HN.out, HB.out⟩
          case measure => simp [intOf]; omega
        · have hF : ib = false := by
            cases hib : ib with
            | false => rfl
            | true =>
              exfalso
              have := (HI.out.1 hib) (k - 1) (by omega)
              rw [show k - 1 + 1 = k by omega, ← HX.out, ← HY.out] at this
              omega
          have HF := Lib.hid hF
          have dx : decide (x ≤ y) = true := decide_eq_true (by omega)
          clear hF hcell hbel hx hy hk0
          go_wp2
          go_ret
          exact ⟨by rw [HF.out] <;> rfl, HB.out⟩
    · obtain rfl : k = zs.length := by omega
      have HT := Lib.hid (HI.out.2 HA.out)
      have HBB := Lib.hid hbel
      have i1 : ¬ (zs.length : Int) < (zs.length : Int) := by omega
      clear hbel
      go_wp2
      go_ret
      exact ⟨by rw [HT.out] <;> rfl, HBB.out⟩

end Go.Proofs.Ytmbojhlcmgknbaa.Ints
