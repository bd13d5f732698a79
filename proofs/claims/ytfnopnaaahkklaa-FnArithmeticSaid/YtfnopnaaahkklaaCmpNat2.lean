/- Contracts of CompareNaturals, of the model and of the program. -/
import Derived.Test.YtfnopnaaahkklaaCmpNat
namespace Go.Proofs.Ytfnopnaaahkklaa.Ints
open Go.RowKit
set_option linter.unusedVariables false

set_option maxHeartbeats 2000000 in
theorem specCmpNat (u v : Value) (xs ys : List Int) (w : World) (hu : Rd w u xs) (hv : Rd w v ys) :
    Calls Try.prog 60 #[u, v] w fun e w' => e = .returned (.int .i64 (cmpN xs ys)) ∧ Below w.heap.size w w' := by
  obtain ⟨hl, hf, a, c, rfl, hcap, hr⟩ := hu
  obtain ⟨hl', hf', a', c', rfl, hcap', hr'⟩ := hv
  by_cases hlen : xs.length = ys.length
  · have HL := Lib.hid hlen
    rw [← hlen]
    have hne : ((xs.length : Int) != (xs.length : Int)) = false := by simp
    have HR := Lib.hid hr
    have HR' := Lib.hid hr'
    clear hr hr' hlen
    go_enter Try.func60, Try.ntmps60
    go_wp2
    go_loopw [5] (fun s wr => ∃ m : Nat, m ≤ xs.length ∧ s = .int .i64 ((m : Int) - 1) ∧ (∀ j, m ≤ j → j < xs.length → xs.getD j 0 = ys.getD j 0) ∧ Below w.heap.size w wr) (fun s _ => (intOf s + 1).toNat)
    case atStart => exact ⟨xs.length, Nat.le_refl _, rfl, fun j a b => by omega, Below.refl _ _⟩
    case round =>
      obtain ⟨m, hm, hi, hs, hbel⟩ := hrel
      have HS := Lib.hid hs
      cases m with
      | zero =>
        obtain rfl := hi
        have HV : Hid (cmpN xs ys = 0) := Lib.hid (by
          have := HL.out
          rw [cmpN, if_neg (by omega), if_neg (by omega), cmpD_same xs ys xs.length 0 (by omega) (fun j a b => HS.out j a b)]; rfl)
        have HB := Lib.hid hbel
        clear hs hbel
        go_wp2
        go_ret
        exact ⟨by rw [HV.out] <;> rfl, HB.out⟩
      | succ m =>
        rw [show (((m + 1 : Nat) : Int) - 1) = (m : Int) by omega] at hi
        obtain rfl := hi
        obtain ⟨b, o, rfl, hb, hcell⟩ := HR.out (by intro h0; rw [h0] at hm; simp at hm)
        obtain ⟨b', o', rfl, hb', hcell'⟩ := HR'.out (by intro h0; have h2 := congrArg List.length h0; have := HL.out; simp only [List.length_nil] at h2; omega)
        obtain ⟨x, hx⟩ : ∃ x, x = xs.getD m 0 := ⟨_, rfl⟩
        obtain ⟨y, hy⟩ : ∃ y, y = ys.getD m 0 := ⟨_, rfl⟩
        have hc : wr.cell? ⟨b, o + m, none⟩ = some (.int .i64 x) := by rw [hx]; exact (hbel.cell hb).trans (hcell m (by omega))
        have hc' : wr.cell? ⟨b', o' + m, none⟩ = some (.int .i64 y) := by rw [hy]; exact (hbel.cell hb').trans (hcell' m (by have := HL.out; omega))
        have i0 : (0 : Int) ≤ (m : Int) := by omega
        have i1 : (m : Int) < (xs.length : Int) := by omega
        have HB := Lib.hid hbel
        have HX := Lib.hid hx
        have HY := Lib.hid hy
        have hmlt : m < xs.length := by omega
        have HT : Hid (x ≠ y → cmpN xs ys = sgn x y) := Lib.hid (fun hxy => by
          have := HL.out
          rw [cmpN, if_neg (by omega), if_neg (by omega), cmpD_top xs ys xs.length m hmlt (fun j a b => HS.out j a b) (by rw [← hx, ← hy]; exact hxy), ← hx, ← hy])
        clear hcell hcell' hbel hs hx hy hmlt
        by_cases h1 : x < y
        · have HC : Hid (cmpN xs ys = -1) := Lib.hid (by rw [HT.out (by omega), sgn, if_pos h1])
          go_wp2
          go_quiet (fail)
          go_wp2
          go_ret
          exact ⟨by rw [HC.out] <;> rfl, (by first | exact below_drewN HB.out _ | exact below_drewN (below_drewN HB.out _) _)⟩
        · have h1' : decide (x < y) = false := by simpa using h1
          by_cases h2 : y < x
          · have HC : Hid (cmpN xs ys = 1) := Lib.hid (by rw [HT.out (by omega), sgn, if_neg h1, if_pos h2])
            go_wp2
            go_quiet (fail)
            go_wp2
            go_quiet (fail)
            go_wp2
            go_ret
            exact ⟨by rw [HC.out] <;> rfl, (by first | exact below_drewN HB.out _ | exact below_drewN (below_drewN HB.out _) _)⟩
          · have HE : Hid (x = y) := Lib.hid (by omega)
            have h2' : decide (y < x) = false := by simpa using h2
            go_wp2
            go_quiet (fail)
            go_wp2
            go_quiet (fail)
            go_wp2
            go_roundw
            case rel => exact ⟨m, by omega, rfl, fun j p q => by
              by_cases hj : j = m
              · subst hj; rw [← HX.out, ← HY.out]; exact HE.out
              · exact HS.out j (by omega) q, (by first | exact below_drewN HB.out _ | exact below_drewN (below_drewN HB.out _) _)⟩
            case measure => simp [intOf]
  · have hne : ((xs.length : Int) != (ys.length : Int)) = true := by simp; omega
    by_cases h1 : xs.length < ys.length
    · have h1' : (xs.length : Int) < (ys.length : Int) := by omega
      have HC : Hid (cmpN xs ys = -1) := Lib.hid (by rw [cmpN, if_pos h1])
      clear hr hr' hlen h1
      go_enter Try.func60, Try.ntmps60
      go_wp2
      go_ret
      exact ⟨by rw [HC.out] <;> rfl, Below.refl _ _⟩
    · have h1' : ¬ (xs.length : Int) < (ys.length : Int) := by omega
      have HC : Hid (cmpN xs ys = 1) := Lib.hid (by rw [cmpN, if_neg h1, if_pos (by omega)])
      clear hr hr' hlen h1
      go_enter Try.func60, Try.ntmps60
      go_wp2
      go_ret
      exact ⟨by rw [HC.out] <;> rfl, Below.refl _ _⟩

noncomputable def cnV (xs ys : List Int) : Int := if natB xs = true ∧ natB ys = true then cmpN xs ys else 0
noncomputable def cnC (xs ys : List Int) : Int := if natB xs = true ∧ natB ys = true then 0 else 1
end Go.Proofs.Ytfnopnaaahkklaa.Ints
