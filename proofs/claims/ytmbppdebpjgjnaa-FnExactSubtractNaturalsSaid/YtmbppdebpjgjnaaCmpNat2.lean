/- Contracts of CompareNaturals, of the model and of the program. -/
import Derived.Test.YtmbppdebpjgjnaaCmpNat
namespace Go.Proofs.Ytmbppdebpjgjnaa.Ints
open Go.RowKit
set_option linter.unusedVariables false

set_option maxHeartbeats 2000000 in
theorem specCmpNat (u v : Value) (xs ys : List Int) (w : World) (hu : Rd w u xs) (hv : Rd w v ys) :
    Calls Try.prog 43 #[u, v] w fun e w' => e = .returned (.int .i64 (cmpN xs ys)) ∧ Below w.heap.size w w' := by
  obtain ⟨hl, hf, a, c, rfl, hcap, hr⟩ := hu
  obtain ⟨hl', hf', a', c', rfl, hcap', hr'⟩ := hv
  by_cases hlen : xs.length = ys.length
  · have HL := Lib.hid hlen
    rw [← hlen]
    have hne : ((xs.length : Int) != (xs.length : Int)) = false := by simp
    have HR := Lib.hid hr
    have HR' := Lib.hid hr'
    clear hr hr' hlen
    go_enter Try.func43, Try.ntmps43
    go_wp2
    go_loopw [5] (fun s wr => ∃ m : Nat, m ≤ xs.length ∧ s = .int .i64 ((m : Int) - 1) ∧ (∀ j, m ≤ j → j < xs.length → xs.getD j 0 = ys.getD j 0) ∧ Below w.heap.size w wr) (fun s _ => (intOf s + 1).toNat)
    case atStart => exact ⟨xs.length, Nat.le_refl _, rfl, fun j a b => by omega, Below.refl _ _⟩
    case round =>
      obtain ⟨m, hm, hi, hs, hbel⟩ := hrel
      have HS := Lib.hid hs
      cases m with
      | zero =>
        obtain rfl := hi
        have HV : Hid (cmpN xs ys = 0) := Lib.hid (by
          have := HL.out
          rw [cmpN, if_neg (by omega), if_neg (by omega), cmpD_same xs ys xs.length 0 (by omega) (fun j a b => HS.out j a b)]; rfl)
        have HB := Lib.hid hbel
        clear hs hbel
        go_wp2
        go_ret
        exact ⟨by rw [HV.out] <;> rfl, HB.out⟩
      | succ m =>
        rw [show (((m + 1 : Nat) : Int) - 1) = (m : Int) by omega] at hi
        obtain rfl := hi
        obtain ⟨b, o, rfl, hb, hcell⟩ := HR.out (by intro h0; rw [h0] at hm; simp at hm)
        obtain ⟨b', o', rfl, hb', hcell'⟩ := HR'.out (by intro h0; have h2 := congrArg List.length h0; have := HL.out; simp only [List.length_nil] at h2; omega)
        obtain ⟨x, hx⟩ : ∃ x, x = xs.getD m 0 := ⟨_, rfl⟩
        obtain ⟨y, hy⟩ : ∃ y, y = ys.getD m 0 := ⟨_, rfl⟩
        have hc : wr.cell? ⟨b, o + m, none⟩ = some (.int .i64 x) := by rw [hx]; exact (hbel.cell hb).trans (hcell m (by omega))
        have hc' : wr.cell? ⟨b', o' + m, none⟩ = some (.int .i64 y) := by rw [hy]; exact (hbel.cell hb').trans (hcell' m (by have := HL.out; omega))
        have i0 : (0 : Int) ≤ (m : Int) := by omega
        have i1 : (m : Int) < (xs.length : Int) := by omega
        have HB := Lib.hid hbel
        have HX := Lib.hid hx
        have HY := Lib.hid hy
        have hmlt : m < xs.length := by omega
        have HT : Hid (x ≠ y → cmpN xs ys = sgn x y) := Lib.hid (fun hxy => by
          have := HL.out
          rw [cmpN, if_neg (by omega), if_neg (by omega), cmpD_top xs ys xs.length m hmlt (fun j a b => HS.out j a b) (by rw [← hx, ← hy]; exact hxy), ← hx, ← hy])
        clear hcell hcell' hbel hs hx hy hmlt
        by_cases h1 : x < y
        · have HC : Hid (cmpN xs ys = -1) := Lib.hid (by rw [HT.out (by omega), sgn, if_pos h1])
          go_wp2
          go_quiet (fail)
          go_wp2
          go_ret
          exact ⟨by rw [HC.out] <;> rfl, (by first | exact below_drewN HB.out _ | exact below_drewN (below_drewN HB.out _) _)⟩
        · have h1' : decide (x < y) = false := by simpa using h1
          by_cases h2 : y < x
          · have HC : Hid (cmpN xs ys = 1) := Lib.hid (by rw [HT.out (by omega), sgn, if_neg h1, if_pos h2])
            go_wp2
            go_quiet (fail)
            go_wp2
            go_quiet (fail)
            go_wp2
            go_ret
            exact ⟨by rw [HC.out] <;> rfl, (by first | exact below_drewN HB.out _ | exact below_drewN (below_drewN HB.out _) _)⟩
          · have HE : Hid (x = y) := Lib.hid (by omega)
            have h2' : decide (y < x) = false := by simpa using h2
            go_wp2
            go_quiet (fail)
            go_wp2
            go_quiet (fail)
            go_wp2
            go_roundw
            case rel => exact ⟨m, by omega, rfl, fun j p q => by
              by_cases hj : j = m
              · subst hj; rw [← HX.out, ← HY.out]; exact HE.out
              · exact HS.out j (by omega) q, (by first | exact below_drewN HB.out _ | exact below_drewN (below_drewN HB.out _) _)⟩
            case measure => simp [intOf]
  · have hne : ((xs.length : Int) != (ys.length : Int)) = true := by simp; omega
    by_cases h1 : xs.length < ys.length
    · have h1' : (xs.length : Int) < (ys.length : Int) := by omega
      have HC : Hid (cmpN xs ys = -1) := Lib.hid (by rw [cmpN, if_pos h1])
      clear hr hr' hlen h1
      go_enter Try.func43, Try.ntmps43
      go_wp2
      go_ret
      exact ⟨by rw [HC.out] <;> rfl, Below.refl _ _⟩
    · have h1' : ¬ (xs.length : Int) < (ys.length : Int) := by omega
      have HC : Hid (cmpN xs ys = 1) := Lib.hid (by rw [cmpN, if_neg h1, if_pos (by omega)])
      clear hr hr' hlen h1
      go_enter Try.func43, Try.ntmps43
      go_wp2
      go_ret
      exact ⟨by rw [HC.out] <;> rfl, Below.refl _ _⟩

noncomputable def cnV (xs ys : List Int) : Int := if natB xs = true ∧ natB ys = true then cmpN xs ys else 0
noncomputable def cnC (xs ys : List Int) : Int := if natB xs = true ∧ natB ys = true then 0 else 1
theorem specCompareNaturals (u : Value) (xs : List Int) (v : Value) (ys : List Int) (w : World) (hu : Rd w u xs) (hv : Rd w v ys) :
    Calls Try.prog 23 #[u, v] w fun e w' => e = .returned (.tuple #[.int .i64 (cnV xs ys), .int .i64 (cnC xs ys)]) ∧ Below w.heap.size w w' := by
  have HU := Lib.hid hu
  have HV := Lib.hid hv
  clear hu hv
  rcases eq_or (natB xs) with hx | hx
  · have HX := Lib.hid hx
    have HR : Hid (cnV xs ys = 0 ∧ cnC xs ys = 1) := Lib.hid (by simp [cnV, cnC, hx])
    clear hx
    go_enter Try.func23, Try.ntmps23
    go_wp2_with (go_at_call 37; refine (specNat _ xs _ HU.out).mono ?_; rintro e w' ⟨rfl, rfl⟩; rw [HX.out])
    go_ret2
    exact ⟨by rw [HR.out.1, HR.out.2] <;> rfl, Below.refl _ _⟩
  · have HX := Lib.hid hx
    rcases eq_or (natB ys) with hy | hy
    · have HY := Lib.hid hy
      have HR : Hid (cnV xs ys = 0 ∧ cnC xs ys = 1) := Lib.hid (by simp [cnV, cnC, hy])
      clear hx hy
      go_enter Try.func23, Try.ntmps23
      go_wp2_with fail
      refine (specNat _ xs _ HU.out).mono ?_
      rintro e w' ⟨rfl, rfl⟩
      rw [HX.out]
      go_wp2_with fail
      refine (specNat _ ys _ HV.out).mono ?_
      rintro e w' ⟨rfl, rfl⟩
      rw [HY.out]
      go_wp2
      go_ret2
      exact ⟨by rw [HR.out.1, HR.out.2] <;> rfl, Below.refl _ _⟩
    · have HY := Lib.hid hy
      have HR : Hid (cnV xs ys = cmpN xs ys ∧ cnC xs ys = 0) := Lib.hid (by simp [cnV, cnC, hx, hy])
      clear hx hy
      go_enter Try.func23, Try.ntmps23
      go_wp2_with fail
      refine (specNat _ xs _ HU.out).mono ?_
      rintro e w' ⟨rfl, rfl⟩
      rw [HX.out]
      go_wp2_with fail
      refine (specNat _ ys _ HV.out).mono ?_
      rintro e w' ⟨rfl, rfl⟩
      rw [HY.out]
      go_wp2_with (go_at_call 43; refine (specCmpNat _ _ xs ys _ HU.out HV.out).mono ?_; rintro e w1 ⟨rfl, hb⟩; have HB := Lib.hid hb; clear hb)
      go_ret2
      exact ⟨by rw [HR.out.1, HR.out.2] <;> rfl, HB.out⟩
theorem implCompareNaturals (u : Value) (xs : List Int) (v : Value) (ys : List Int) (w : World) (hu : Rd w u xs) (hv : Rd w v ys) :
    Calls Try.prog 24 #[u, v] w fun e w' => e = .returned (.tuple #[.int .i64 (cnV xs ys), .int .i64 (cnC xs ys)]) ∧ Below w.heap.size w w' := by
  have hb0 : Below w.heap.size w (w.alloc (Obj.cells #[u, v] 22)) := (Below.refl _ _).alloc (Nat.le_refl _) _
  have HU := Lib.hid (hu.below hb0 (Nat.le_refl _))
  have HV := Lib.hid (hv.below hb0 (Nat.le_refl _))
  have H0 : Hid ((w.alloc (Obj.cells #[u, v] 22)).cell? ⟨w.heap.size, 0, none⟩ = some u) := Lib.hid (by simp [World.cell?_alloc_at])
  have H1 : Hid ((w.alloc (Obj.cells #[u, v] 22)).cell? ⟨w.heap.size, 1, none⟩ = some v) := Lib.hid (by simp [World.cell?_alloc_at])
  have HS : Hid (w.heap.size < (w.alloc (Obj.cells #[u, v] 22)).heap.size) := Lib.hid (by simp)
  have HB0 := Lib.hid hb0
  obtain ⟨_, _, a, c, rfl, _, _⟩ := hu
  obtain ⟨_, _, a', c', rfl, _, _⟩ := hv
  clear hb0
  rcases eq_or (natB xs && natB ys) with hx | hx
  · have HX := Lib.hid hx
    have HR : Hid (cnV xs ys = 0 ∧ cnC xs ys = 1) := Lib.hid (by
      have : ¬ (natB xs = true ∧ natB ys = true) := fun h => by rw [h.1, h.2] at hx; simp at hx
      simp only [cnV, cnC, if_neg this]; exact ⟨trivial, trivial⟩)
    clear hx
    go_enter Try.func24, Try.ntmps24
    go_wp2_with (go_at_call 40; refine (areTwo _ _ _ xs ys _ HU.out HV.out H0.out H1.out HS.out).mono ?_; rintro e w1 ⟨rfl, hb⟩; rw [HX.out]; have HB := Lib.hid hb; clear hb)
    go_ret2
    exact ⟨by rw [HR.out.1, HR.out.2] <;> rfl, HB0.out.trans (HB.out.mono (by simp))⟩
  · have HX := Lib.hid hx
    have HR : Hid (cnV xs ys = cmpN xs ys ∧ cnC xs ys = 0) := Lib.hid (by
      have : natB xs = true ∧ natB ys = true := by simpa using hx
      simp only [cnV, cnC, if_pos this]; exact ⟨trivial, trivial⟩)
    clear hx
    go_enter Try.func24, Try.ntmps24
    go_wp2_with (first | (go_at_call 40; refine (areTwo _ _ _ xs ys _ HU.out HV.out H0.out H1.out HS.out).mono ?_; rintro e w1 ⟨rfl, hb⟩; rw [HX.out]; have HU3 := Lib.hid (HU.out.below hb (Nat.le_refl _)); have HV3 := Lib.hid (HV.out.below hb (Nat.le_refl _)); have HB := Lib.hid hb; clear hb) | (go_at_call 45; refine (implCmpLimbs _ _ xs ys _ HU3.out HV3.out).mono ?_; rintro e w2 ⟨rfl, hb⟩; have HB2 := Lib.hid hb; clear hb))
    go_ret2
    exact ⟨by rw [HR.out.1, HR.out.2] <;> rfl, (HB0.out.trans (HB.out.mono (by simp))).trans (HB2.out.mono (Nat.le_trans (Nat.le_of_lt HS.out) HB.out.size))⟩
end Go.Proofs.Ytmbppdebpjgjnaa.Ints
