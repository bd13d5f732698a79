/- Contracts of FromDigits, of the model and of the program. -/
import Derived.Test.YtknlpoeolicinabFd
import Derived.Test.YtknlpoeolicinabDivBy
import Derived.Test.YtknlpoeolicinabWord
namespace Go.Proofs.Ytknlpoeolicinab.Ints
open Go.RowKit
set_option linter.unusedVariables false

noncomputable def fgOk (zs : List Int) (b : Int) : Bool := decide (2 ≤ b ∧ b ≤ 1000000) && digB b zs
noncomputable def fgL (zs : List Int) (b : Int) : List Int := if fgOk zs b = true ∧ zs.length ≤ 800 then fdL zs b else []
noncomputable def fgC (zs : List Int) (b : Int) : Int := if fgOk zs b = true then (if zs.length ≤ 800 then (if fdB zs b = true then 0 else 5) else 5) else 2
theorem fg_bad {zs : List Int} {b : Int} (h : fgOk zs b = false) : fgL zs b = [] ∧ fgC zs b = 2 := by simp [fgL, fgC, h]
theorem fg_long {zs : List Int} {b : Int} (h : fgOk zs b = true) (k : ¬ zs.length ≤ 800) : fgL zs b = [] ∧ fgC zs b = 5 := by simp [fgL, fgC, h, k]
theorem fd_none {zs : List Int} {b : Int} (h : fdR zs b = none) : fdL zs b = [] ∧ fdB zs b = false := by simp [fdL, fdB, h]
theorem fd_some {zs : List Int} {b V : Int} (h : fdR zs b = some V) : fdL zs b = canOf V ∧ fdB zs b = true := by simp [fdL, fdB, h]
theorem fg_full {zs : List Int} {b : Int} (h : fgOk zs b = true) (k : zs.length ≤ 800) (n : fdB zs b = false) : fgL zs b = [] ∧ fgC zs b = 5 := by
  have : fdL zs b = [] := by
    cases hr : fdR zs b with
    | none => exact (fd_none hr).1
    | some V => rw [(fd_some hr).2] at n; cases n
  simp [fgL, fgC, h, k, n, this]
theorem fg_good {zs : List Int} {b : Int} (h : fgOk zs b = true) (k : zs.length ≤ 800) (n : fdB zs b = true) : fgL zs b = fdL zs b ∧ fgC zs b = 0 := by simp [fgL, fgC, h, k, n]
theorem fgOk_dig {zs : List Int} {b : Int} (h : fgOk zs b = true) : (2 ≤ b ∧ b ≤ 1000000) ∧ Dig b zs := by
  simp only [fgOk, Bool.and_eq_true, decide_eq_true_eq] at h
  exact ⟨h.1, by simpa [digB] using h.2⟩
theorem fgOk_dig' {zs : List Int} {b : Int} (h1 : 2 ≤ b) (h2 : b ≤ 1000000) : fgOk zs b = digB b zs := by simp [fgOk, h1, h2]
theorem fgOk_lo {zs : List Int} {b : Int} (h1 : ¬ (2 ≤ b ∧ b ≤ 1000000)) : fgOk zs b = false := by simp only [fgOk, decide_eq_false h1, Bool.false_and]
set_option maxHeartbeats 4000000 in
theorem specFromDigits (v : Value) (zs : List Int) (b : Int) (w : World) (hv : Rd w v zs) :
    Calls Try.prog 33 #[v, .int .i64 b] w fun e w' => ∃ r, e = .returned (.tuple #[r, .int .i64 (fgC zs b)]) ∧ Ow w' w.heap.size w'.heap.size r (fgL zs b) ∧ Below w.heap.size w w' := by
  have HV := Lib.hid hv
  obtain ⟨hl, hf, a, c, rfl, hcap, hr⟩ := hv
  by_cases h1 : 2 ≤ b
  rotate_left
  · have e := Lib.hid (fg_bad (fgOk_lo (zs := zs) (fun g => h1 g.1)))
    have h1b : decide (2 ≤ b) = false := decide_eq_false h1
    clear hr
    go_enter Try.func33, Try.ntmps33
    go_wp2_with go_in
    go_ret2
    exact ⟨_, by rw [e.out.2] <;> rfl, by rw [e.out.1]; exact Ow.empty w, Below.refl _ _⟩
  by_cases h2 : b ≤ 1000000
  rotate_left
  · have e := Lib.hid (fg_bad (fgOk_lo (zs := zs) (fun g => h2 g.2)))
    have h1b : decide (2 ≤ b) = true := decide_eq_true h1
    have h2b : decide (b ≤ 1000000) = false := decide_eq_false h2
    clear hr
    go_enter Try.func33, Try.ntmps33
    go_wp2_with go_in
    go_ret2
    exact ⟨_, by rw [e.out.2] <;> rfl, by rw [e.out.1]; exact Ow.empty w, Below.refl _ _⟩
  have HOK := Lib.hid (fgOk_dig' (zs := zs) h1 h2)
  have HR := Lib.hid hr
  clear hr
  go_enter Try.func33, Try.ntmps33
  go_wp2_with fail
  refine (specInT _ _ _ _ h1 h2).mono ?_
  rintro e w' ⟨rfl, rfl⟩
  go_wp2
  go_loop [6] (fun s => ∃ k : Nat, k ≤ zs.length ∧ s = .int .i64 k ∧ ∀ i, i < k → 0 ≤ zs.getD i 0 ∧ zs.getD i 0 < b) (fun s => zs.length - (intOf s).toNat)
  case atStart => exact ⟨0, Nat.zero_le _, rfl, fun i hi => by omega⟩
  case round =>
    obtain ⟨k, hk, rfl, hall⟩ := hrel
    have HA := Lib.hid hall
    clear hall
    by_cases hlt : k < zs.length
    · obtain ⟨bb, o, rfl, hb, hcell⟩ := HR.out (by intro h0; rw [h0] at hlt; simp at hlt)
      have hc := hcell k hlt
      obtain ⟨x, hx⟩ : ∃ x, x = zs.getD k 0 := ⟨_, rfl⟩
      rw [← hx] at hc
      have HX := Lib.hid hx
      clear hcell hx
      by_cases hg : 0 ≤ x ∧ x < b
      · have HN : Hid (∀ i, i < k + 1 → 0 ≤ zs.getD i 0 ∧ zs.getD i 0 < b) := Lib.hid (fun i hi => by
          by_cases he : i = k
          · subst he; rw [← HX.out]; exact hg
          · exact HA.out i (by omega))
        obtain ⟨hg0, hg1⟩ := hg
        have hg2 : x ≤ b - 1 := by omega
        go_wp2_with fail
        refine (specInT _ _ _ _ hg0 hg2).mono ?_
        rintro e w' ⟨rfl, rfl⟩
        go_wp2
        go_round
        case rel => exact ⟨k + 1, by omega, by go_num, HN.out⟩
        case measure => simp [intOf]; omega
      · have e := Lib.hid (fg_bad (zs := zs) (b := b) (by rw [HOK.out]; exact digB_false fun H => hg (by rw [HX.out]; exact H k hlt)))
        by_cases h0 : 0 ≤ x
        · have h3 : decide (0 ≤ x) = true := decide_eq_true h0
          have h4 : decide (x ≤ b - 1) = false := decide_eq_false (by omega)
          clear hg h0
          go_wp2_with go_in
          go_ret2
          exact ⟨_, by rw [e.out.2] <;> rfl, by rw [e.out.1]; exact Ow.empty w, Below.refl _ _⟩
        · have h4 : decide (0 ≤ x) = false := decide_eq_false h0
          clear hg h0
          go_wp2_with go_in
          go_ret2
          exact ⟨_, by rw [e.out.2] <;> rfl, by rw [e.out.1]; exact Ow.empty w, Below.refl _ _⟩
    · obtain rfl : k = zs.length := by omega
      have hdig : Dig b zs := fun i hi => HA.out i hi
      have hok : fgOk zs b = true := by rw [HOK.out]; exact digB_true hdig
      have i1 : ¬ (zs.length : Int) < (zs.length : Int) := by omega
      by_cases hlen : zs.length ≤ 800
      rotate_left
      · have e := Lib.hid (fg_long hok hlen)
        have j1 : (800 : Int) < (zs.length : Int) := by omega
        clear hok hdig
        go_wp2
        go_ret2
        exact ⟨_, by rw [e.out.2] <;> rfl, by rw [e.out.1]; exact Ow.empty w, Below.refl _ _⟩
      have j1 : ¬ (800 : Int) < (zs.length : Int) := by omega
      have HD := Lib.hid hdig
      rcases eqOr (fdB zs b) with hn | hn
      · have e := Lib.hid (fg_full hok hlen hn)
        have HN := Lib.hid hn
        clear hok hdig hn
        go_wp2_with fail
        refine (specJoin _ zs b _ HV.out h1 h2 HD.out).mono ?_
        rintro e2 w2 ⟨r, rfl, ho, hb⟩
        rw [HN.out]
        have HB := Lib.hid hb
        obtain ⟨ga, gc, hg⟩ := ho.shape
        subst hg
        clear ho hb
        go_wp2
        go_ret2
        exact ⟨_, by rw [e.out.2] <;> rfl, by rw [e.out.1]; exact Ow.emptyUp HB.out.size, HB.out⟩
      · have e := Lib.hid (fg_good hok hlen hn)
        have HN := Lib.hid hn
        clear hok hdig hn
        go_wp2_with fail
        refine (specJoin _ zs b _ HV.out h1 h2 HD.out).mono ?_
        rintro e2 w2 ⟨r, rfl, ho, hb⟩
        rw [HN.out]
        have HB := Lib.hid hb
        have HO := Lib.hid ho
        obtain ⟨ga, gc, hg⟩ := ho.shape
        clear ho hb
        obtain ⟨Z, hZ⟩ : ∃ Z, Z = fdL zs b := ⟨_, rfl⟩
        rw [← hZ] at hg HO
        have HZ := Lib.hid hZ
        clear hZ
        subst hg
        go_wp2
        go_ret2
        exact ⟨_, by rw [e.out.2] <;> rfl, by rw [e.out.1, ← HZ.out]; exact HO.out, HB.out⟩
end Go.Proofs.Ytknlpoeolicinab.Ints
