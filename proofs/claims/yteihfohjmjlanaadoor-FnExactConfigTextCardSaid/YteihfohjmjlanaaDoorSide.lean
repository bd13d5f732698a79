/- What a configuration is; the contracts of the model's and the program's tests of it. -/
import Derived.Test.YteihfohjmjlanaaDoorConf
import Derived.Test.YteihfohjmjlanaaDoorTurI
import Derived.Test.YteihfohjmjlanaaDoorDig
namespace Go.Proofs.YteihfohjmjlanaaDoor.Ints
open Go.RowKit
set_option linter.unusedVariables false
set_option linter.unusedSimpArgs false
/-- Symbols that may stand on a side of the head. -/
structure SideOk (sy : Int) (zs : List Int) : Prop where
  len : zs.length ≤ 200
  dig : Dig sy zs
  last : zs.length = 0 ∨ zs.getD (zs.length - 1) 0 ≠ 0
open Classical in
noncomputable def sideB (sy : Int) (zs : List Int) : Bool := decide (SideOk sy zs)
theorem sideB_true {sy : Int} {zs : List Int} (h : SideOk sy zs) : sideB sy zs = true := by simp only [sideB, decide_eq_true_eq]; exact h
theorem sideB_false {sy : Int} {zs : List Int} (h : ¬ SideOk sy zs) : sideB sy zs = false := by simp only [sideB, decide_eq_false_iff_not]; exact h
noncomputable def goodB (sy st cst : Int) (ls rs : List Int) : Bool := decide (0 ≤ cst ∧ cst < st) && (sideB sy ls && sideB sy rs)
noncomputable def vcB (sy st : Int) (ms : List Ru) (cst : Int) (ls rs : List Int) : Bool := machB sy st ms && goodB sy st cst ls rs
set_option maxHeartbeats 4000000 in
theorem specCells (g : Nat) (sy : Int) (v : Value) (zs : List Int) (w : World) (hv : Rd w v zs) (a0 : w.cell? ⟨g, 0, none⟩ = some (.int .i64 sy)) (s0 : 0 ≤ sy) (s1 : sy ≤ 1000000) :
    Calls Tryd.prog 80 #[.pointer (some ⟨g, 0, none⟩), v] w fun e w' => e = .returned (.bool (sideB sy zs)) ∧ ∃ m, w' = w.drewN m := by
  obtain ⟨hl, hf, a, c, rfl, hcap, hr⟩ := hv
  have e1 : IntKind.i64.wrap (sy - 1) = sy - 1 := by rw [IntKind.wrap_i64]; omega
  have HS1 := Lib.hid (show sy - 1 < sy by omega)
  clear s0 s1
  go_enter Tryd.func80, Tryd.ntmps80
  go_wp2
  go_loopw [5] (fun s wr => ∃ k : Nat, k ≤ zs.length ∧ s = .int .i64 k ∧ (∀ i, i < k → 0 ≤ zs.getD i 0 ∧ zs.getD i 0 < sy) ∧ ∃ m, wr = w.drewN m) (fun s _ => zs.length - (intOf s).toNat)
  case atStart => exact ⟨0, Nat.zero_le _, rfl, fun i hi => by omega, 0, rfl⟩
  case round =>
    obtain ⟨k, hk, rfl, hall, m, hwr⟩ := hrel
    have HWR := Lib.hid hwr
    have HA := Lib.hid hall
    have b0 : wr.cell? ⟨g, 0, none⟩ = some (.int .i64 sy) := by rw [hwr]; exact a0
    have hcw : ∀ p : Addr, wr.cell? p = w.cell? p := fun p => by rw [hwr]; rfl
    have HCW := Lib.hid hcw
    clear hall hwr hcw
    by_cases hlt : k < zs.length
    · obtain ⟨b, o, rfl, hb, hcell⟩ := hr (by intro h0; rw [h0] at hlt; simp at hlt)
      obtain ⟨x, hx⟩ : ∃ x, x = zs.getD k 0 := ⟨_, rfl⟩
      have hc : wr.cell? ⟨b, o + k, none⟩ = some (.int .i64 x) := by rw [hx, HCW.out]; exact hcell k hlt
      have i0 : (0 : Int) ≤ (k : Int) := by omega
      have i1 : (k : Int) < (zs.length : Int) := by omega
      have HX := Lib.hid hx
      clear hcell hr hx
      by_cases hg : 0 ≤ x ∧ x ≤ sy - 1
      · have HA1 : Hid (∀ lo hi : Int, lo = 0 → hi = sy - 1 → lo ≤ x ∧ x ≤ hi) := Lib.hid (fun lo hi e1 e2 => by subst e1; subst e2; exact hg)
        have HN : Hid (∀ i, i < k + 1 → 0 ≤ zs.getD i 0 ∧ zs.getD i 0 < sy) := Lib.hid (fun i hi => by
          by_cases he : i = k
          · subst he; rw [← HX.out]; omega
          · exact HA.out i (by omega))
        clear hg
        go_wp2
        go_quiet ((go_at_call 72; exact Calls.quiet_of_same (specInY _ _ _ _ (HA1.out _ _ (by decide) rfl))))
        go_wp2
        go_roundw
        case rel => exact ⟨k + 1, by omega, by go_num, HN.out, m + nq, by rw [HWR.out, World.drewN_drewN]⟩
        case measure => simp [intOf]; omega
      · have HA1 : Hid (∀ lo hi : Int, lo = 0 → hi = sy - 1 → ¬ (lo ≤ x ∧ x ≤ hi)) := Lib.hid (fun lo hi e1 e2 => by subst e1; subst e2; exact hg)
        have HF : Hid (sideB sy zs = false) := Lib.hid (sideB_false fun H => hg (by have := H.dig k hlt; rw [← HX.out] at this; omega))
        clear hg
        go_wp2
        go_quiet ((go_at_call 72; exact Calls.quiet_of_same (specInN _ _ _ _ (HA1.out _ _ (by decide) rfl))))
        go_wp2
        go_ret
        exact ⟨by rw [HF.out] <;> rfl, m + nq, by rw [HWR.out, World.drewN_drewN]⟩
    · obtain rfl : k = zs.length := by omega
      by_cases h1 : zs.length ≤ 200
      rotate_left
      · have hd : decide ((zs.length : Int) ≤ 200) = false := decide_eq_false (by omega)
        have HF : Hid (sideB sy zs = false) := Lib.hid (sideB_false fun H => h1 H.len)
        clear h1 hr
        go_wp2
        go_ret
        exact ⟨by rw [HF.out] <;> rfl, m, HWR.out⟩
      have hd : decide ((zs.length : Int) ≤ 200) = true := decide_eq_true (by omega)
      by_cases h2 : zs.length = 0
      · have hd2 : ((zs.length : Int) == 0) = true := by simp only [beq_iff_eq]; omega
        have HF : Hid (sideB sy zs = true) := Lib.hid (sideB_true ⟨h1, HA.out, .inl h2⟩)
        clear h1 h2 hr
        go_wp2
        go_ret
        exact ⟨by rw [HF.out] <;> rfl, m, HWR.out⟩
      have hd2 : ((zs.length : Int) == 0) = false := by simp only [beq_eq_false_iff_ne]; omega
      obtain ⟨b, o, rfl, hb, hcell⟩ := hr (by intro h0; rw [h0] at h2; simp at h2)
      obtain ⟨x, hx⟩ : ∃ x, x = zs.getD (zs.length - 1) 0 := ⟨_, rfl⟩
      have hc : wr.cell? ⟨b, o + (zs.length - 1), none⟩ = some (.int .i64 x) := by rw [hx, HCW.out]; exact hcell (zs.length - 1) (by omega)
      have j0 : (0 : Int) ≤ (zs.length : Int) - 1 := by omega
      have j1 : (zs.length : Int) - 1 < (zs.length : Int) := by omega
      have j2 : ((zs.length : Int) - 1).toNat = zs.length - 1 := by omega
      have j3 : IntKind.i64.wrap ((zs.length : Int) - 1) = (zs.length : Int) - 1 := by rw [IntKind.wrap_i64]; omega
      by_cases h3 : x = 0
      · have hx0 : (x != 0) = false := by simp [h3]
        have HF : Hid (sideB sy zs = false) := Lib.hid (sideB_false fun H => by
          rcases H.last with h | h
          · exact h2 h
          · exact h (by rw [← hx]; exact h3))
        clear h1 h2 h3 hx hcell
        go_wp2
        go_ret
        exact ⟨by rw [HF.out] <;> rfl, m, HWR.out⟩
      · have hx0 : (x != 0) = true := by simp [h3]
        have HF : Hid (sideB sy zs = true) := Lib.hid (sideB_true ⟨h1, HA.out, .inr (by rw [← hx]; exact h3)⟩)
        clear h1 h2 h3 hx hcell
        go_wp2
        go_ret
        exact ⟨by rw [HF.out] <;> rfl, m, HWR.out⟩
end Go.Proofs.YteihfohjmjlanaaDoor.Ints
