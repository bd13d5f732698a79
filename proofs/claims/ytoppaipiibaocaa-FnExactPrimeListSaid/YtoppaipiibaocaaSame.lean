/- Two lists are equal: the model's l00Same and slices.Equal; a part of a list read through a slice of it. -/
import Derived.Test.YtoppaipiibaocaaOwn
import Derived.Deep.QuietTactic
import Derived.BigQuiet
namespace Go.Proofs.Ytoppaipiibaocaa.Ints
open Go.RowKit
set_option linter.unusedVariables false

theorem same_at {xs ys : List Int} {k : Nat} (hl : xs.length = ys.length) (h : k < xs.length) (hn : xs.getD k 0 ≠ ys.getD k 0) : decide (xs = ys) = false := by
  simp only [decide_eq_false_iff_not]
  intro h; subst h; exact hn rfl
theorem same_all {xs ys : List Int} (hl : xs.length = ys.length) (h : ∀ i, i < xs.length → xs.getD i 0 = ys.getD i 0) : decide (xs = ys) = true := by
  simp only [decide_eq_true_eq]
  apply List.ext_getElem hl
  intro i h1 h2
  have := h i h1
  simpa [List.getD_eq_getElem?_getD, List.getElem?_eq_getElem h1, List.getElem?_eq_getElem h2] using this
theorem same_len {xs ys : List Int} (h : xs.length ≠ ys.length) : decide (xs = ys) = false := by
  simp only [decide_eq_false_iff_not]
  intro e; subst e; exact h rfl
set_option maxHeartbeats 1000000 in
theorem specSame (u v : Value) (xs ys : List Int) (w : World) (hu : Rd w u xs) (hv : Rd w v ys) :
    Calls Try.prog 123 #[u, v] w fun e w' => e = .returned (.bool (decide (xs = ys))) ∧ Below w.heap.size w w' := by
  obtain ⟨hl, hf, a, c, rfl, hcap, hr⟩ := hu
  obtain ⟨hl', hf', a', c', rfl, hcap', hr'⟩ := hv
  by_cases hle : xs.length = ys.length
  rotate_left
  · have HS := Lib.hid (same_len hle)
    have n3 : ((xs.length : Int) != (ys.length : Int)) = true := by simp; omega
    clear hr hr'
    go_enter Try.func123, Try.ntmps123
    go_wp2
    go_ret
    exact ⟨by rw [HS.out] <;> rfl, Below.refl _ _⟩
  have n3 : ((xs.length : Int) != (ys.length : Int)) = false := by simp; omega
  have HL := Lib.hid hle
  clear hle
  go_enter Try.func123, Try.ntmps123
  go_wp2
  go_loopw [5] (fun s wr => ∃ k : Nat, k ≤ xs.length ∧ s = .int .i64 k ∧ (∀ i, i < k → xs.getD i 0 = ys.getD i 0) ∧ Below w.heap.size w wr) (fun s _ => xs.length - (intOf s).toNat)
  case atStart => exact ⟨0, Nat.zero_le _, rfl, (fun i hi => by omega), Below.refl _ _⟩
  case round =>
    obtain ⟨k, hk, rfl, hall, hbel⟩ := hrel
    have HA := Lib.hid hall
    clear hall
    by_cases hlt : k < xs.length
    · have hlt' : k < ys.length := by have := HL.out; omega
      obtain ⟨b, o, rfl, hb, hcell⟩ := hr (by intro h0; rw [h0] at hlt; simp at hlt)
      obtain ⟨b', o', rfl, hb', hcell'⟩ := hr' (by intro h0; rw [h0] at hlt'; simp at hlt')
      obtain ⟨x, hx⟩ : ∃ x, x = xs.getD k 0 := ⟨_, rfl⟩
      obtain ⟨y, hy⟩ : ∃ y, y = ys.getD k 0 := ⟨_, rfl⟩
      have hc : wr.cell? ⟨b, o + k, none⟩ = some (.int .i64 x) := by rw [hx]; exact (hbel.cell hb).trans (hcell k hlt)
      have hc' : wr.cell? ⟨b', o' + k, none⟩ = some (.int .i64 y) := by rw [hy]; exact (hbel.cell hb').trans (hcell' k hlt')
      have i0 : (0 : Int) ≤ (k : Int) := by omega
      have i1 : (k : Int) < (xs.length : Int) := by omega
      have i2 : (k : Int) < (ys.length : Int) := by omega
      have HB := Lib.hid hbel
      have HX := Lib.hid hx
      have HY := Lib.hid hy
      clear hcell hcell' hbel hr hr' hx hy
      by_cases he : x = y
      · have HN : Hid (∀ i, i < k + 1 → xs.getD i 0 = ys.getD i 0) := Lib.hid (fun i hi => by
          by_cases hik : i = k
          · subst hik; rw [← HX.out, ← HY.out]; exact he
          · exact HA.out i (by omega))
        have eb : (x != y) = false := by simp [he]
        clear he
        go_wp2
        first | (go_roundw) | (go_quiet (fail); go_wp2; go_roundw)
        case rel => exact ⟨k + 1, by omega, by go_num, HN.out, (by first | exact HB.out | exact below_drewN HB.out _)⟩
        case measure => simp [intOf]; omega
      · have HF := Lib.hid (same_at HL.out hlt (by rw [← HX.out, ← HY.out]; exact he))
        have eb : (x != y) = true := by simp [he]
        clear he
        go_wp2
        first | (go_ret) | (go_quiet (fail); go_wp2; go_ret)
        exact ⟨by rw [HF.out] <;> rfl, (by first | exact HB.out | exact below_drewN HB.out _)⟩
    · have HF := Lib.hid (same_all HL.out (fun i hi => HA.out i (by omega)))
      have HB := Lib.hid hbel
      clear hbel
      go_wp2
      go_ret
      exact ⟨by rw [HF.out] <;> rfl, HB.out⟩
set_option maxHeartbeats 1000000 in
theorem libEqI (u v : Value) (xs ys : List Int) (w : World) (hu : Rd w u xs) (hv : Rd w v ys) :
    Calls Try.prog 60 #[u, v] w fun e w' => e = .returned (.bool (decide (xs = ys))) ∧ Below w.heap.size w w' := by
  obtain ⟨hl, hf, a, c, rfl, hcap, hr⟩ := hu
  obtain ⟨hl', hf', a', c', rfl, hcap', hr'⟩ := hv
  by_cases hle : xs.length = ys.length
  rotate_left
  · have HS := Lib.hid (same_len hle)
    have n3 : ((xs.length : Int) != (ys.length : Int)) = true := by simp; omega
    clear hr hr'
    go_enter Try.func60, Try.ntmps60
    go_wp2
    go_ret
    exact ⟨by rw [HS.out] <;> rfl, Below.refl _ _⟩
  have n3 : ((xs.length : Int) != (ys.length : Int)) = false := by simp; omega
  have HL := Lib.hid hle
  clear hle
  go_enter Try.func60, Try.ntmps60
  go_wp2
  go_loopw [13] (fun s wr => ∃ k : Nat, k ≤ xs.length ∧ s = .int .i64 k ∧ (∀ i, i < k → xs.getD i 0 = ys.getD i 0) ∧ Below w.heap.size w wr) (fun s _ => xs.length - (intOf s).toNat)
  case atStart => exact ⟨0, Nat.zero_le _, rfl, (fun i hi => by omega), Below.refl _ _⟩
  case round =>
    obtain ⟨k, hk, rfl, hall, hbel⟩ := hrel
    have HA := Lib.hid hall
    clear hall
    by_cases hlt : k < xs.length
    · have hlt' : k < ys.length := by have := HL.out; omega
      obtain ⟨b, o, rfl, hb, hcell⟩ := hr (by intro h0; rw [h0] at hlt; simp at hlt)
      obtain ⟨b', o', rfl, hb', hcell'⟩ := hr' (by intro h0; rw [h0] at hlt'; simp at hlt')
      obtain ⟨x, hx⟩ : ∃ x, x = xs.getD k 0 := ⟨_, rfl⟩
      obtain ⟨y, hy⟩ : ∃ y, y = ys.getD k 0 := ⟨_, rfl⟩
      have hc : wr.cell? ⟨b, o + k, none⟩ = some (.int .i64 x) := by rw [hx]; exact (hbel.cell hb).trans (hcell k hlt)
      have hc' : wr.cell? ⟨b', o' + k, none⟩ = some (.int .i64 y) := by rw [hy]; exact (hbel.cell hb').trans (hcell' k hlt')
      have i0 : (0 : Int) ≤ (k : Int) := by omega
      have i1 : (k : Int) < (xs.length : Int) := by omega
      have i2 : (k : Int) < (ys.length : Int) := by omega
      have HB := Lib.hid hbel
      have HX := Lib.hid hx
      have HY := Lib.hid hy
      clear hcell hcell' hbel hr hr' hx hy
      by_cases he : x = y
      · have HN : Hid (∀ i, i < k + 1 → xs.getD i 0 = ys.getD i 0) := Lib.hid (fun i hi => by
          by_cases hik : i = k
          · subst hik; rw [← HX.out, ← HY.out]; exact he
          · exact HA.out i (by omega))
        have eb : (x != y) = false := by simp [he]
        clear he
        go_wp2
        first | (go_roundw) | (go_quiet (fail); go_wp2; go_roundw)
        case rel => exact ⟨k + 1, by omega, by go_num, HN.out, (by first | exact HB.out | exact below_drewN HB.out _)⟩
        case measure => simp [intOf]; omega
      · have HF := Lib.hid (same_at HL.out hlt (by rw [← HX.out, ← HY.out]; exact he))
        have eb : (x != y) = true := by simp [he]
        clear he
        go_wp2
        first | (go_ret) | (go_quiet (fail); go_wp2; go_ret)
        exact ⟨by rw [HF.out] <;> rfl, (by first | exact HB.out | exact below_drewN HB.out _)⟩
    · have HF := Lib.hid (same_all HL.out (fun i hi => HA.out i (by omega)))
      have HB := Lib.hid hbel
      clear hbel
      go_wp2
      go_ret
      exact ⟨by rw [HF.out] <;> rfl, HB.out⟩
set_option maxHeartbeats 1000000 in
theorem specSameQ (u v : Value) (xs ys : List Int) (w : World) (hu : Rd w u xs) (hv : Rd w v ys) :
    Calls Try.prog 123 #[u, v] w fun e w' => e = .returned (.bool (decide (xs = ys))) ∧ ∃ m, w' = w.drewN m := by
  obtain ⟨hl, hf, a, c, rfl, hcap, hr⟩ := hu
  obtain ⟨hl', hf', a', c', rfl, hcap', hr'⟩ := hv
  by_cases hle : xs.length = ys.length
  rotate_left
  · have HS := Lib.hid (same_len hle)
    have n3 : ((xs.length : Int) != (ys.length : Int)) = true := by simp; omega
    clear hr hr'
    go_enter Try.func123, Try.ntmps123
    go_wp2
    go_ret
    exact ⟨by rw [HS.out] <;> rfl, 0, rfl⟩
  have n3 : ((xs.length : Int) != (ys.length : Int)) = false := by simp; omega
  have HL := Lib.hid hle
  clear hle
  go_enter Try.func123, Try.ntmps123
  go_wp2
  go_loopw [5] (fun s wr => ∃ k : Nat, k ≤ xs.length ∧ s = .int .i64 k ∧ (∀ i, i < k → xs.getD i 0 = ys.getD i 0) ∧ ∃ m, wr = w.drewN m) (fun s _ => xs.length - (intOf s).toNat)
  case atStart => exact ⟨0, Nat.zero_le _, rfl, (fun i hi => by omega), 0, rfl⟩
  case round =>
    obtain ⟨k, hk, rfl, hall, m, hbel⟩ := hrel
    have hcw : ∀ p : Addr, wr.cell? p = w.cell? p := fun p => by rw [hbel]; rfl
    have HCW := Lib.hid hcw
    clear hcw
    have HA := Lib.hid hall
    clear hall
    by_cases hlt : k < xs.length
    · have hlt' : k < ys.length := by have := HL.out; omega
      obtain ⟨b, o, rfl, hb, hcell⟩ := hr (by intro h0; rw [h0] at hlt; simp at hlt)
      obtain ⟨b', o', rfl, hb', hcell'⟩ := hr' (by intro h0; rw [h0] at hlt'; simp at hlt')
      obtain ⟨x, hx⟩ : ∃ x, x = xs.getD k 0 := ⟨_, rfl⟩
      obtain ⟨y, hy⟩ : ∃ y, y = ys.getD k 0 := ⟨_, rfl⟩
      have hc : wr.cell? ⟨b, o + k, none⟩ = some (.int .i64 x) := by rw [hx, HCW.out]; exact hcell k hlt
      have hc' : wr.cell? ⟨b', o' + k, none⟩ = some (.int .i64 y) := by rw [hy, HCW.out]; exact hcell' k hlt'
      have i0 : (0 : Int) ≤ (k : Int) := by omega
      have i1 : (k : Int) < (xs.length : Int) := by omega
      have i2 : (k : Int) < (ys.length : Int) := by omega
      have HB := Lib.hid hbel
      have HX := Lib.hid hx
      have HY := Lib.hid hy
      clear hcell hcell' hbel hr hr' hx hy
      by_cases he : x = y
      · have HN : Hid (∀ i, i < k + 1 → xs.getD i 0 = ys.getD i 0) := Lib.hid (fun i hi => by
          by_cases hik : i = k
          · subst hik; rw [← HX.out, ← HY.out]; exact he
          · exact HA.out i (by omega))
        have eb : (x != y) = false := by simp [he]
        clear he
        go_wp2
        first | (go_roundw) | (go_quiet (fail); go_wp2; go_roundw)
        case rel => exact ⟨k + 1, by omega, by go_num, HN.out, (by first | exact ⟨m, HB.out⟩ | exact ⟨m + nq, by rw [HB.out, World.drewN_drewN]⟩)⟩
        case measure => simp [intOf]; omega
      · have HF := Lib.hid (same_at HL.out hlt (by rw [← HX.out, ← HY.out]; exact he))
        have eb : (x != y) = true := by simp [he]
        clear he
        go_wp2
        first | (go_ret) | (go_quiet (fail); go_wp2; go_ret)
        exact ⟨by rw [HF.out] <;> rfl, (by first | exact ⟨m, HB.out⟩ | exact ⟨m + nq, by rw [HB.out, World.drewN_drewN]⟩)⟩
    · have HF := Lib.hid (same_all HL.out (fun i hi => HA.out i (by omega)))
      have HB := Lib.hid hbel
      clear hbel
      go_wp2
      go_ret
      exact ⟨by rw [HF.out] <;> rfl, m, HB.out⟩
end Go.Proofs.Ytoppaipiibaocaa.Ints
