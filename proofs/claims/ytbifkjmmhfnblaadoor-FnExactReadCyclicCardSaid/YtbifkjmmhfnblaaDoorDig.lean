/- Contracts of the program's test that all numbers of a list are below a limit. -/
import Derived.Test.YtbifkjmmhfnblaaDoorInts
namespace Go.Proofs.YtbifkjmmhfnblaaDoor.Ints
open Go.RowKit
set_option linter.unusedVariables false

/-- Digits from 0 to base - 1. -/
def Dig (base : Int) (zs : List Int) : Prop := ∀ i, i < zs.length → 0 ≤ zs.getD i 0 ∧ zs.getD i 0 < base
open Classical in
noncomputable def digB (base : Int) (zs : List Int) : Bool := decide (Dig base zs)
theorem digB_true {b : Int} {zs : List Int} (h : Dig b zs) : digB b zs = true := by simp [digB, h]
theorem digB_false {b : Int} {zs : List Int} (h : ¬ Dig b zs) : digB b zs = false := by simp [digB, h]

theorem closure_good (x base : Int) (b : Nat) (w : World) (hc : w.cell? ⟨b, 0, none⟩ = some (.int .i64 base)) (h0 : 0 ≤ x) (h1 : x < base) :
    Calls Tryd.prog 122 #[.int .i64 x, .pointer (some ⟨b, 0, none⟩)] w fun e w' => e = .returned (.bool false) ∧ w = w' := by
  go_enter Tryd.func122, Tryd.ntmps122
  go_wp2
  go_ret
  exact ⟨rfl, rfl⟩
theorem closure_bad (x base : Int) (b : Nat) (w : World) (hc : w.cell? ⟨b, 0, none⟩ = some (.int .i64 base)) (h : ¬ (0 ≤ x ∧ x < base)) :
    Calls Tryd.prog 122 #[.int .i64 x, .pointer (some ⟨b, 0, none⟩)] w fun e w' => e = .returned (.bool true) ∧ w = w' := by
  by_cases h0 : 0 ≤ x
  rotate_left
  · clear h
    go_enter Tryd.func122, Tryd.ntmps122
    go_wp2
    go_ret
    exact ⟨rfl, rfl⟩
  · have h1 : ¬ x < base := by omega
    clear h
    go_enter Tryd.func122, Tryd.ntmps122
    go_wp2
    go_ret
    exact ⟨rfl, rfl⟩
set_option maxHeartbeats 1000000 in
theorem index_any (v : Value) (zs : List Int) (base : Int) (p : Nat) (w : World) (h : Rd w v zs) (hp : w.cell? ⟨p, 0, none⟩ = some (.int .i64 base)) :
    Calls Tryd.prog 120 #[v, .func (Fn.func 122) #[] #[.pointer (some ⟨p, 0, none⟩)]] w fun e w' =>
      ∃ r : Int, e = .returned (.int .i64 r) ∧ decide (0 ≤ r) = !digB base zs ∧ w = w' := by
  obtain ⟨hl, hf, a, c, rfl, hcap, hr⟩ := h
  go_enter Tryd.func120, Tryd.ntmps120
  go_wp2
  go_loop [8] (fun s => ∃ k : Nat, k ≤ zs.length ∧ s = .int .i64 k ∧ ∀ i, i < k → 0 ≤ zs.getD i 0 ∧ zs.getD i 0 < base) (fun s => zs.length - (intOf s).toNat)
  case atStart => exact ⟨0, Nat.zero_le _, rfl, fun i hi => by omega⟩
  case round =>
    obtain ⟨k, hk, rfl, hall⟩ := hrel
    have HA := Lib.hid hall
    clear hall
    by_cases hlt : k < zs.length
    · obtain ⟨b, o, rfl, hb, hcell⟩ := hr (by intro h0; rw [h0] at hlt; simp at hlt)
      have hc := hcell k hlt
      obtain ⟨x, hx⟩ : ∃ x, x = zs.getD k 0 := ⟨_, rfl⟩
      rw [← hx] at hc
      have HX := Lib.hid hx
      clear hcell hr hx
      by_cases hg : 0 ≤ x ∧ x < base
      · have HN : Hid (∀ i, i < k + 1 → 0 ≤ zs.getD i 0 ∧ zs.getD i 0 < base) := Lib.hid (fun i hi => by
          by_cases he : i = k
          · subst he; rw [← HX.out]; exact hg
          · exact HA.out i (by omega))
        obtain ⟨hg0, hg1⟩ := hg
        go_wp2_with (go_at_call 122; refine (closure_good x base p _ hp hg0 hg1).mono ?_; rintro e w' ⟨rfl, rfl⟩)
        go_round
        case rel => exact ⟨k + 1, by omega, by go_num, HN.out⟩
        case measure => simp [intOf]; omega
      · have HF : Hid (digB base zs = false) := Lib.hid (digB_false fun H => hg (by rw [HX.out]; exact H k hlt))
        have HG := Lib.hid hg
        clear hg
        go_wp2_with (go_at_call 122; refine (closure_bad x base p _ hp HG.out).mono ?_; rintro e w' ⟨rfl, rfl⟩)
        go_ret
        exact ⟨k, rfl, by rw [HF.out]; simp, rfl⟩
    · have HF : Hid (digB base zs = true) := Lib.hid (digB_true fun i hi => HA.out i (by omega))
      go_wp2
      go_ret
      exact ⟨-1, rfl, by rw [HF.out]; rfl, rfl⟩
theorem areBelow_any (v : Value) (zs : List Int) (base : Int) (w : World) (h : Rd w v zs) :
    Calls Tryd.prog 91 #[v, .int .i64 base] w fun e w' => e = .returned (.bool (digB base zs)) ∧ Below w.heap.size w w' := by
  have hw : Rd (w.alloc (Obj.cells #[Value.int IntKind.i64 base] 2)) v zs := h.below ((Below.refl _ _).alloc (Nat.le_refl _) _) (Nat.le_refl _)
  have HW := Lib.hid hw
  have HP : Hid ((w.alloc (Obj.cells #[Value.int IntKind.i64 base] 2)).cell? ⟨w.heap.size, 0, none⟩ = some (.int .i64 base)) := Lib.hid (by simp [World.cell?_alloc_at])
  clear hw
  go_enter Tryd.func91, Tryd.ntmps91
  go_wp2_with (first | (go_at_call 120; refine (index_any v zs base w.heap.size _ HW.out HP.out).mono ?_; rintro e w' ⟨r, rfl, hr, rfl⟩; have HR := Lib.hid hr; clear hr) | go_in)
  go_ret
  refine ⟨?_, (Below.refl _ _).alloc (Nat.le_refl _) _⟩
  have := HR.out
  show Ending.returned (Value.bool (!decide (0 ≤ r))) = _
  rw [this]; simp

end Go.Proofs.YtbifkjmmhfnblaaDoor.Ints
