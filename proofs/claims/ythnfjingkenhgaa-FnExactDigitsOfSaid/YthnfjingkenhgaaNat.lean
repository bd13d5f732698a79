/- Contracts of the model's and the program's tests for naturals and digits. -/
import Derived.Test.YthnfjingkenhgaaInts
namespace Go.Proofs.Ythnfjingkenhgaa.Ints
open Go.RowKit
set_option linter.unusedVariables false

/-- Digits from 0 to base - 1. -/
def Dig (base : Int) (zs : List Int) : Prop := ∀ i, i < zs.length → 0 ≤ zs.getD i 0 ∧ zs.getD i 0 < base
/-- A natural. -/
def Natl (zs : List Int) : Prop := zs.length ≤ 40 ∧ Dig 1000000 zs ∧ (zs.length = 0 ∨ zs.getD (zs.length - 1) 0 ≠ 0)
open Classical in
noncomputable def digB (base : Int) (zs : List Int) : Bool := decide (Dig base zs)
open Classical in
noncomputable def natB (zs : List Int) : Bool := decide (Natl zs)
theorem digB_true {b : Int} {zs : List Int} (h : Dig b zs) : digB b zs = true := by simp [digB, h]
theorem digB_false {b : Int} {zs : List Int} (h : ¬ Dig b zs) : digB b zs = false := by simp [digB, h]
theorem natB_true {zs : List Int} (h : Natl zs) : natB zs = true := by simp [natB, h]
theorem natB_false {zs : List Int} (h : ¬ Natl zs) : natB zs = false := by simp [natB, h]

theorem closure_good (x base : Int) (b : Nat) (w : World) (hc : w.cell? ⟨b, 0, none⟩ = some (.int .i64 base)) (h0 : 0 ≤ x) (h1 : x < base) :
    Calls Try.prog 91 #[.int .i64 x, .pointer (some ⟨b, 0, none⟩)] w fun e w' => e = .returned (.bool false) ∧ w = w' := by
  have n0 : ¬ x < 0 := by omega
  have n1 : ¬ base ≤ x := by omega
  go_enter Try.func91, Try.ntmps91
  go_wp2
  go_ret
  exact ⟨rfl, rfl⟩
theorem closure_bad (x base : Int) (b : Nat) (w : World) (hc : w.cell? ⟨b, 0, none⟩ = some (.int .i64 base)) (h : ¬ (0 ≤ x ∧ x < base)) :
    Calls Try.prog 91 #[.int .i64 x, .pointer (some ⟨b, 0, none⟩)] w fun e w' => e = .returned (.bool true) ∧ w = w' := by
  by_cases h0 : x < 0
  · clear h
    go_enter Try.func91, Try.ntmps91
    go_wp2
    go_ret
    exact ⟨rfl, rfl⟩
  · have h1 : base ≤ x := by omega
    clear h
    go_enter Try.func91, Try.ntmps91
    go_wp2
    go_ret
    exact ⟨rfl, rfl⟩
set_option maxHeartbeats 1000000 in
theorem index_any (v : Value) (zs : List Int) (base : Int) (p : Nat) (w : World) (h : Rd w v zs) (hp : w.cell? ⟨p, 0, none⟩ = some (.int .i64 base)) :
    Calls Try.prog 101 #[v, .func (Fn.func 91) #[] #[.pointer (some ⟨p, 0, none⟩)]] w fun e w' =>
      ∃ r : Int, e = .returned (.int .i64 r) ∧ decide (0 ≤ r) = !digB base zs ∧ w = w' := by
  obtain ⟨hl, hf, a, c, rfl, hcap, hr⟩ := h
  go_enter Try.func101, Try.ntmps101
  go_wp2
  go_loop [8] (fun s => ∃ k : Nat, k ≤ zs.length ∧ s = .int .i64 k ∧ ∀ i, i < k → 0 ≤ zs.getD i 0 ∧ zs.getD i 0 < base) (fun s => zs.length - (intOf s).toNat)
  case atStart => exact ⟨0, Nat.zero_le _, rfl, fun i hi => by omega⟩
  case round =>
    obtain ⟨k, hk, rfl, hall⟩ := hrel
    have HA := Lib.hid hall
    clear hall
    by_cases hlt : k < zs.length
    · obtain ⟨b, o, rfl, hb, hcell⟩ := hr (by intro h0; rw [h0] at hlt; simp at hlt)
      have hc := hcell k hlt
      obtain ⟨x, hx⟩ : ∃ x, x = zs.getD k 0 := ⟨_, rfl⟩
      rw [← hx] at hc
      have HX := Lib.hid hx
      clear hcell hr hx
      by_cases hg : 0 ≤ x ∧ x < base
      · have HN : Hid (∀ i, i < k + 1 → 0 ≤ zs.getD i 0 ∧ zs.getD i 0 < base) := Lib.hid (fun i hi => by
          by_cases he : i = k
          · subst he; rw [← HX.out]; exact hg
          · exact HA.out i (by omega))
        obtain ⟨hg0, hg1⟩ := hg
        go_wp2_with (go_at_call 91; refine (closure_good x base p _ hp hg0 hg1).mono ?_; rintro e w' ⟨rfl, rfl⟩)
        go_round
        case rel => exact ⟨k + 1, by omega, by go_num, HN.out⟩
        case measure => simp [intOf]; omega
      · have HF : Hid (digB base zs = false) := Lib.hid (digB_false fun H => hg (by rw [HX.out]; exact H k hlt))
        have HG := Lib.hid hg
        clear hg
        go_wp2_with (go_at_call 91; refine (closure_bad x base p _ hp HG.out).mono ?_; rintro e w' ⟨rfl, rfl⟩)
        go_ret
        exact ⟨k, rfl, by rw [HF.out]; simp, rfl⟩
    · have HF : Hid (digB base zs = true) := Lib.hid (digB_true fun i hi => HA.out i (by omega))
      go_wp2
      go_ret
      exact ⟨-1, rfl, by rw [HF.out]; rfl, rfl⟩
theorem areDigits_any (v : Value) (zs : List Int) (base : Int) (w : World) (h : Rd w v zs) :
    Calls Try.prog 72 #[v, .int .i64 base] w fun e w' => e = .returned (.bool (digB base zs)) ∧ Below w.heap.size w w' := by
  have hw : Rd (w.alloc (Obj.cells #[Value.int IntKind.i64 base] 2)) v zs := h.below ((Below.refl _ _).alloc (Nat.le_refl _) _) (Nat.le_refl _)
  have HW := Lib.hid hw
  have HP : Hid ((w.alloc (Obj.cells #[Value.int IntKind.i64 base] 2)).cell? ⟨w.heap.size, 0, none⟩ = some (.int .i64 base)) := Lib.hid (by simp [World.cell?_alloc_at])
  clear hw
  go_enter Try.func72, Try.ntmps72
  go_wp2_with (first | (go_at_call 101; refine (index_any v zs base w.heap.size _ HW.out HP.out).mono ?_; rintro e w' ⟨r, rfl, hr, rfl⟩; have HR := Lib.hid hr; clear hr) | go_in)
  go_ret
  refine ⟨?_, (Below.refl _ _).alloc (Nat.le_refl _) _⟩
  have := HR.out
  show Ending.returned (Value.bool (!decide (0 ≤ r))) = _
  rw [this]; simp

set_option maxHeartbeats 1000000 in
theorem specNat (v : Value) (zs : List Int) (w : World) (h : Rd w v zs) :
    Calls Try.prog 46 #[v] w fun e w' => e = .returned (.bool (natB zs)) ∧ w = w' := by
  obtain ⟨hl, hf, a, c, rfl, hcap, hr⟩ := h
  by_cases h40 : 40 < zs.length
  · have HN := Lib.hid (natB_false (zs := zs) fun H => by have := H.1; omega)
    have h40' : (40 : Int) < (zs.length : Int) := by omega
    go_enter Try.func46, Try.ntmps46
    go_wp2
    go_ret
    exact ⟨by rw [HN.out] <;> rfl, rfl⟩
  · have h40' : ¬ (40 : Int) < (zs.length : Int) := by omega
    go_enter Try.func46, Try.ntmps46
    go_wp2
    go_loop [3] (fun s => ∃ k : Nat, k ≤ zs.length ∧ s = .int .i64 k ∧ ∀ i, i < k → 0 ≤ zs.getD i 0 ∧ zs.getD i 0 < 1000000) (fun s => zs.length - (intOf s).toNat)
    case atStart => exact ⟨0, Nat.zero_le _, rfl, fun i hi => by omega⟩
    case round =>
      obtain ⟨k, hk, rfl, hall⟩ := hrel
      have HA := Lib.hid hall
      clear hall
      by_cases hlt : k < zs.length
      · obtain ⟨b, o, rfl, hb, hcell⟩ := hr (by intro h0; rw [h0] at hlt; simp at hlt)
        have hc := hcell k hlt
        obtain ⟨x, hx⟩ : ∃ x, x = zs.getD k 0 := ⟨_, rfl⟩
        rw [← hx] at hc
        have HX := Lib.hid hx
        clear hcell hr hx
        by_cases hg : 0 ≤ x ∧ x < 1000000
        · have HN : Hid (∀ i, i < k + 1 → 0 ≤ zs.getD i 0 ∧ zs.getD i 0 < 1000000) := Lib.hid (fun i hi => by
            by_cases he : i = k
            · subst he; rw [← HX.out]; exact hg
            · exact HA.out i (by omega))
          obtain ⟨hg0, hg1⟩ := hg
          have hg2 : x ≤ 999999 := by omega
          go_wp2
          go_round
          case rel => exact ⟨k + 1, by omega, by go_num, HN.out⟩
          case measure => simp [intOf]; omega
        · have HF : Hid (natB zs = false) := Lib.hid (natB_false fun H => hg (by rw [HX.out]; exact H.2.1 k hlt))
          by_cases h0 : 0 ≤ x
          · have h1 : ¬ x ≤ 999999 := by omega
            clear hg
            go_wp2
            go_ret
            exact ⟨by rw [HF.out] <;> rfl, rfl⟩
          · clear hg
            go_wp2
            go_ret
            exact ⟨by rw [HF.out] <;> rfl, rfl⟩
      · obtain rfl : k = zs.length := by omega
        by_cases hz : zs.length = 0
        · have hzb : ((zs.length : Int) == 0) = true := by simp [hz]
          have HF : Hid (natB zs = true) := Lib.hid (natB_true ⟨by omega, fun i hi => HA.out i hi, .inl hz⟩)
          clear hz
          go_wp2
          go_ret
          exact ⟨by rw [HF.out] <;> rfl, rfl⟩
        · obtain ⟨b, o, rfl, hb, hcell⟩ := hr (by intro h0; rw [h0] at hz; simp at hz)
          have hzb : ((zs.length : Int) == 0) = false := beq_eq_false_iff_ne.2 (by omega)
          have hc := hcell (zs.length - 1) (by omega)
          have hi0 : (0 : Int) ≤ (zs.length : Int) - 1 := by omega
          have hi1 : ((zs.length : Int) - 1).toNat = zs.length - 1 := by omega
          obtain ⟨x, hx⟩ : ∃ x, x = zs.getD (zs.length - 1) 0 := ⟨_, rfl⟩
          rw [← hx] at hc
          have HX := Lib.hid hx
          by_cases hx0 : x = 0
          · have hb0 : (x != 0) = false := by simp [hx0]
            have HF : Hid (natB zs = false) := Lib.hid (natB_false fun H => by
              rcases H.2.2 with h | h
              · exact hz h
              · exact h (by rw [← HX.out]; exact hx0))
            clear hz hx hx0 hcell hr
            go_wp2
            go_ret
            exact ⟨by rw [HF.out] <;> rfl, rfl⟩
          · have hb0 : (x != 0) = true := by simp [hx0]
            have HF : Hid (natB zs = true) := Lib.hid (natB_true ⟨by omega, fun i hi => HA.out i hi, .inr (by rw [← HX.out]; exact hx0)⟩)
            clear hz hx hx0 hcell hr
            go_wp2
            go_ret
            exact ⟨by rw [HF.out] <;> rfl, rfl⟩

theorem natB_split {zs : List Int} (h : zs.length ≤ 40) (hl : zs.length = 0 ∨ zs.getD (zs.length - 1) 0 ≠ 0) : natB zs = digB 1000000 zs := by
  by_cases hd : Dig 1000000 zs
  · rw [digB_true hd, natB_true ⟨h, hd, hl⟩]
  · rw [digB_false hd, natB_false fun H => hd H.2.1]
set_option maxHeartbeats 1000000 in
theorem implNat (v : Value) (zs : List Int) (w : World) (h : Rd w v zs) :
    Calls Try.prog 62 #[v] w fun e w' => e = .returned (.bool (natB zs)) ∧ Below w.heap.size w w' := by
  have H := Lib.hid h
  obtain ⟨hl, hf, a, c, rfl, hcap, hr⟩ := h
  by_cases h40 : 40 < zs.length
  · have HN := Lib.hid (natB_false (zs := zs) fun H => by have := H.1; omega)
    have h40' : (40 : Int) < (zs.length : Int) := by omega
    go_enter Try.func62, Try.ntmps62
    go_wp2
    go_ret
    exact ⟨by rw [HN.out] <;> rfl, Below.refl _ _⟩
  · have h40' : ¬ (40 : Int) < (zs.length : Int) := by omega
    by_cases hz : zs.length = 0
    · have hp : ¬ (0 : Int) < (zs.length : Int) := by omega
      have HF := Lib.hid (natB_split (zs := zs) (by omega) (.inl hz))
      clear hz hr
      go_enter Try.func62, Try.ntmps62
      go_wp2_with (go_at_call 72; refine (areDigits_any _ zs _ _ H.out).mono ?_; rintro e w' ⟨rfl, hb⟩)
      go_ret
      exact ⟨by rw [HF.out] <;> rfl, hb⟩
    · obtain ⟨b, o, rfl, hb, hcell⟩ := hr (by intro h0; rw [h0] at hz; simp at hz)
      have hp : (0 : Int) < (zs.length : Int) := by omega
      have hc := hcell (zs.length - 1) (by omega)
      have hi0 : (0 : Int) ≤ (zs.length : Int) - 1 := by omega
      have hi1 : ((zs.length : Int) - 1).toNat = zs.length - 1 := by omega
      obtain ⟨x, hx⟩ : ∃ x, x = zs.getD (zs.length - 1) 0 := ⟨_, rfl⟩
      rw [← hx] at hc
      by_cases hx0 : x = 0
      · have hb0 : (x == 0) = true := by simp [hx0]
        have HF : Hid (natB zs = false) := Lib.hid (natB_false fun H => by
          rcases H.2.2 with h | h
          · exact hz h
          · exact h (by rw [← hx]; exact hx0))
        clear hz hx hx0 hcell hr
        go_enter Try.func62, Try.ntmps62
        go_wp2
        go_ret
        exact ⟨by rw [HF.out] <;> rfl, Below.refl _ _⟩
      · have hb0 : (x == 0) = false := by simp [hx0]
        have HF := Lib.hid (natB_split (zs := zs) (by omega) (.inr (by rw [← hx]; exact hx0)))
        clear hz hx hx0 hcell hr
        go_enter Try.func62, Try.ntmps62
        go_wp2_with (go_at_call 72; refine (areDigits_any _ zs _ _ H.out).mono ?_; rintro e w' ⟨rfl, hb⟩)
        go_ret
        exact ⟨by rw [HF.out] <;> rfl, hb⟩

end Go.Proofs.Ythnfjingkenhgaa.Ints
