/- Contracts of CompareLists, of the model and of the program. -/
import Derived.Test.YtefdjdkcmaonmaaInts
namespace Go.Proofs.Ytefdjdkcmaonmaa.Ints
open Go.RowKit
set_option linter.unusedVariables false

/-- The lexicographic comparison. -/
def cmpL : List Int → List Int → Int
  | [], [] => 0
  | [], _ :: _ => -1
  | _ :: _, [] => 1
  | a :: s, b :: t => if a < b then -1 else if b < a then 1 else cmpL s t
theorem drop_at (zs : List Int) (k : Nat) (h : k < zs.length) : zs.drop k = zs.getD k 0 :: zs.drop (k + 1) := by
  rw [List.drop_eq_getElem_cons h]; simp [List.getD_eq_getElem?_getD, List.getElem?_eq_getElem h]
theorem cmp_lt {xs ys : List Int} {k : Nat} (h : k < xs.length) (h' : k < ys.length) (hl : xs.getD k 0 < ys.getD k 0) : cmpL (xs.drop k) (ys.drop k) = -1 := by
  rw [drop_at xs k h, drop_at ys k h', cmpL, if_pos hl]
theorem cmp_gt {xs ys : List Int} {k : Nat} (h : k < xs.length) (h' : k < ys.length) (hl : ys.getD k 0 < xs.getD k 0) : cmpL (xs.drop k) (ys.drop k) = 1 := by
  rw [drop_at xs k h, drop_at ys k h', cmpL, if_neg (by omega), if_pos hl]
theorem cmp_eq {xs ys : List Int} {k : Nat} (h : k < xs.length) (h' : k < ys.length) (h1 : ¬ xs.getD k 0 < ys.getD k 0) (h2 : ¬ ys.getD k 0 < xs.getD k 0) : cmpL (xs.drop k) (ys.drop k) = cmpL (xs.drop (k + 1)) (ys.drop (k + 1)) := by
  rw [drop_at xs k h, drop_at ys k h', cmpL, if_neg h1, if_neg h2]
theorem cmp_end {xs ys : List Int} {k : Nat} (h : k ≤ xs.length) (h' : k ≤ ys.length) (hn : ¬ (k < xs.length ∧ k < ys.length)) :
    cmpL (xs.drop k) (ys.drop k) = if xs.length < ys.length then -1 else if ys.length < xs.length then 1 else 0 := by
  by_cases hx : k < xs.length
  · have hy : ys.drop k = [] := List.drop_eq_nil_of_le (by omega)
    rw [drop_at xs k hx, hy, cmpL, if_neg (by omega), if_pos (by omega)]
  · have hx' : xs.drop k = [] := List.drop_eq_nil_of_le (by omega)
    rw [hx']
    by_cases hy : k < ys.length
    · rw [drop_at ys k hy, cmpL, if_pos (by omega)]
    · rw [List.drop_eq_nil_of_le (by omega : ys.length ≤ k), cmpL, if_neg (by omega), if_neg (by omega)]

set_option maxHeartbeats 2000000 in
theorem libCmp (u v : Value) (xs ys : List Int) (w : World) (hu : Rd w u xs) (hv : Rd w v ys) :
    Calls Try.prog 21 #[u, v] w fun e w' => e = .returned (.int .i64 (cmpL xs ys)) ∧ w = w' := by
  obtain ⟨hl, hf, a, c, rfl, hcap, hr⟩ := hu
  obtain ⟨hl', hf', a', c', rfl, hcap', hr'⟩ := hv
  go_enter Try.func21, Try.ntmps21
  go_wp2
  go_loop [11] (fun s => ∃ k : Nat, k ≤ xs.length ∧ k ≤ ys.length ∧ s = .int .i64 k ∧ cmpL xs ys = cmpL (xs.drop k) (ys.drop k)) (fun s => xs.length - (intOf s).toNat)
  case atStart => exact ⟨0, Nat.zero_le _, Nat.zero_le _, rfl, by simp⟩
  case round =>
    obtain ⟨k, hk, hk', rfl, he⟩ := hrel
    have HE := Lib.hid he
    clear he
    by_cases hlt : k < xs.length
    · obtain ⟨b, o, rfl, hb, hcell⟩ := hr (by intro h0; rw [h0] at hlt; simp at hlt)
      obtain ⟨x, hx⟩ : ∃ x, x = xs.getD k 0 := ⟨_, rfl⟩
      have hc : w.cell? ⟨b, o + k, none⟩ = some (.int .i64 x) := by rw [hx]; exact hcell k hlt
      have HX := Lib.hid hx
      clear hcell hr hx
      have i1 : (k : Int) < (xs.length : Int) := by omega
      by_cases hlt' : k < ys.length
      · obtain ⟨b', o', rfl, hb', hcell'⟩ := hr' (by intro h0; rw [h0] at hlt'; simp at hlt')
        obtain ⟨y, hy⟩ : ∃ y, y = ys.getD k 0 := ⟨_, rfl⟩
        have hc' : w.cell? ⟨b', o' + k, none⟩ = some (.int .i64 y) := by rw [hy]; exact hcell' k hlt'
        have i2 : ¬ (ys.length : Int) ≤ (k : Int) := by omega
        have HY := Lib.hid hy
        clear hcell' hr' hy
        have e1 : (x != x) = false := by simp
        have e2 : (y != y) = false := by simp
        by_cases h1 : x < y
        · have HC := Lib.hid (cmp_lt hlt hlt' (by rw [← HX.out, ← HY.out]; exact h1))
          go_wp2
          go_ret
          exact ⟨by rw [HE.out, HC.out] <;> rfl, rfl⟩
        · by_cases h2 : y < x
          · have HC := Lib.hid (cmp_gt hlt hlt' (by rw [← HX.out, ← HY.out]; exact h2))
            go_wp2
            go_ret
            exact ⟨by rw [HE.out, HC.out] <;> rfl, rfl⟩
          · have HC := Lib.hid (cmp_eq hlt hlt' (by rw [← HX.out, ← HY.out]; exact h1) (by rw [← HX.out, ← HY.out]; exact h2))
            go_wp2
            go_round
            case rel => exact ⟨k + 1, by omega, by omega, by go_num, by rw [HE.out, HC.out]⟩
            case measure => simp [intOf]; omega
      · have HC := Lib.hid (cmp_end hk hk' (by omega))
        have i2 : (ys.length : Int) ≤ (k : Int) := by omega
        go_wp2
        go_ret
        exact ⟨by rw [HE.out, HC.out, if_neg (by omega), if_pos (by omega)] <;> rfl, rfl⟩
    · have HC := Lib.hid (cmp_end hk hk' (by omega))
      by_cases h1 : xs.length < ys.length
      · have n1 : (xs.length : Int) < (ys.length : Int) := by omega
        go_wp2
        go_ret
        exact ⟨by rw [HE.out, HC.out, if_pos (by omega)] <;> rfl, rfl⟩
      · have n1 : ¬ (xs.length : Int) < (ys.length : Int) := by omega
        go_wp2
        go_ret
        exact ⟨by rw [HE.out, HC.out, if_neg (by omega), if_neg (by omega)] <;> rfl, rfl⟩
theorem implCompareLists (u : Value) (xs : List Int) (v : Value) (ys : List Int) (w : World) (hu : Rd w u xs) (hv : Rd w v ys) :
    Calls Try.prog 17 #[u, v] w fun e w' => e = .returned (.int .i64 (cmpL xs ys)) ∧ Below w.heap.size w w' := by
  have H := Lib.hid hu
  have H' := Lib.hid hv
  clear hu hv
  go_enter Try.func17, Try.ntmps17
  go_wp2_with (go_at_call 21; refine (libCmp _ _ xs ys _ H.out H'.out).mono ?_; rintro e w' ⟨rfl, rfl⟩)
  go_ret
  exact ⟨rfl, Below.refl _ _⟩
end Go.Proofs.Ytefdjdkcmaonmaa.Ints
