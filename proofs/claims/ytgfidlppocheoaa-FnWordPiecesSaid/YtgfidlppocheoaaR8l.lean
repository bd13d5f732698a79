/- What FnWordRanks asks of its parts. -/
import Derived.Test.YtgfidlppocheoaaR8w
namespace Go.Proofs.Ytgfidlppocheoaa.Ints
open Go.RowKit
set_option linter.unusedVariables false
set_option linter.unusedSimpArgs false
theorem IsBts.le {w : World} {a : Option Addr} {len cap : Nat} {zs : List Int} (h : IsBts w a len cap zs) : (len : Int) ≤ 9223372036854775807 := by
  rcases h with ⟨_, h, _, _⟩ | ⟨_, _, h1, h2, _⟩
  · omega
  · unfold maxLen at h2; omega
theorem RdB.up {w : World} {B : Nat} {v : Value} {n : Nat} (h : RdB w B v n) : RdB w w.heap.size v n := by
  obtain ⟨h1, h2, a, c, rfl, h3, h4⟩ := h
  refine ⟨h1, Nat.le_refl _, a, c, rfl, h3, fun h0 => ?_⟩
  obtain ⟨b, o, rfl, hlt, hc⟩ := h4 h0
  exact ⟨b, o, rfl, by omega, hc⟩
theorem inL_dig {L : Int} {zs : List Int} : InL L zs ↔ Dig L zs := by
  constructor
  · intro h i hi
    rw [List.getD_eq_getElem?_getD, List.getElem?_eq_getElem hi]
    exact h _ (List.getElem_mem hi)
  · intro h x hx
    obtain ⟨i, hi, rfl⟩ := List.getElem_of_mem hx
    have := h i hi
    rwa [List.getD_eq_getElem?_getD, List.getElem?_eq_getElem hi] at this
theorem InL.word {L : Int} {zs : List Int} (h : InL L zs) (h4 : L ≤ 4) (hl : zs.length ≤ 8) : wordB zs = true :=
  wordB_true ⟨by omega, inL_dig.1 (fun x hx => by have := h x hx; omega)⟩
theorem rankOf_good {L : Int} {zs : List Int} (hL : 1 ≤ L ∧ L ≤ 4) (h : InL L zs) (hl : zs.length ≤ 8) : rankOf zs L = (rk L zs 0, 0) := by
  have hb := rk_small hL.1 hL.2 hl h
  have hd : (decide (1 ≤ L ∧ L ≤ 10) && digB L zs) = true := by rw [digB_true (inL_dig.1 h), decide_eq_true (by omega)]; rfl
  rw [rankOf, if_neg (by rw [h.word hL.2 hl]; simp), if_neg (by rw [hd]; simp)]
  exact rankGo_val hL.1 zs 0 (by omega) h (by omega)
theorem rankOf_bad {L M : Int} {zs : List Int} (hM : InL M zs) (h4 : M ≤ 4) (hl : zs.length ≤ 8) (h : ¬ InL L zs) : rankOf zs L = (0, 2) := by
  have hd : (decide (1 ≤ L ∧ L ≤ 10) && digB L zs) = false := by rw [digB_false (fun hh => h (inL_dig.2 hh))]; simp
  rw [rankOf, if_neg (by rw [hM.word h4 hl]; simp), if_pos hd]
theorem r8LongV (a : Option Addr) (n c : Nat) (a' : Option Addr) (n' c' : Nat) (w : World) (b : Bool) (hb : b = decide (1048576 < n ∨ 1048576 < n')) (h : (n : Int) ≤ 9223372036854775807) (h' : (n' : Int) ≤ 9223372036854775807) :
    Calls Try.prog 5 #[.slice a n c, .slice a' n' c'] w fun e w' => e = .returned (.bool b) ∧ w = w' := by
  by_cases h1 : 1048576 < n
  · have g1 : (1048576 : Int) < (n : Int) := by omega
    have e : Hid (b = true) := Lib.hid (by rw [hb]; simp [h1])
    clear hb
    go_enter Try.func5, Try.ntmps5
    go_wp2
    go_ret
    exact ⟨by rw [e.out] <;> rfl, rfl⟩
  · have g1 : ¬ (1048576 : Int) < (n : Int) := by omega
    by_cases h2 : 1048576 < n'
    · have g2 : (1048576 : Int) < (n' : Int) := by omega
      have e : Hid (b = true) := Lib.hid (by rw [hb]; simp [h2])
      clear hb
      go_enter Try.func5, Try.ntmps5
      go_wp2
      go_ret
      exact ⟨by rw [e.out] <;> rfl, rfl⟩
    · have g2 : ¬ (1048576 : Int) < (n' : Int) := by omega
      have e : Hid (b = false) := Lib.hid (by rw [hb]; simp [h1, h2])
      clear hb
      go_enter Try.func5, Try.ntmps5
      go_wp2
      go_ret
      exact ⟨by rw [e.out] <;> rfl, rfl⟩
end Go.Proofs.Ytgfidlppocheoaa.Ints
