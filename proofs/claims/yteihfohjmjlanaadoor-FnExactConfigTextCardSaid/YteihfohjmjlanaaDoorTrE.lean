/- Lists without the zeros at their ends: the program's and the model's trimming of what they read; short lists of symbols. -/
import Derived.Test.YteihfohjmjlanaaDoorOwn
import Derived.Test.YteihfohjmjlanaaDoorDig
import Derived.Deep.Strs
import Derived.Deep.Slices
namespace Go.Proofs.YteihfohjmjlanaaDoor.Ints
open Go.RowKit
set_option linter.unusedVariables false
set_option linter.unusedSimpArgs false
/-- Where the zeros at the end begin. -/
def trE (zs : List Int) : Nat → Nat
  | 0 => 0
  | k + 1 => if zs.getD k 0 = 0 then trE zs k else k + 1
theorem trE_le (zs : List Int) (k : Nat) : trE zs k ≤ k := by
  induction k with
  | zero => exact Nat.le_refl _
  | succ k ih => rw [trE]; split <;> omega
theorem trE_full (zs : List Int) : trE zs zs.length = zs.length ↔ (zs.length = 0 ∨ zs.getD (zs.length - 1) 0 ≠ 0) := by
  cases h : zs.length with
  | zero => simp [trE]
  | succ n =>
    rw [trE]
    by_cases h0 : zs.getD n 0 = 0
    · rw [if_pos h0]
      have := trE_le zs n
      constructor
      · intro h1; omega
      · rintro (h1 | h1)
        · omega
        · exact absurd h0 (by simpa using h1)
    · rw [if_neg h0]
      exact ⟨fun _ => .inr (by simpa using h0), fun _ => rfl⟩
set_option maxHeartbeats 1000000 in
theorem implTrimRdA (a : Option Addr) (c : Nat) (Z : List Int) (w : World) (h : Rd w (.slice a Z.length c) Z) :
    Calls Tryd.prog 119 #[.slice a Z.length c] w fun e w' => e = .returned (.slice a (trE Z Z.length) c) ∧ w = w' := by
  obtain ⟨hl, hf, a', c', hv, hcap, hr⟩ := h
  simp only [Value.slice.injEq] at hv
  obtain ⟨rfl, _, rfl⟩ := hv
  go_enter Tryd.func119, Tryd.ntmps119
  go_wp2
  go_loop [0] (fun s => ∃ m : Nat, m ≤ Z.length ∧ s = .slice a m c ∧ trE Z Z.length = trE Z m) (fun s => match s with | .slice _ m _ => m | _ => 0)
  case atStart => exact ⟨Z.length, Nat.le_refl _, rfl, rfl⟩
  case round =>
    obtain ⟨m, hm, rfl, he⟩ := hrel
    have HE := Lib.hid he
    clear he
    cases m with
    | zero =>
      go_wp2
      go_ret
      exact ⟨by rw [HE.out] <;> rfl, rfl⟩
    | succ m =>
      obtain ⟨b, o, rfl, hb, hcell⟩ := hr (by intro h0; rw [h0] at hm; simp at hm)
      obtain ⟨x, hx⟩ : ∃ x, x = Z.getD m 0 := ⟨_, rfl⟩
      have hc : w.cell? ⟨b, o + m, none⟩ = some (.int .i64 x) := by rw [hx]; exact hcell m (by omega)
      have i0 : ((((m + 1 : Nat) : Int)) - 1) = (m : Int) := by omega
      have i1 : (0 : Int) < (((m + 1 : Nat) : Int)) := by omega
      have i2 : (0 : Int) ≤ (m : Int) := by omega
      have i3 : (m : Int) < (((m + 1 : Nat) : Int)) := by omega
      have i4 : IntKind.i64.wrap ((((m + 1 : Nat) : Int)) - 1) = (m : Int) := by rw [IntKind.wrap_i64]; omega
      have i5 : ¬ (c : Int) < (m : Int) := by omega
      by_cases h0 : x = 0
      · have hz : (x == 0) = true := by simp [h0]
        have HS : Hid (trE Z (m + 1) = trE Z m) := Lib.hid (by rw [trE, if_pos (by rw [← hx]; exact h0)])
        clear hx h0 hcell hr
        go_wp2
        go_round
        case rel => exact ⟨m, by omega, by first | rfl | simp, by rw [HE.out, HS.out]⟩
        case measure => simp
      · have hz : (x == 0) = false := by simp [h0]
        have HF : Hid (trE Z Z.length = m + 1) := Lib.hid (by rw [HE.out, trE, if_neg (by rw [← hx]; exact h0)])
        clear hx h0 hcell hr
        go_wp2
        go_ret
        exact ⟨by rw [HF.out] <;> rfl, rfl⟩
theorem implTrimRd (v : Value) (Z : List Int) (w : World) (h : Rd w v Z) :
    Calls Tryd.prog 119 #[v] w fun e w' => ∃ a c, e = .returned (.slice a (trE Z Z.length) c) ∧ w = w' := by
  have H := h
  obtain ⟨_, _, a, c, rfl, _, _⟩ := h
  refine (implTrimRdA a c Z w H).mono ?_
  rintro e w' ⟨rfl, hw⟩
  exact ⟨_, _, rfl, hw⟩
/-- Without the zeros at the end. -/
def tr (zs : List Int) : List Int := zs.take (trE zs zs.length)
theorem tr_length (zs : List Int) : (tr zs).length = trE zs zs.length := by
  rw [tr, List.length_take, Nat.min_eq_left (trE_le _ _)]
theorem Rd.take {w : World} {a : Option Addr} {c : Nat} {Z : List Int} (h : Rd w (.slice a Z.length c) Z) (m : Nat) (hm : m ≤ Z.length) : Rd w (.slice a m c) (Z.take m) := by
  obtain ⟨hl, hf, a', c', hv, hcap, hr⟩ := h
  simp only [Value.slice.injEq] at hv
  obtain ⟨rfl, _, rfl⟩ := hv
  have hlen : (Z.take m).length = m := by rw [List.length_take]; omega
  refine ⟨by omega, fun z hz => hf z (List.mem_of_mem_take hz), a, c, by rw [hlen], by omega, fun hne => ?_⟩
  obtain ⟨b, o, ha, hb, hcell⟩ := hr (by intro h0; rw [h0] at hne; exact hne (by simp))
  refine ⟨b, o, ha, hb, fun i hi => ?_⟩
  rw [hlen] at hi
  rw [hcell i (by omega)]
  simp [List.getD_eq_getElem?_getD, hi]
theorem Rd.tail {w : World} {b o n c : Nat} {x : Int} {xs : List Int} (h : Rd w (.slice (some ⟨b, o, none⟩) n c) (x :: xs)) {a' : Option Addr} {c' : Nat} (hc : c' + 1 = c) (ha : c' ≠ 0 → a' = some ⟨b, o + 1, none⟩) : Rd w (.slice a' xs.length c') xs := by
  obtain ⟨hl, hf, a2, c2, hv, hcap, hr⟩ := h
  simp only [Value.slice.injEq] at hv
  obtain ⟨rfl, _, rfl⟩ := hv
  simp only [List.length_cons] at hl hcap
  refine ⟨by omega, fun z hz => hf z (List.mem_cons_of_mem _ hz), a', c', rfl, by omega, fun hne => ?_⟩
  obtain ⟨b', o', he, hb, hcell⟩ := hr (by simp)
  cases he
  have hp : 0 < xs.length := List.length_pos_iff.2 hne
  refine ⟨b, o + 1, ha (by omega), hb, fun i hi => ?_⟩
  have := hcell (i + 1) (by simp; omega)
  rw [show o + 1 + i = o + (i + 1) by omega, this]
  simp
theorem implTr (v : Value) (Z : List Int) (w : World) (h : Rd w v Z) :
    Calls Tryd.prog 119 #[v] w fun e w' => ∃ u, e = .returned u ∧ Rd w u (tr Z) ∧ w = w' := by
  have H := h
  obtain ⟨_, _, a, c, rfl, _, _⟩ := h
  refine (implTrimRdA a c Z w H).mono ?_
  rintro e w' ⟨rfl, hw⟩
  exact ⟨_, rfl, H.take _ (trE_le _ _), hw⟩
set_option maxHeartbeats 2000000 in
theorem implCells (v : Value) (zs : List Int) (sy mo : Int) (w : World) (hv : Rd w v zs) :
    Calls Tryd.prog 118 #[v, .int .i64 sy, .int .i64 mo] w fun e w' => e = .returned (.bool (decide ((zs.length : Int) ≤ mo) && digB sy zs)) ∧ Below w.heap.size w w' := by
  have HV := Lib.hid hv
  obtain ⟨_, _, a, c, rfl, _, _⟩ := hv
  by_cases h1 : (zs.length : Int) ≤ mo
  rotate_left
  · have hd : decide ((zs.length : Int) ≤ mo) = false := decide_eq_false h1
    rw [hd]
    clear h1
    go_enter Tryd.func118, Tryd.ntmps118
    go_wp2_with fail
    go_ret
    exact ⟨rfl, Below.refl _ _⟩
  have hd : decide ((zs.length : Int) ≤ mo) = true := decide_eq_true h1
  rw [hd]
  clear h1
  obtain ⟨bd, hbd⟩ : ∃ b, b = digB sy zs := ⟨_, rfl⟩
  have HBD := Lib.hid hbd
  rw [Bool.true_and, ← hbd]
  clear hbd
  go_enter Tryd.func118, Tryd.ntmps118
  go_wp2_with fail
  refine (areBelow_any _ zs sy _ HV.out).mono ?_
  rintro e w1 ⟨rfl, hb1⟩
  rw [← HBD.out]
  have HB1 := Lib.hid hb1
  clear hb1
  go_wp2
  go_ret
  exact ⟨rfl, HB1.out⟩
/-- The first part of an owned row. -/
theorem Ow.takeTo {w : World} {B T : Nat} {a : Option Addr} {c : Nat} {Z : List Int} (h : Ow w B T (.slice a Z.length c) Z) (m : Nat) (hm : m ≤ Z.length) : Ow w B T (.slice a m c) (Z.take m) := by
  have hlen : (Z.take m).length = m := by rw [List.length_take]; omega
  have hr := h.row.2
  have ht := h.top
  refine ⟨by rw [hlen]; have := h.len; omega, fun z hz => h.fit z (List.mem_of_mem_take hz), ⟨by simp, ?_⟩, fun k hk => ?_, h.size, h.base⟩
  · rw [hlen]
    rcases hr with ⟨hv, h0⟩ | ⟨g, cp, cur, hv, hb, hg, hn, hmx, hs, hk⟩
    · simp only [Value.slice.injEq] at hv
      obtain ⟨rfl, _, rfl⟩ := hv
      have : m = 0 := by omega
      subst this
      exact .inl ⟨rfl, rfl⟩
    · simp only [Value.slice.injEq] at hv
      obtain ⟨rfl, _, rfl⟩ := hv
      refine .inr ⟨g, c, cur, rfl, hb, hg, by omega, hmx, hs, ?_⟩
      have h2 := congrArg (List.take (m * 1)) hk
      rw [List.take_take, Nat.min_eq_left (by omega), ← List.map_take] at h2
      rw [Nat.mul_one] at h2 ⊢
      exact h2
  · cases a with
    | none => cases hk
    | some q => exact ht k hk
theorem implTrO (v : Value) (Z : List Int) (B T : Nat) (w : World) (h : Ow w B T v Z) :
    Calls Tryd.prog 119 #[v] w fun e w' => ∃ u, e = .returned u ∧ Ow w B T u (tr Z) ∧ w = w' := by
  have H := h
  have hrd := h.rd
  obtain ⟨_, _, a, c, rfl, _, _⟩ := hrd
  refine (implTrimRdA a c Z w H.rd).mono ?_
  rintro e w' ⟨rfl, hw⟩
  exact ⟨_, rfl, H.takeTo _ (trE_le _ _), hw⟩
end Go.Proofs.YteihfohjmjlanaaDoor.Ints
