/- Contracts of DivideNaturals and GcdNaturals, of the model and of the program. -/
import Derived.Test.YtcpipakpkmfhlaaDvS
import Derived.Test.YtcpipakpkmfhlaaDvL
import Derived.Test.YtcpipakpkmfhlaaCmpNat2
import Derived.Test.YtcpipakpkmfhlaaNats
namespace Go.Proofs.Ytcpipakpkmfhlaa.Ints
open Go.RowKit
set_option linter.unusedVariables false
set_option linter.unusedSimpArgs false
noncomputable def dvQ (ps qs : List Int) : List Int := if natB ps = true ∧ natB qs = true ∧ 0 < qs.length then canOf (val ps / val qs) else []
noncomputable def dvR (ps qs : List Int) : List Int := if natB ps = true ∧ natB qs = true ∧ 0 < qs.length then canOf (val ps % val qs) else []
noncomputable def dvC (ps qs : List Int) : Int := if natB ps = true ∧ natB qs = true then (if 0 < qs.length then 0 else 2) else 1
theorem dv_bad {ps qs : List Int} (h : ¬ (natB ps = true ∧ natB qs = true)) : dvQ ps qs = [] ∧ dvR ps qs = [] ∧ dvC ps qs = 1 :=
  ⟨by rw [dvQ, if_neg (fun g => h ⟨g.1, g.2.1⟩)], by rw [dvR, if_neg (fun g => h ⟨g.1, g.2.1⟩)], by rw [dvC, if_neg h]⟩
theorem dv_zero {ps qs : List Int} (h : natB ps = true) (k : natB qs = true) (hz : ¬ 0 < qs.length) : dvQ ps qs = [] ∧ dvR ps qs = [] ∧ dvC ps qs = 2 :=
  ⟨by rw [dvQ, if_neg (fun g => hz g.2.2)], by rw [dvR, if_neg (fun g => hz g.2.2)], by rw [dvC, if_pos ⟨h, k⟩, if_neg hz]⟩
theorem dv_good {ps qs : List Int} (h : natB ps = true) (k : natB qs = true) (hz : 0 < qs.length) : dvQ ps qs = canOf (val ps / val qs) ∧ dvR ps qs = canOf (val ps % val qs) ∧ dvC ps qs = 0 :=
  ⟨by rw [dvQ, if_pos ⟨h, k, hz⟩], by rw [dvR, if_pos ⟨h, k, hz⟩], by rw [dvC, if_pos ⟨h, k⟩, if_pos hz]⟩
theorem sep_nil (v : Value) : Sep (.slice none 0 0) v := ⟨.inl rfl, by by_cases h : v.ownBlock = none; exact .inl h; exact .inr h⟩
theorem nat_cases (ps qs : List Int) : (natB ps = true ∧ natB qs = true) ∨ ¬ (natB ps = true ∧ natB qs = true) := Classical.em _
noncomputable def gcN (ps qs : List Int) : Nat := Nat.gcd (val ps).toNat (val qs).toNat
noncomputable def gcV (ps qs : List Int) : List Int := if natB ps = true ∧ natB qs = true then canOf (gcN ps qs : Int) else []
noncomputable def gcC (ps qs : List Int) : Int := if natB ps = true ∧ natB qs = true then 0 else 1
theorem gc_bad {ps qs : List Int} (h : ¬ (natB ps = true ∧ natB qs = true)) : gcV ps qs = [] ∧ gcC ps qs = 1 := ⟨if_neg h, if_neg h⟩
theorem gc_good {ps qs : List Int} (h : natB ps = true ∧ natB qs = true) : gcV ps qs = canOf (gcN ps qs : Int) ∧ gcC ps qs = 0 := ⟨if_pos h, if_pos h⟩
/-- The state of Euclid's loop. -/
structure GcS (G : Nat) (xs ys : List Int) : Prop where
  x : Can xs
  y : Can ys
  lx : xs.length ≤ 40
  ly : ys.length ≤ 40
  g : gcN xs ys = G
theorem GcS.step {G : Nat} {xs ys : List Int} (h : GcS G xs ys) (hy : 0 < ys.length) : GcS G ys (canOf (val xs % val ys)) ∧ val (canOf (val xs % val ys)) < val ys := by
  have hv := val_pos h.y hy
  have h0 := val_nonneg h.x.1
  have m0 := Int.emod_nonneg (val xs) (show val ys ≠ 0 by omega)
  have m1 := Int.emod_lt_of_pos (val xs) hv
  obtain ⟨c1, c2⟩ := canOf_spec m0
  have hl : (canOf (val xs % val ys)).length ≤ ys.length := can_len c1 (by rw [c2]; have := val_lt h.y.1; omega)
  refine ⟨⟨h.y, c1, h.ly, by have := h.ly; omega, ?_⟩, by rw [c2]; exact m1⟩
  rw [← h.g, gcN, gcN, c2]
  have e : (val xs % val ys).toNat = (val xs).toNat % (val ys).toNat := by
    obtain ⟨X, hX⟩ : ∃ X : Nat, val xs = X := ⟨(val xs).toNat, by omega⟩
    obtain ⟨Y, hY⟩ : ∃ Y : Nat, val ys = Y := ⟨(val ys).toNat, by omega⟩
    rw [hX, hY]
    simp only [Int.toNat_natCast]
    rfl
  rw [e, Nat.gcd_comm (val xs).toNat, Nat.gcd_rec (val ys).toNat (val xs).toNat, Nat.gcd_comm]
theorem GcS.done {G : Nat} {xs ys : List Int} (h : GcS G xs ys) (hy : ¬ 0 < ys.length) : xs = canOf (G : Int) := by
  have hn : ys = [] := List.length_eq_zero_iff.1 (by omega)
  have hg := h.g
  rw [hn, gcN] at hg
  have h0 := val_nonneg h.x.1
  simp only [val, Int.toNat_zero, Nat.gcd_zero_right] at hg
  rw [← hg, Int.toNat_of_nonneg h0]
  exact (canOf_val h.x).symm
theorem Rd.uniq {w : World} {v : Value} {xs ys : List Int} (h : Rd w v xs) (k : Rd w v ys) : xs = ys := by
  obtain ⟨_, _, a, c, e, _, hr⟩ := h
  obtain ⟨_, _, a', c', e', _, hr'⟩ := k
  rw [e] at e'
  simp only [Value.slice.injEq] at e'
  obtain ⟨ea, el, _⟩ := e'
  by_cases h0 : xs = []
  · rw [h0] at el ⊢
    exact (List.length_eq_zero_iff.1 el.symm).symm
  · obtain ⟨b, o, ha, _, hc⟩ := hr h0
    have h1 : ys ≠ [] := by
      intro hy; rw [hy] at el
      exact h0 (List.length_eq_zero_iff.1 el)
    obtain ⟨b', o', ha', _, hc'⟩ := hr' h1
    rw [ea, ha'] at ha
    simp only [Option.some.injEq, Addr.mk.injEq, and_true] at ha
    obtain ⟨rfl, rfl⟩ := ha
    apply List.ext_getElem el
    intro i h2 h3
    have e1 := hc i h2
    have e2 := hc' i h3
    rw [e1] at e2
    simp only [Option.some.injEq, Value.int.injEq, true_and] at e2
    simpa [List.getD_eq_getElem?_getD, h2, h3] using e2
/-- The value of the natural that is read at a list: a measure for loops. -/
noncomputable def rdVal (w : World) (v : Value) : Nat := open Classical in if h : ∃ ys, Rd w v ys then (val h.choose).toNat else 0
theorem rdVal_eq {w : World} {v : Value} {ys : List Int} (h : Rd w v ys) : rdVal w v = (val ys).toNat := by
  have hex : ∃ ys, Rd w v ys := ⟨ys, h⟩
  unfold rdVal
  rw [dif_pos hex, (hex.choose_spec).uniq h]
end Go.Proofs.Ytcpipakpkmfhlaa.Ints
