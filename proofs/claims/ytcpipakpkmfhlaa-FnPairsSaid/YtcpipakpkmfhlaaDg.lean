/- Contracts of DigitsOf, of the model and of the program. -/
import Derived.Test.YtcpipakpkmfhlaaVl
import Derived.Maps.AppendAt
namespace Go.Proofs.Ytcpipakpkmfhlaa.Ints
open Go.RowKit
set_option linter.unusedVariables false

/-- The length of a list's value. -/
def lenV : Value → Nat
  | .slice _ n _ => n
  | _ => 0
theorem lenV_row {w : World} {B : Nat} {v : Value} {n : Nat} {xs : List Value} {t : TypeId} {size : Nat} (h : w.ownsRow B t size v n xs) : lenV v = n := by
  rcases h.2 with ⟨rfl, h0⟩ | ⟨g, c, cur, rfl, _⟩
  · exact h0.symm
  · rfl
/-- A list that is read does not lie in the block of a row. -/
def Apt (r o : Value) (zs : List Int) : Prop := zs ≠ [] → ∀ a n c, r = .slice (some a) n c → o.ownBlock ≠ some a.block
theorem Rd.below_top {w : World} {r : Value} {zs : List Int} (h : Rd w r zs) (hne : zs ≠ []) (a : Addr) (n c : Nat) (e : r = .slice (some a) n c) : a.block < w.heap.size := by
  obtain ⟨_, _, a', c', e', _, hr⟩ := h
  obtain ⟨b, o, ha, hb, _⟩ := hr hne
  rw [e', ha] at e
  simp at e
  rw [← e.1]; exact hb
theorem Rd.grown {w1 w2 : World} {r : Value} {zs : List Int} {row : Option Nat} (h : Rd w1 r zs) (g : w1.grownBy w2 row) (hne : zs ≠ [] → ∀ a n c, r = .slice (some a) n c → row ≠ some a.block) : Rd w2 r zs := by
  obtain ⟨l, f, a, c, rfl, hc, hr⟩ := h
  refine ⟨l, f, a, c, rfl, hc, fun h0 => ?_⟩
  obtain ⟨b, o, rfl, hlt, hcell⟩ := hr h0
  exact ⟨b, o, rfl, Nat.lt_of_lt_of_le hlt g.size, fun i hi => (World.cell?_of_block (a := ⟨b, o + i, none⟩) (g.block b hlt (fun e => hne h0 _ _ _ rfl e.symm))).trans (hcell i hi)⟩
theorem Ow.row_low {w : World} {B T : Nat} {r : Value} {zs : List Int} (h : Ow w B T r zs) (hne : zs ≠ []) (a : Addr) (n c : Nat) (e : r = .slice (some a) n c) : B ≤ a.block := by
  rcases h.form with ⟨rfl, h0⟩ | ⟨g, c', rfl, hb, _⟩
  · exact absurd h0 hne
  · simp at e; rw [← e.1]; exact hb

noncomputable def dgN (ps : List Int) (p : Int) : List Int := dgF (val ps).toNat (val ps) p
noncomputable def dgV (ps : List Int) (p : Int) : List Int := if natB ps = true ∧ 2 ≤ p ∧ p ≤ 1000000 then dgN ps p else []
noncomputable def dgC (ps : List Int) (p : Int) : Int := if natB ps = true then (if 2 ≤ p ∧ p ≤ 1000000 then 0 else 2) else 1
theorem dg_bad {ps : List Int} {p : Int} (h : natB ps = false) : dgV ps p = [] ∧ dgC ps p = 1 := by simp [dgV, dgC, h]
theorem dg_range {ps : List Int} {p : Int} (h : natB ps = true) (k : ¬ (2 ≤ p ∧ p ≤ 1000000)) : dgV ps p = [] ∧ dgC ps p = 2 := by
  rw [dgV, dgC, if_neg (fun H => k H.2), if_pos h, if_neg k]; exact ⟨rfl, rfl⟩
theorem dg_good {ps : List Int} {p : Int} (h : natB ps = true) (k : 2 ≤ p ∧ p ≤ 1000000) : dgV ps p = dgN ps p ∧ dgC ps p = 0 := by
  rw [dgV, dgC, if_pos ⟨h, k⟩, if_pos h, if_pos k]; exact ⟨rfl, rfl⟩
end Go.Proofs.Ytcpipakpkmfhlaa.Ints
