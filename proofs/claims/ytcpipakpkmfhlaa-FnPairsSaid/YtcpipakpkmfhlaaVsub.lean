/- Differences by their values. -/
import Derived.Test.YtcpipakpkmfhlaaVcalc
import Derived.Test.YtcpipakpkmfhlaaSub
namespace Go.Proofs.Ytcpipakpkmfhlaa.Ints
open Go.RowKit
set_option linter.unusedVariables false
theorem iSub (u v : Value) (a b : Int) (k : Nat) (w : World) (hu : Rd w u (canOf a)) (hv : Rd w v (canOf b)) (ha : Nn k a) (hb : Nn k b) (hk : k ≤ 1000) (hle : b ≤ a) :
    Calls Try.prog 43 #[u, v] w fun e w' => ∃ r, e = .returned r ∧ Ow w' w.heap.size w'.heap.size r (canOf (a - b)) ∧ Below w.heap.size w w' := by
  obtain ⟨a1, a2, a3⟩ := ha.can
  obtain ⟨b1, b2, b3⟩ := hb.can
  have := implSub u v (canOf a) (canOf b) w hu hv a1 b1 (by omega) (by rw [a2, b2]; exact hle)
  rwa [a2, b2] at this
theorem iLess (u : Value) (a : Int) (k : Nat) (w : World) (hu : Rd w u (canOf a)) (ha : Nn k a) (h1 : 1 ≤ k) (hk : k ≤ 1000) (hpos : 1 ≤ a) :
    Calls Try.prog 35 #[u] w fun e w' => ∃ r, e = .returned r ∧ Ow w' w.heap.size w'.heap.size r (canOf (a - 1)) ∧ Below w.heap.size w w' := by
  have HU := Lib.hid hu
  have HA := Lib.hid ha
  clear hu ha
  go_enter Try.func35, Try.ntmps35
  go_wp2_with fail
  refine (implLimbs 1 _ (by omega) (by omega)).mono ?_
  rintro e w1 ⟨r1, rfl, ho, hb⟩
  rw [one_limbs] at ho
  have HO := Lib.hid ho
  have HB := Lib.hid hb
  clear ho hb
  go_wp2_with fail
  refine (iSub _ _ a 1 k _ (HU.out.below HB.out (Nat.le_refl _)) HO.out.rd HA.out ((nn_small (by omega) (by omega)).up h1) hk hpos).mono ?_
  rintro e w2 ⟨r2, rfl, ho, hb⟩
  have HB2 := Lib.hid (HB.out.trans (hb.mono HB.out.size))
  have HO2 := Lib.hid (ho.mono HB.out.size (Nat.le_refl _) (Nat.le_refl _))
  clear ho hb
  go_wp2
  go_ret
  exact ⟨_, rfl, HO2.out, HB2.out⟩
end Go.Proofs.Ytcpipakpkmfhlaa.Ints
