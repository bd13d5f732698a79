/- The model's long division: each limb of the quotient by a binary search. -/
import Derived.Test.YtcpipakpkmfhlaaVcalc
import Derived.Test.YtcpipakpkmfhlaaVsub
import Derived.Test.YtcpipakpkmfhlaaCmpNat2
import Derived.Test.YtcpipakpkmfhlaaByV
import Derived.Test.YtcpipakpkmfhlaaLimbs
import Derived.Test.YtcpipakpkmfhlaaCel
import Derived.Test.YtcpipakpkmfhlaaDg
namespace Go.Proofs.Ytcpipakpkmfhlaa.Ints
open Go.RowKit
set_option linter.unusedVariables false
theorem Blk.belowB {w w' : World} {g K B : Nat} {Z : List Int} (h : Blk w g K Z) (hb : Below B w w') (hg : g < B) : Blk w' g K Z := by
  obtain ⟨tl, h1, h2⟩ := h
  exact ⟨tl, h1, by rw [hb.block g hg]; exact h2⟩

theorem DI.stepB {ps Y : List Int} {b R : Int} {m : Nat} (h : DI ps Y b (m + 1) R) (hm : m < ps.length) (hp : Dig 1000000 ps) (b0 : 1 ≤ b) (s : Int) (hs : s = ps.getD m 0 + 1000000 * R) :
    DI ps (Y.set m (s / b)) b m (s % b) ∧ 0 ≤ s ∧ 0 ≤ s / b ∧ s / b < 1000000 := by
  obtain ⟨r0, r1⟩ := h.rb b0
  obtain ⟨d0, d1⟩ := hp m hm
  have hml : m < Y.length := by rw [h.len]; exact hm
  have q0 : 0 ≤ s / b := Int.ediv_nonneg (by omega) (by omega)
  have q1 : s / b < 1000000 := Int.ediv_lt_of_lt_mul (by omega) (by omega)
  obtain ⟨p1, p2⟩ := div_parts (val (ps.drop (m + 1))) b (ps.getD m 0) b0
  rw [← h.rem, show R * 1000000 + ps.getD m 0 = s by omega] at p1 p2
  refine ⟨⟨by rw [List.length_set, h.len], fun j h1 h2 => ?_, ?_, ?_⟩, by omega, q0, q1⟩
  · rw [getD_set _ _ _ _ hml]
    by_cases e : m = j
    · rw [if_pos e]; exact ⟨q0, q1⟩
    · rw [if_neg e]; exact h.dig j (by omega) (by rwa [List.length_set] at h2)
  · rw [drop_set Y m _ hml, val, h.quo, val_drop ps m hm, p1]
  · rw [val_drop ps m hm, p2]
theorem cons_trim {k : Nat} {r x : Int} (h : Nn k r) (x0 : 0 ≤ x) (x1 : x < 1000000) : trim (x :: canOf r) = canOf (x + 1000000 * r) := by
  obtain ⟨c1, c2, _⟩ := h.can
  refine (canOf_eq (trim_can (fun i hi => ?_)) (by rw [trim_val, val, c2])).symm
  cases i with
  | zero => simpa using ⟨x0, x1⟩
  | succ i => simpa using c1.1 i (by simpa using hi)
theorem limbs_digS {a : Int} (h0 : 0 ≤ a) (h1 : a < 1000000) : limbs a = canOf a := by
  by_cases h : 0 < a
  · exact digit_limbs h h1
  · obtain rfl : a = 0 := by omega
    rw [zero_can, limbs]
    exact limbsF_stop (by omega)
theorem sgn_le (a b : Int) : sgn a b ≤ 0 ↔ a ≤ b := by
  unfold sgn
  split
  · omega
  · split <;> omega
/-- Between the bounds of a binary search. -/
structure Bs (B R lo hi : Int) : Prop where
  l0 : 0 ≤ lo
  lh : lo ≤ hi
  h1 : hi ≤ 999999
  lr : B * lo ≤ R
  hr : R < B * (hi + 1)
theorem Bs.up {B R lo hi m : Int} (h : Bs B R lo hi) (hm0 : lo ≤ m) (hm1 : m ≤ hi) (hr : B * m ≤ R) : Bs B R m hi := ⟨by have := h.l0; omega, hm1, h.h1, hr, h.hr⟩
theorem Bs.down {B R lo hi m : Int} (h : Bs B R lo hi) (hm0 : lo < m) (hm1 : m ≤ hi) (hr : ¬ B * m ≤ R) : Bs B R lo (m - 1) :=
  ⟨h.l0, by omega, by have := h.h1; omega, h.lr, by rw [show m - 1 + 1 = m by omega]; omega⟩
theorem Bs.done {B R lo hi : Int} (h : Bs B R lo hi) (hB : 0 < B) (he : ¬ lo < hi) : lo = R / B ∧ R - B * lo = R % B := by
  have h1 := h.lr
  have h2 := h.hr
  obtain rfl : lo = hi := by have := h.lh; omega
  have e : R / B = lo := by
    have a1 : lo ≤ R / B := Int.le_ediv_of_mul_le hB (by rw [Int.mul_comm]; exact h1)
    have a2 : R / B < lo + 1 := Int.ediv_lt_of_lt_mul hB (by rw [Int.mul_comm]; exact h2)
    omega
  refine ⟨e.symm, ?_⟩
  rw [← e]
  have := Int.emod_add_mul_ediv R B
  omega
theorem Bs.start {B R : Int} (hB : 0 < B) (h0 : 0 ≤ R) (h : R / B < 1000000) : Bs B R 0 999999 := by
  refine ⟨by omega, by omega, by omega, by omega, ?_⟩
  have h1 := Int.emod_add_mul_ediv R B
  have h2 := Int.emod_lt_of_pos R hB
  have h3 : B * (R / B) ≤ B * 999999 := Int.mul_le_mul_of_nonneg_left (by omega) (by omega)
  rw [Int.mul_add]
  omega

end Go.Proofs.Ytcpipakpkmfhlaa.Ints
