/- Sums, products and quotients by their values: each number that is not negative stands for its limbs. -/
import Derived.Test.YtcpipakpkmfhlaaMbs
import Derived.Test.YtcpipakpkmfhlaaAdd
import Derived.Test.YtcpipakpkmfhlaaMul2
import Derived.Test.YtcpipakpkmfhlaaDivBy
import Derived.Test.YtcpipakpkmfhlaaFit
namespace Go.Proofs.Ytcpipakpkmfhlaa.Ints
open Go.RowKit
set_option linter.unusedVariables false

/-- A number below the power k of the base. -/
structure Nn (k : Nat) (a : Int) : Prop where
  nn : 0 ≤ a
  lt : a < Pw k
theorem pw_le {a b : Nat} (h : a ≤ b) : Pw a ≤ Pw b := Pw_mono h
theorem pw_add (a b : Nat) : Pw (a + b) = Pw a * Pw b := by
  induction b with
  | zero => simp [Pw]
  | succ b ih => rw [← Nat.add_assoc, Pw, ih, Pw, Int.mul_assoc]
theorem Nn.up {k l : Nat} {a : Int} (h : Nn k a) (hk : k ≤ l) : Nn l a := ⟨h.nn, Int.lt_of_lt_of_le h.lt (pw_le hk)⟩
theorem Nn.add {k : Nat} {a b : Int} (h : Nn k a) (g : Nn k b) : Nn (k + 1) (a + b) := by
  have := h.nn; have := h.lt; have := g.nn; have := g.lt
  exact ⟨by omega, by rw [Pw]; omega⟩
theorem Nn.mul {k l : Nat} {a b : Int} (h : Nn k a) (g : Nn l b) : Nn (k + l) (a * b) := by
  refine ⟨Int.mul_nonneg h.nn g.nn, ?_⟩
  rw [pw_add]
  rcases Int.lt_or_eq_of_le g.nn with hb | hb
  · exact Int.lt_of_lt_of_le (Int.mul_lt_mul_of_pos_right h.lt hb) (Int.mul_le_mul_of_nonneg_left (Int.le_of_lt g.lt) (Int.le_of_lt (Pw_pos k)))
  · rw [← hb, Int.mul_zero]; exact Int.mul_pos (Pw_pos k) (Pw_pos l)
theorem Nn.div {k : Nat} {a d : Int} (h : Nn k a) (hd : 1 ≤ d) : Nn k (a / d) :=
  ⟨Int.ediv_nonneg h.nn (by omega), Int.lt_of_le_of_lt (Int.ediv_le_self _ h.nn) h.lt⟩
theorem Nn.can {k : Nat} {a : Int} (h : Nn k a) : Can (canOf a) ∧ val (canOf a) = a ∧ (canOf a).length ≤ k := by
  obtain ⟨h1, h2⟩ := canOf_spec h.nn
  exact ⟨h1, h2, can_len h1 (by rw [h2]; exact h.lt)⟩
theorem nn_of {zs : List Int} (h : Can zs) {k : Nat} (hl : zs.length ≤ k) : Nn k (val zs) := ⟨val_nonneg h.1, Int.lt_of_lt_of_le (val_lt h.1) (pw_le hl)⟩
theorem nn_small {a : Int} (h0 : 0 ≤ a) (h1 : a < 1000000) : Nn 1 a := ⟨h0, by simp [Pw]; omega⟩
theorem one_can : canOf 1 = [1] := canOf_eq ⟨fun i hi => by simp at hi; subst hi; simp, .inr (by simp)⟩ (by simp [val])
theorem digit_can {a : Int} (h0 : 0 < a) (h1 : a < 1000000) : canOf a = [a] := canOf_eq ⟨fun i hi => by simp at hi; subst hi; simp; omega, .inr (by simp; omega)⟩ (by simp [val])
theorem zero_can : canOf 0 = [] := canOf_eq can_nil (by simp [val])
theorem one_limbs : limbs 1 = canOf 1 := by rw [one_can]; rfl
theorem digit_limbs {a : Int} (h0 : 0 < a) (h1 : a < 1000000) : limbs a = canOf a := by
  rw [digit_can h0 h1]
  obtain ⟨g, hg, hs⟩ := limbsF_step (f := a.toNat) (n := a) h0 (by omega)
  rw [limbs, hs, limbsF_stop (by omega), show a % 1000000 = a by omega]
/-- A list of one number, just made. -/
theorem Rd.one (w : World) (x : Int) (h : -9223372036854775808 ≤ x ∧ x ≤ 9223372036854775807) : Rd (w.alloc (.cells #[.int .i64 x] 2)) (.slice (some ⟨w.heap.size, 0, none⟩) 1 1) [x] :=
  ⟨by simp, fun z hz => by simp at hz; subst hz; exact h, _, 1, rfl, by simp, fun _ => ⟨w.heap.size, 0, rfl, by simp, fun i hi => by
    simp at hi; subst hi; simp [World.cell?_alloc_at]⟩⟩
theorem sAdd (u v : Value) (a b : Int) (k : Nat) (w : World) (hu : Rd w u (canOf a)) (hv : Rd w v (canOf b)) (ha : Nn k a) (hb : Nn k b) (hk : k ≤ 1000) :
    Calls Try.prog 34 #[u, v] w fun e w' => ∃ r, e = .returned r ∧ Ow w' w.heap.size w'.heap.size r (canOf (a + b)) ∧ Below w.heap.size w w' := by
  obtain ⟨a1, a2, a3⟩ := ha.can
  obtain ⟨b1, b2, b3⟩ := hb.can
  have := specAdd u v (canOf a) (canOf b) w hu hv a1 b1 (by omega) (by omega)
  rwa [a2, b2] at this
theorem iAdd (u v : Value) (a b : Int) (k : Nat) (w : World) (hu : Rd w u (canOf a)) (hv : Rd w v (canOf b)) (ha : Nn k a) (hb : Nn k b) (hk : k ≤ 1000) :
    Calls Try.prog 46 #[u, v] w fun e w' => ∃ r, e = .returned r ∧ Ow w' w.heap.size w'.heap.size r (canOf (a + b)) ∧ Below w.heap.size w w' := by
  obtain ⟨a1, a2, a3⟩ := ha.can
  obtain ⟨b1, b2, b3⟩ := hb.can
  have := implAddLimbs u v (canOf a) (canOf b) w hu hv a1 b1 (by omega) (by omega)
  rwa [a2, b2] at this
theorem sMul (u v : Value) (a b : Int) (k l : Nat) (w : World) (hu : Rd w u (canOf a)) (hv : Rd w v (canOf b)) (ha : Nn k a) (hb : Nn l b) (hk : k ≤ 1000) (hl : l ≤ 1000) :
    Calls Try.prog 49 #[u, v] w fun e w' => ∃ r, e = .returned r ∧ Ow w' w.heap.size w'.heap.size r (canOf (a * b)) ∧ Below w.heap.size w w' := by
  obtain ⟨a1, a2, a3⟩ := ha.can
  obtain ⟨b1, b2, b3⟩ := hb.can
  have := specMul u v (canOf a) (canOf b) w hu hv a1 b1 (by omega) (by omega)
  rwa [a2, b2] at this
theorem iMul (u v : Value) (a b : Int) (k l : Nat) (w : World) (hu : Rd w u (canOf a)) (hv : Rd w v (canOf b)) (ha : Nn k a) (hb : Nn l b) (hk : k ≤ 1000) (hl : l ≤ 1000) :
    Calls Try.prog 62 #[u, v] w fun e w' => ∃ r, e = .returned r ∧ Ow w' w.heap.size w'.heap.size r (canOf (a * b)) ∧ Below w.heap.size w w' := by
  obtain ⟨a1, a2, a3⟩ := ha.can
  obtain ⟨b1, b2, b3⟩ := hb.can
  have := implMul u v (canOf a) (canOf b) w hu hv a1 b1 (by omega) (by omega)
  rwa [a2, b2] at this
theorem sBy (u : Value) (a d : Int) (k : Nat) (w : World) (hu : Rd w u (canOf a)) (ha : Nn k a) (hk : k ≤ 1000) (d0 : 1 ≤ d) (d1 : d ≤ 1000000) :
    Calls Try.prog 50 #[u, .int .i64 d] w fun e w' => ∃ r, e = .returned (.tuple #[r, .int .i64 (a % d)]) ∧ Ow w' w.heap.size w'.heap.size r (canOf (a / d)) ∧ Below w.heap.size w w' := by
  obtain ⟨a1, a2, a3⟩ := ha.can
  have := specBy u (canOf a) d w hu a1.1 (by omega) d0 d1
  rwa [a2] at this
theorem iBy (u : Value) (a d : Int) (k : Nat) (w : World) (hu : Rd w u (canOf a)) (ha : Nn k a) (hk : k ≤ 1000) (d0 : 1 ≤ d) (d1 : d ≤ 1000000) :
    Calls Try.prog 42 #[u, .int .i64 d] w fun e w' => ∃ r, e = .returned (.tuple #[r, .int .i64 (a % d)]) ∧ Ow w' w.heap.size w'.heap.size r (canOf (a / d)) ∧ Below w.heap.size w w' := by
  obtain ⟨a1, a2, a3⟩ := ha.can
  have := implBy u (canOf a) d w hu a1.1 (by omega) d0 d1
  rwa [a2] at this
theorem iMbs (u : Value) (a b cy : Int) (k : Nat) (w : World) (hu : Rd w u (canOf a)) (ha : Nn k a) (hk : k ≤ 1000) (b0 : 1 ≤ b) (b1 : b ≤ 1000000) (c0 : 0 ≤ cy) (c1 : cy < 1000000) :
    Calls Try.prog 41 #[u, .int .i64 b, .int .i64 cy] w fun e w' => ∃ r, e = .returned r ∧ Ow w' w.heap.size w'.heap.size r (canOf (a * b + cy)) ∧ Below w.heap.size w w' := by
  obtain ⟨a1, a2, a3⟩ := ha.can
  have := implMbs u (canOf a) b cy w hu a1 (by omega) b0 b1 c0 c1
  rwa [a2] at this
theorem iMore (u : Value) (a : Int) (k : Nat) (w : World) (hu : Rd w u (canOf a)) (ha : Nn k a) (h1 : 1 ≤ k) (hk : k ≤ 1000) :
    Calls Try.prog 51 #[u] w fun e w' => ∃ r, e = .returned r ∧ Ow w' w.heap.size w'.heap.size r (canOf (a + 1)) ∧ Below w.heap.size w w' := by
  have HU := Lib.hid hu
  have HA := Lib.hid ha
  clear hu ha
  go_enter Try.func51, Try.ntmps51
  go_wp2_with fail
  refine (implLimbs 1 _ (by omega) (by omega)).mono ?_
  rintro e w1 ⟨r1, rfl, ho, hb⟩
  rw [one_limbs] at ho
  have HO := Lib.hid ho
  have HB := Lib.hid hb
  clear ho hb
  go_wp2_with fail
  refine (iAdd _ _ a 1 k _ (HU.out.below HB.out (Nat.le_refl _)) HO.out.rd HA.out ((nn_small (by omega) (by omega)).up h1) hk).mono ?_
  rintro e w2 ⟨r2, rfl, ho, hb⟩
  have HB2 := Lib.hid (HB.out.trans (hb.mono HB.out.size))
  have HO2 := Lib.hid (ho.mono HB.out.size (Nat.le_refl _) (Nat.le_refl _))
  clear ho hb
  go_wp2
  go_ret
  exact ⟨_, rfl, HO2.out, HB2.out⟩
end Go.Proofs.Ytcpipakpkmfhlaa.Ints
