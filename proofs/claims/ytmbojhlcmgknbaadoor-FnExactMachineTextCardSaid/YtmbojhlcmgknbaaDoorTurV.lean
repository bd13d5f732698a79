/- Contracts of ValidMachine, of the model and of the program. -/
import Derived.Test.YtmbojhlcmgknbaaDoorTur
import Derived.Test.YtmbojhlcmgknbaaDoorIn
import Derived.Deep.QuietTactic
import Derived.BigQuiet
namespace Go.Proofs.YtmbojhlcmgknbaaDoor.Ints
open Go.RowKit
set_option linter.unusedVariables false
set_option linter.unusedSimpArgs false
/-- A valid machine, but for its rules. -/
structure Mhd (sy st : Int) (n : Nat) : Prop where
  s0 : 2 ≤ sy
  s1 : sy ≤ 6
  t0 : 1 ≤ st
  t1 : st ≤ 1000
  len : (n : Int) = sy * st
theorem Mok.hd {sy st : Int} {rs : List Ru} (h : Mok sy st rs) : Mhd sy st rs.length := ⟨h.s0, h.s1, h.t0, h.t1, h.len⟩
theorem Mhd.ok {sy st : Int} {rs : List Ru} (h : Mhd sy st rs.length) (ha : ∀ i, i < rs.length → RuleOk sy st (rs.getD i ru0)) : Mok sy st rs := ⟨h.s0, h.s1, h.t0, h.t1, h.len, ha⟩
theorem mul_small {sy st : Int} (s0 : 2 ≤ sy) (s1 : sy ≤ 6) (t0 : 1 ≤ st) (t1 : st ≤ 1000) : 0 ≤ sy * st ∧ sy * st ≤ 6000 := by
  refine ⟨Int.mul_nonneg (by omega) (by omega), ?_⟩
  have : sy * st ≤ 6 * st := Int.mul_le_mul_of_nonneg_right s1 (by omega)
  omega
set_option maxHeartbeats 4000000 in
set_option maxRecDepth 100000 in
theorem specIs (g : Nat) (sy st : Int) (v : Value) (rs : List Ru) (w : World) (hv : RdR w v rs)
    (a0 : w.cell? ⟨g, 0, none⟩ = some (.int .i64 sy)) (a1 : w.cell? ⟨g, 1, none⟩ = some (.int .i64 st)) (a2 : w.cell? ⟨g, 2, none⟩ = some v) :
    Calls Tryd.prog 40 #[.pointer (some ⟨g, 0, none⟩)] w fun e w' => e = .returned (.bool (machB sy st rs)) ∧ Below w.heap.size w w' := by
  obtain ⟨hl, hf, a, c, rfl, hcap, hr⟩ := hv
  by_cases h1 : 2 ≤ sy ∧ sy ≤ 6
  rotate_left
  · have HA1 : Hid (∀ lo hi : Int, lo = 2 → hi = 6 → ¬ (lo ≤ sy ∧ sy ≤ hi)) := Lib.hid (fun lo hi e1 e2 => by subst e1; subst e2; omega)
    have e := Lib.hid (machB_false (sy := sy) (st := st) (rs := rs) (fun h => h1 ⟨h.s0, h.s1⟩))
    clear h1 hr
    go_enter Tryd.func40, Tryd.ntmps40
    go_wp2
    go_quiet ((go_at_call 60; exact Calls.quiet_of_same (specInN _ _ _ _ (HA1.out _ _ (by decide) (by decide)))))
    go_wp2
    go_ret
    exact ⟨by rw [e.out] <;> rfl, below_drewN (Below.refl _ _) _⟩
  have HA1 : Hid (∀ lo hi : Int, lo = 2 → hi = 6 → lo ≤ sy ∧ sy ≤ hi) := Lib.hid (fun lo hi e1 e2 => by subst e1; subst e2; omega)
  by_cases h2 : 1 ≤ st ∧ st ≤ 1000
  rotate_left
  · have HA2 : Hid (∀ lo hi : Int, lo = 1 → hi = 1000 → ¬ (lo ≤ st ∧ st ≤ hi)) := Lib.hid (fun lo hi e1 e2 => by subst e1; subst e2; omega)
    have e := Lib.hid (machB_false (sy := sy) (st := st) (rs := rs) (fun h => h2 ⟨h.t0, h.t1⟩))
    clear h1 h2 hr
    go_enter Tryd.func40, Tryd.ntmps40
    go_wp2
    go_quiet ((first | (go_at_call 60; exact Calls.quiet_of_same (specInY _ _ _ _ (HA1.out _ _ (by decide) (by decide)))) | (go_at_call 60; exact Calls.quiet_of_same (specInN _ _ _ _ (HA2.out _ _ (by decide) (by decide))))))
    go_wp2
    go_ret
    exact ⟨by rw [e.out] <;> rfl, below_drewN (Below.refl _ _) _⟩
  have HA2 : Hid (∀ lo hi : Int, lo = 1 → hi = 1000 → lo ≤ st ∧ st ≤ hi) := Lib.hid (fun lo hi e1 e2 => by subst e1; subst e2; omega)
  obtain ⟨m0, m1⟩ := mul_small h1.1 h1.2 h2.1 h2.2
  have em : IntKind.i64.wrap (sy * st) = sy * st := by rw [IntKind.wrap_i64]; omega
  obtain ⟨M, hM⟩ : ∃ M, M = sy * st := ⟨_, rfl⟩
  by_cases h3 : (rs.length : Int) = M
  rotate_left
  · have hb : ((rs.length : Int) != M) = true := by simp [h3]
    have e := Lib.hid (machB_false (sy := sy) (st := st) (rs := rs) (fun h => h3 (by rw [hM]; exact h.len)))
    have em2 : IntKind.i64.wrap (sy * st) = M := by rw [em, hM]
    clear h1 h2 h3 hr m0 m1 em hM
    go_enter Tryd.func40, Tryd.ntmps40
    go_wp2
    go_quiet ((first | (go_at_call 60; exact Calls.quiet_of_same (specInY _ _ _ _ (HA1.out _ _ (by decide) (by decide)))) | (go_at_call 60; exact Calls.quiet_of_same (specInY _ _ _ _ (HA2.out _ _ (by decide) (by decide))))))
    go_wp2
    go_ret
    exact ⟨by rw [e.out] <;> rfl, below_drewN (Below.refl _ _) _⟩
  · have hb : ((rs.length : Int) != M) = false := by simp [h3]
    have em2 : IntKind.i64.wrap (sy * st) = M := by rw [em, hM]
    have HH : Hid (Mhd sy st rs.length) := Lib.hid ⟨h1.1, h1.2, h2.1, h2.2, by rw [h3, hM]⟩
    clear h1 h2 h3 m0 m1 em hM
    have HR := Lib.hid hr
    clear hr
    go_enter Tryd.func40, Tryd.ntmps40
    go_wp2
    go_quiet ((first | (go_at_call 60; exact Calls.quiet_of_same (specInY _ _ _ _ (HA1.out _ _ (by decide) (by decide)))) | (go_at_call 60; exact Calls.quiet_of_same (specInY _ _ _ _ (HA2.out _ _ (by decide) (by decide))))))
    go_wp2
    go_loopw [3] (fun s wr => ∃ k : Nat, k ≤ rs.length ∧ s = .int .i64 k ∧ (∀ i, i < k → RuleOk sy st (rs.getD i ru0)) ∧ Below w.heap.size w wr) (fun s _ => rs.length - (intOf s).toNat)
    case atStart => exact ⟨0, Nat.zero_le _, rfl, fun i hi => by omega, below_drewN (Below.refl _ _) _⟩
    case round =>
      obtain ⟨k, hk, rfl, hall, hbel⟩ := hrel
      have HA := Lib.hid hall
      have HB := Lib.hid hbel
      have l0 := World.block_lt_of_cell? w _ a0
      replace a0 := (hbel.cell (p := ⟨g, 0, none⟩) l0).trans a0
      replace a1 := (hbel.cell (p := ⟨g, 1, none⟩) l0).trans a1
      replace a2 := (hbel.cell (p := ⟨g, 2, none⟩) l0).trans a2
      clear hall l0 hb em2
      by_cases hlt : k < rs.length
      · obtain ⟨b, o, rfl, hb, hcell⟩ := HR.out (by intro h0; rw [h0] at hlt; simp at hlt)
        obtain ⟨c0, c1, c2⟩ := hcell k hlt
        replace c0 := (hbel.cell (p := ⟨b, o + k * 3, none⟩) hb).trans c0
        replace c1 := (hbel.cell (p := ⟨b, o + k * 3 + 1, none⟩) hb).trans c1
        replace c2 := (hbel.cell (p := ⟨b, o + k * 3 + 2, none⟩) hb).trans c2
        have i0 : (0 : Int) ≤ (k : Int) := by omega
        have i1 : (k : Int) < (rs.length : Int) := by omega
        obtain ⟨r, hr0⟩ : ∃ r, r = rs.getD k ru0 := ⟨_, rfl⟩
        rw [← hr0] at c0 c1 c2
        have HE := Lib.hid hr0
        obtain ⟨x, y, z⟩ := r
        have HC : Hid (∀ W, Below wr.heap.size wr W → (W.cell? ⟨g, 0, none⟩ = some (.int .i64 sy) ∧ W.cell? ⟨g, 1, none⟩ = some (.int .i64 st) ∧ W.cell? ⟨g, 2, none⟩ = some (.slice (some ⟨b, o, none⟩) rs.length c)) ∧ (W.cell? ⟨b, o + k * 3, none⟩ = some (.int .i64 x) ∧ W.cell? ⟨b, o + k * 3 + 1, none⟩ = some (.int .i64 y) ∧ W.cell? ⟨b, o + k * 3 + 2, none⟩ = some (.int .i64 z))) := Lib.hid (fun W hW => by
          have hb1 : g < wr.heap.size := World.block_lt_of_cell? wr _ a0
          have hb2 : b < wr.heap.size := World.block_lt_of_cell? wr _ c0
          exact ⟨⟨(hW.cell (p := ⟨g, 0, none⟩) hb1).trans a0, (hW.cell (p := ⟨g, 1, none⟩) hb1).trans a1, (hW.cell (p := ⟨g, 2, none⟩) hb1).trans a2⟩, (hW.cell (p := ⟨b, o + k * 3, none⟩) hb2).trans c0, (hW.cell (p := ⟨b, o + k * 3 + 1, none⟩) hb2).trans c1, (hW.cell (p := ⟨b, o + k * 3 + 2, none⟩) hb2).trans c2⟩)
        have HX : Hid (Below wr.heap.size wr wr.drew) := Lib.hid (Below.refl _ _).drew
        clear hcell hbel hr0
        obtain ⟨br, hbr⟩ : ∃ br, br = ruleB sy st ⟨x, y, z⟩ := ⟨_, rfl⟩
        have HBR := Lib.hid hbr
        clear hbr
        go_wp2_with fail
        go_region_held3 (fun W => (W.cell? ⟨g, 0, none⟩ = some (.int .i64 sy) ∧ W.cell? ⟨g, 1, none⟩ = some (.int .i64 st) ∧ W.cell? ⟨g, 2, none⟩ = some (.slice (some ⟨b, o, none⟩) rs.length c)) ∧ (W.cell? ⟨b, o + k * 3, none⟩ = some (.int .i64 x) ∧ W.cell? ⟨b, o + k * 3 + 1, none⟩ = some (.int .i64 y) ∧ W.cell? ⟨b, o + k * 3 + 2, none⟩ = some (.int .i64 z)))
          (exact HC.out _ HX.out)
          (first | (go_at_call 77; with_reducible refine (specRule x y z sy st _ (by have := HH.out.s0; omega) (by have := HH.out.s1; omega) (by have := HH.out.t0; omega) (by have := HH.out.t1; omega)).mono ?_; rintro e3 w3 ⟨rfl, hb3⟩; rw [← HBR.out]; replace HX := Lib.hid (HX.out.trans (hb3.mono HX.out.size)); clear hb3))
        have HB2 := Lib.hid (HB.out.trans (HX.out.mono HB.out.size))
        rcases eqOr br with hbr | hbr
        · subst hbr
          have e := Lib.hid (machB_false (sy := sy) (st := st) (rs := rs) (fun h => ruleB_no HBR.out.symm (by rw [HE.out]; exact h.all k hlt)))
          go_wp2
          go_ret
          exact ⟨by rw [e.out] <;> rfl, HB2.out⟩
        · subst hbr
          have HA2 : Hid (∀ i, i < k + 1 → RuleOk sy st (rs.getD i ru0)) := Lib.hid (fun i hi => by
            by_cases e : i = k
            · subst e; rw [← HE.out]; exact ruleB_ok HBR.out.symm
            · exact HA.out i (by omega))
          go_wp2
          go_roundw
          case rel => exact ⟨k + 1, by omega, by go_num, HA2.out, HB2.out⟩
          case measure => simp [intOf]; omega
      · obtain rfl : k = rs.length := by omega
        have e := Lib.hid (machB_true (HH.out.ok HA.out))
        clear hbel
        go_wp2
        go_ret
        exact ⟨by rw [e.out] <;> rfl, HB.out⟩
end Go.Proofs.YtmbojhlcmgknbaaDoor.Ints
