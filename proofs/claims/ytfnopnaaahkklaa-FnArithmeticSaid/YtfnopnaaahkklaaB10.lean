/- The laws' own comparisons of numbers, and the source of choices at numbers. -/
import Derived.Test.YtfnopnaaahkklaaSrc0
import Derived.Test.YtfnopnaaahkklaaCmpNat2
import Derived.Test.YtfnopnaaahkklaaDvN
import Derived.Test.YtfnopnaaahkklaaCmpNat
import Derived.Test.YtfnopnaaahkklaaCan
namespace Go.Proofs.Ytfnopnaaahkklaa.Ints
open Go.RowKit
set_option linter.unusedVariables false
set_option linter.unusedSimpArgs false
set_option maxHeartbeats 1000000 in
theorem b10Nums (u v : Value) (zs : List Int) (w : World) (hu : Rd w u zs) (hv : Rd w v zs) :
    Calls Try.prog 33 #[u, v] w fun e w' => e = .returned (.bool true) ∧ Below w.heap.size w w' := by
  obtain ⟨hl, hf, a, c, rfl, hcap, hr⟩ := hu
  obtain ⟨_, _, a', c', rfl, _, hr'⟩ := hv
  go_enter Try.func33, Try.ntmps33
  go_wp2
  go_loopw [5] (fun s wr => ∃ k : Nat, k ≤ zs.length ∧ s = .int .i64 k ∧ Below w.heap.size w wr) (fun s _ => zs.length - (intOf s).toNat)
  case atStart => exact ⟨0, Nat.zero_le _, rfl, Below.refl _ _⟩
  case round =>
    obtain ⟨k, hk, rfl, hbel⟩ := hrel
    by_cases hlt : k < zs.length
    · obtain ⟨b, o, rfl, hb, hcell⟩ := hr (by intro h0; rw [h0] at hlt; simp at hlt)
      obtain ⟨b', o', rfl, hb', hcell'⟩ := hr' (by intro h0; rw [h0] at hlt; simp at hlt)
      have hc : wr.cell? ⟨b, o + k, none⟩ = some (.int .i64 (zs.getD k 0)) := (hbel.cell hb).trans (hcell k hlt)
      have hc' : wr.cell? ⟨b', o' + k, none⟩ = some (.int .i64 (zs.getD k 0)) := (hbel.cell hb').trans (hcell' k hlt)
      have i0 : (0 : Int) ≤ (k : Int) := by omega
      have i1 : (k : Int) < (zs.length : Int) := by omega
      have HB := Lib.hid hbel
      clear hcell hcell' hbel hr hr'
      go_wp2
      go_quiet (fail)
      go_wp2
      go_roundw
      case rel => exact ⟨k + 1, by omega, by go_num, below_drewN HB.out _⟩
      case measure => simp [intOf]; omega
    · have HB := Lib.hid hbel
      have hnlt : ¬ (k : Int) < (zs.length : Int) := by omega
      clear hbel
      go_wp2
      go_ret
      exact ⟨rfl, HB.out⟩
theorem lt_top {xs ys : List Int} (hx : Can xs) (hy : Can ys) (h : val xs < val ys) : cmpN xs ys = -1 := by rw [cmpN_val hx hy, sgn, if_pos h]
set_option maxHeartbeats 2000000 in
theorem b10Less (u v : Value) (xs ys : List Int) (w : World) (hu : Rd w u xs) (hv : Rd w v ys) (hx : Can xs) (hy : Can ys) (hlt : val xs < val ys) :
    Calls Try.prog 35 #[u, v] w fun e w' => e = .returned (.bool true) ∧ Below w.heap.size w w' := by
  have HC := Lib.hid (lt_top hx hy hlt)
  obtain ⟨hl, hf, a, c, rfl, hcap, hr⟩ := hu
  obtain ⟨hl', hf', a', c', rfl, hcap', hr'⟩ := hv
  clear hx hy hlt
  by_cases hlen : xs.length = ys.length
  · have HL := Lib.hid hlen
    rw [← hlen]
    have hne : ((xs.length : Int) != (xs.length : Int)) = false := by simp
    have HR := Lib.hid hr
    have HR' := Lib.hid hr'
    clear hr hr' hlen
    go_enter Try.func35, Try.ntmps35
    go_wp2
    go_loopw [5] (fun s wr => ∃ m : Nat, m ≤ xs.length ∧ s = .int .i64 ((m : Int) - 1) ∧ (∀ j, m ≤ j → j < xs.length → xs.getD j 0 = ys.getD j 0) ∧ Below w.heap.size w wr) (fun s _ => (intOf s + 1).toNat)
    case atStart => exact ⟨xs.length, Nat.le_refl _, rfl, fun j a b => by omega, Below.refl _ _⟩
    case round =>
      obtain ⟨m, hm, hi, hs, hbel⟩ := hrel
      have HS := Lib.hid hs
      cases m with
      | zero =>
        exfalso
        have h1 := HC.out
        have := HL.out
        rw [cmpN, if_neg (by omega), if_neg (by omega), cmpD_same xs ys xs.length 0 (by omega) (fun j a b => HS.out j a b)] at h1
        simp [cmpD] at h1
      | succ m =>
        rw [show (((m + 1 : Nat) : Int) - 1) = (m : Int) by omega] at hi
        obtain rfl := hi
        obtain ⟨b, o, rfl, hb, hcell⟩ := HR.out (by intro h0; rw [h0] at hm; simp at hm)
        obtain ⟨b', o', rfl, hb', hcell'⟩ := HR'.out (by intro h0; have h2 := congrArg List.length h0; have := HL.out; simp only [List.length_nil] at h2; omega)
        obtain ⟨x, hx⟩ : ∃ x, x = xs.getD m 0 := ⟨_, rfl⟩
        obtain ⟨y, hy⟩ : ∃ y, y = ys.getD m 0 := ⟨_, rfl⟩
        have hc : wr.cell? ⟨b, o + m, none⟩ = some (.int .i64 x) := by rw [hx]; exact (hbel.cell hb).trans (hcell m (by omega))
        have hc' : wr.cell? ⟨b', o' + m, none⟩ = some (.int .i64 y) := by rw [hy]; exact (hbel.cell hb').trans (hcell' m (by have := HL.out; omega))
        have i0 : (0 : Int) ≤ (m : Int) := by omega
        have i1 : (m : Int) < (xs.length : Int) := by omega
        have HB := Lib.hid hbel
        have HX := Lib.hid hx
        have HY := Lib.hid hy
        have hmlt : m < xs.length := by omega
        have HT : Hid (x ≠ y → sgn x y = -1) := Lib.hid (fun hxy => by
          have := HL.out
          have h1 := HC.out
          rwa [cmpN, if_neg (by omega), if_neg (by omega), cmpD_top xs ys xs.length m hmlt (fun j a b => HS.out j a b) (by rw [← hx, ← hy]; exact hxy), ← hx, ← hy] at h1)
        clear hcell hcell' hbel hs hx hy hmlt
        by_cases h0 : x = y
        · have HE : Hid (∀ j, m ≤ j → j < xs.length → xs.getD j 0 = ys.getD j 0) := Lib.hid (fun j a b => by
            by_cases e : j = m
            · subst e; rw [← HX.out, ← HY.out]; exact h0
            · exact HS.out j (by omega) b)
          have h1 : (x != y) = false := by simp [h0]
          go_wp2
          go_quiet (fail)
          go_wp2
          go_roundw
          case rel => exact ⟨m, by omega, by go_num, HE.out, below_drewN HB.out _⟩
          case measure => simp [intOf]
        · have h1 : (x != y) = true := by simp [h0]
          have h2 : x < y := by
            have := HT.out h0
            unfold sgn at this
            split at this
            · assumption
            · split at this <;> simp at this
          go_wp2
          go_quiet (fail)
          go_wp2
          go_quiet (fail)
          go_wp2
          go_ret
          exact ⟨by first | rfl | simp [h2], (by first | exact below_drewN HB.out _ | exact below_drewN (below_drewN HB.out _) _)⟩
  · have h1 : xs.length < ys.length := by
      have h1 := HC.out
      unfold cmpN at h1
      split at h1
      · assumption
      · split at h1
        · simp at h1
        · omega
    have hne : ((xs.length : Int) != (ys.length : Int)) = true := by simp; omega
    have hne2 : ¬ (xs.length : Int) = (ys.length : Int) := by omega
    have h2 : (xs.length : Int) < (ys.length : Int) := by omega
    clear hr hr'
    go_enter Try.func35, Try.ntmps35
    go_wp2
    go_ret
    exact ⟨by first | rfl | simp [h2], Below.refl _ _⟩
set_option maxHeartbeats 1000000 in
theorem srcPickW (g k n B : Nat) (v : Value) (s m : Int) (w : World) (hc : Cels w g 63 [v, .int .i64 (k : Int), .int .u64 s]) (hv : RdB w B v n) (hg : B ≤ g) (hk : k ≤ 900) (h1 : 1 ≤ m) (h2 : m ≤ 60000) :
    Calls Try.prog 77 #[.pointer (some ⟨g, 0, none⟩), .int .i64 m] w fun e w' => ∃ (x s' : Int) (k' : Nat), e = .returned (.int .i64 x) ∧ 0 ≤ x ∧ x < m ∧ k' ≤ k + 2 ∧ Cels w' g 63 [v, .int .i64 (k' : Int), .int .u64 s'] ∧ Below g w w' ∧ Only (fun b => b = g) w w' := by
  by_cases hm : m ≤ 200
  · refine (srcPick g k n B v s m w hc hv hg (by omega) h1 hm).mono ?_
    rintro e w' ⟨x, s', k', rfl, x0, x1, k0, r⟩
    exact ⟨x, s', k', rfl, x0, x1, by omega, r⟩
  have HC := Lib.hid hc
  have HV := Lib.hid hv
  clear hc hv
  have hm1 : ¬ m ≤ 1 := by omega
  have hm2 : (200 : Int) < m := by omega
  go_enter Try.func77, Try.ntmps77
  go_wp2_with fail
  refine (srcNext g k n B v s _ HC.out HV.out hg (by omega)).mono ?_
  rintro e w1 ⟨x, s', rfl, x0, x1, hc1, hb1, ho1⟩
  have HC1 := Lib.hid hc1
  have HB1 := Lib.hid hb1
  have HO1 := Lib.hid ho1
  have wx : IntKind.i64.wrap (x * 256) = x * 256 := by rw [IntKind.wrap_i64]; omega
  clear hc1 hb1 ho1
  go_wp2_with fail
  refine (srcNext g (k + 1) n B v s' _ (by push_cast; exact HC1.out) (HV.out.below HB1.out hg) hg (by omega)).mono ?_
  rintro e w2 ⟨z, s2, rfl, z0, z1, hc2, hb2, ho2⟩
  have HC2 := Lib.hid hc2
  have HB2 := Lib.hid (HB1.out.trans hb2)
  have HO2 := Lib.hid (HO1.out.trans ho2)
  have wz : IntKind.i64.wrap (x * 256 + z) = x * 256 + z := by rw [IntKind.wrap_i64]; omega
  obtain ⟨y, hy⟩ : ∃ y, y = (x * 256 + z) % m := ⟨_, rfl⟩
  have hty : (x * 256 + z).tmod m = y := by rw [Int.tmod_eq_emod_of_nonneg (by omega), hy]
  have y0 : 0 ≤ y := by rw [hy]; exact Int.emod_nonneg _ (by omega)
  have y1 : y < m := by rw [hy]; exact Int.emod_lt_of_pos _ (by omega)
  clear hc2 hb2 ho2 hy
  go_wp2
  go_ret
  exact ⟨y, s2, k + 2, rfl, y0, y1, Nat.le_refl _, by (have := HC2.out; push_cast at this ⊢; simpa [Int.add_assoc] using this), HB2.out, HO2.out⟩
end Go.Proofs.Ytfnopnaaahkklaa.Ints
