/- The contract of the model's sum of limbs. -/
import Derived.Test.YtcpipakpkmfhlaaVal
import Derived.Test.YtcpipakpkmfhlaaLimbs
namespace Go.Proofs.Ytcpipakpkmfhlaa.Ints
open Go.RowKit
set_option linter.unusedVariables false

/-- What holds of a sum behind k limbs, with the carry c. -/
structure AddInv (ps qs : List Int) (M k : Nat) (c : Int) (xs : List Int) : Prop where
  len : xs.length = k
  dig : Dig 1000000 xs
  c0 : 0 ≤ c
  c1 : c ≤ 1
  sum : val xs + Pw k * c = val (ps.take k) + val (qs.take k)
  last : k < M ∨ 0 < c ∨ k = 0 ∨ xs.getD (xs.length - 1) 0 ≠ 0
  top : k ≤ M ∨ (k = M + 1 ∧ c = 0)
theorem AddInv.start (ps qs : List Int) (M : Nat) : AddInv ps qs M 0 0 [] :=
  ⟨rfl, fun i hi => by simp at hi, by omega, by omega, by simp [val], .inr (.inr (.inl rfl)), .inl (Nat.zero_le _)⟩
theorem dig_at {zs : List Int} (h : Dig 1000000 zs) (k : Nat) : 0 ≤ zs.getD k 0 ∧ zs.getD k 0 ≤ 999999 := by
  by_cases hk : k < zs.length
  · have := h k hk; omega
  · rw [List.getD_eq_getElem?_getD, List.getElem?_eq_none (by omega)]; simp
theorem AddInv.step {ps qs : List Int} {M k : Nat} {c : Int} {xs : List Int} (h : AddInv ps qs M k c xs) (ha : Can ps) (hb : Can qs) (hla : ps.length ≤ M) (hlb : qs.length ≤ M) (hM : M = ps.length ∨ M = qs.length)
    (hgo : k < M ∨ 0 < c) (s : Int) (hs : s = c + ps.getD k 0 + qs.getD k 0) : AddInv ps qs M (k + 1) (s / 1000000) (xs ++ [s % 1000000]) := by
  obtain ⟨a0, a1⟩ := dig_at ha.1 k
  obtain ⟨b0, b1⟩ := dig_at hb.1 k
  have c0 := h.c0
  have c1 := h.c1
  have hbey : M ≤ k → ps.getD k 0 = 0 ∧ qs.getD k 0 = 0 := fun hk => by
    constructor <;> (rw [List.getD_eq_getElem?_getD, List.getElem?_eq_none (by omega)]; simp)
  refine ⟨by simp [h.len], h.dig.snoc (by omega) (by omega), by omega, by omega, ?_, ?_, ?_⟩
  · rw [val_snoc, h.len, Pw, carry_step (val xs) (val xs) (Pw k) s rfl, hs, val_take_succ ps k, val_take_succ qs k, Int.mul_add, Int.mul_add]
    have := h.sum
    omega
  · by_cases hk : k + 1 < M
    · exact .inl hk
    · by_cases hc : 0 < s / 1000000
      · exact .inr (.inl hc)
      · refine .inr (.inr (.inr ?_))
        rw [last_snoc]
        have hpos : 0 < s := by
          by_cases hkM : k < M
          · rcases hM with hM | hM
            · have := ha.2
              rw [show ps.length - 1 = k by omega] at this
              omega
            · have := hb.2
              rw [show qs.length - 1 = k by omega] at this
              omega
          · rcases hgo with hg | hg
            · omega
            · omega
        omega
  · by_cases hkM : k < M
    · left; omega
    · have := hbey (by omega)
      rcases h.top with ht | ⟨ht, hc⟩
      · right; exact ⟨by omega, by omega⟩
      · omega
theorem AddInv.done {ps qs : List Int} {M k : Nat} {xs : List Int} (h : AddInv ps qs M k 0 xs) (hla : ps.length ≤ M) (hlb : qs.length ≤ M) (hk : M ≤ k) :
    Can xs ∧ val xs = val ps + val qs ∧ xs.length ≤ M + 1 := by
  have hs := h.sum
  rw [List.take_of_length_le (by omega), List.take_of_length_le (by omega)] at hs
  refine ⟨⟨h.dig, ?_⟩, by simpa using hs, by have := h.len; rcases h.top with ht | ⟨ht, _⟩ <;> omega⟩
  rcases h.last with hl | hl | hl | hl
  · omega
  · omega
  · left; rw [h.len]; exact hl
  · exact .inr hl

set_option maxHeartbeats 4000000 in
theorem specAdd (u v : Value) (ps qs : List Int) (w : World) (hu : Rd w u ps) (hv : Rd w v qs) (ha : Can ps) (hb : Can qs) (hla : ps.length ≤ 1000) (hlb : qs.length ≤ 1000) :
    Calls Try.prog 34 #[u, v] w fun e w' => ∃ r, e = .returned r ∧ Ow w' w.heap.size w'.heap.size r (canOf (val ps + val qs)) ∧ Below w.heap.size w w' := by
  obtain ⟨hl, hf, a, c, rfl, hcap, hr⟩ := hu
  obtain ⟨hl', hf', a', c', rfl, hcap', hr'⟩ := hv
  obtain ⟨M, hM⟩ : ∃ M, M = max ps.length qs.length := ⟨_, rfl⟩
  have m1 : ps.length ≤ M := by omega
  have m2 : qs.length ≤ M := by omega
  have m4 : M ≤ 1000 := by omega
  have HM : Hid (M = ps.length ∨ M = qs.length) := Lib.hid (by omega)
  have HMM := Lib.hid hM
  have HA := Lib.hid ha
  have HB := Lib.hid hb
  have HR := Lib.hid hr
  have HR' := Lib.hid hr'
  clear ha hb hr hr' hM
  obtain ⟨i0, hi, hz0, hz1, hz2⟩ := info_parts infoE
  go_enter Try.func34, Try.ntmps34
  go_wp2
  go_loopw [5, 6, 7] (fun o q s wr => ∃ (k : Nat) (c : Int) (xs : List Int) (ov : Value), o = ov ∧ s = .int .i64 k ∧ q = .int .i64 c ∧ AddInv ps qs M k c xs ∧ wr.ownsRow w.heap.size 2 1 ov k (xs.map (Value.int .i64)) ∧ Below w.heap.size w wr)
    (fun _ _ s _ => M + 1 - (intOf s).toNat)
  case atStart => exact ⟨0, 0, [], _, rfl, rfl, rfl, AddInv.start ps qs M, World.ownsRow_made w #[] 0 (Nat.le_refl _) (by unfold maxLen; omega) (by simp), (Below.refl _ _).alloc (Nat.le_refl _) _⟩
  case round =>
    obtain ⟨k, c, xs, ov, hov, rfl, rfl, hinv, hown, hbel⟩ := hrel
    obtain rfl := hov.symm
    have hsz := hbel.size
    have c0 := hinv.c0
    have c1 := hinv.c1
    have hkM : k ≤ M + 1 := by rcases hinv.top with h | h <;> omega
    have HI := Lib.hid hinv
    have HW := Lib.hid hbel
    by_cases hgo : k < M ∨ 0 < c
    · have hkM' : k ≤ M := by
        rcases hinv.top with h | h
        · exact h
        · omega
      have HGO := Lib.hid hgo
      obtain ⟨x, hx⟩ : ∃ x, x = ps.getD k 0 := ⟨_, rfl⟩
      obtain ⟨y, hy⟩ : ∃ y, y = qs.getD k 0 := ⟨_, rfl⟩
      obtain ⟨x0, x1⟩ := dig_at HA.out.1 k
      obtain ⟨y0, y1⟩ := dig_at HB.out.1 k
      rw [← hx] at x0 x1
      rw [← hy] at y0 y1
      have HS := Lib.hid (hinv.step HA.out HB.out m1 m2 HM.out hgo (c + x + y) (by rw [hx, hy]))
      have fin : ∀ (s : Int) (W : World) (v' : Value) (w1 : World), s = c + x + y → W = wr.alloc (Obj.cells #[Value.int IntKind.i64 (s % 1000000)] 2) →
          w1.ownsRow w.heap.size 2 1 v' (k + 1) (xs.map (Value.int .i64) ++ [.int .i64 (s % 1000000)]) → W.grownBy w1 ov.ownBlock →
          (w1.ownsRow w.heap.size 2 1 v' (k + 1) ((xs ++ [(c + x + y) % 1000000]).map (Value.int .i64)) ∧ Below w.heap.size w w1) := by
        intro s W v' w1 hs hW h1 h2
        subst hs hW
        exact ⟨by simpa using h1, (HW.out.alloc hsz _).grown h2 (by simp; omega) (fun q hq => (hown.lt q hq).1)⟩
      have HF := Lib.hid fin
      clear hinv hbel hgo fin
      by_cases hka : k < ps.length
      · obtain ⟨b, o', rfl, hb, hcell⟩ := HR.out (by intro h0; rw [h0] at hka; simp at hka)
        by_cases hkb : k < qs.length
        · obtain ⟨b', o2, rfl, hb', hcell'⟩ := HR'.out (by intro h0; rw [h0] at hkb; simp at hkb)
          have hc : wr.cell? ⟨b, o' + k, none⟩ = some (.int .i64 x) := by rw [hx]; exact (HW.out.cell hb).trans (hcell k hka)
          have ia : (k : Int) < (ps.length : Int) := by omega
          have hc2 : wr.cell? ⟨b', o2 + k, none⟩ = some (.int .i64 y) := by rw [hy]; exact (HW.out.cell hb').trans (hcell' k hkb)
          have ib : (k : Int) < (qs.length : Int) := by omega
          clear hx hy hcell hcell'
          go_wp2_with (at_builtin; refine wpList_append_own _ rfl _ _ 24 rfl w.heap.size 2 i0 (.int .i64 0) 1 8 Try.underlying24 hi hz0 hz1 hz2 rfl (by decide) _ _ _ rfl (hown.alloc _) ⟨_, 0, none⟩ 1 1 [.int .i64 ((c + x + y) % 1000000)] rfl rfl ?ha1 ?ha2 ?ha3 ?ha4 ?ha5 ?_)
          case ha2 => first | exact one_cell _ | rfl
          case ha3 => unfold maxLen; omega
          case ha4 => omega
          case ha5 => first | omega | (simp; omega)
          intro v' w1 hown1 hgrow _
          have HQ := Lib.hid (HF.out _ _ v' w1 rfl rfl hown1 hgrow)
          clear hown1 hgrow hown
          go_wp2
          go_roundw
          case rel => exact ⟨k + 1, (c + x + y) / 1000000, xs ++ [(c + x + y) % 1000000], v', rfl, by go_num, rfl, HS.out, HQ.out.1, HQ.out.2⟩
          case measure => simp [intOf]; omega
        · have hc : wr.cell? ⟨b, o' + k, none⟩ = some (.int .i64 x) := by rw [hx]; exact (HW.out.cell hb).trans (hcell k hka)
          have ia : (k : Int) < (ps.length : Int) := by omega
          have ib : ¬ (k : Int) < (qs.length : Int) := by omega
          have HE : Hid (c + x = c + x + y) := Lib.hid (by have q0 := (show y = 0 by rw [hy, List.getD_eq_getElem?_getD, List.getElem?_eq_none (by omega)]; rfl); omega)
          clear hx hy hcell
          go_wp2_with (at_builtin; refine wpList_append_own _ rfl _ _ 24 rfl w.heap.size 2 i0 (.int .i64 0) 1 8 Try.underlying24 hi hz0 hz1 hz2 rfl (by decide) _ _ _ rfl (hown.alloc _) ⟨_, 0, none⟩ 1 1 [.int .i64 ((c + x) % 1000000)] rfl rfl ?hb1 ?hb2 ?hb3 ?hb4 ?hb5 ?_)
          case hb2 => first | exact one_cell _ | rfl
          case hb3 => unfold maxLen; omega
          case hb4 => omega
          case hb5 => first | omega | (simp; omega)
          intro v' w1 hown1 hgrow _
          have HQ := Lib.hid (HF.out _ _ v' w1 HE.out rfl hown1 hgrow)
          clear hown1 hgrow hown
          go_wp2
          go_roundw
          case rel => exact ⟨k + 1, (c + x + y) / 1000000, xs ++ [(c + x + y) % 1000000], v', rfl, by go_num, by rw [← HE.out], HS.out, HQ.out.1, HQ.out.2⟩
          case measure => simp [intOf]; omega
      · by_cases hkb : k < qs.length
        · obtain ⟨b', o2, rfl, hb', hcell'⟩ := HR'.out (by intro h0; rw [h0] at hkb; simp at hkb)
          have ia : ¬ (k : Int) < (ps.length : Int) := by omega
          have hc2 : wr.cell? ⟨b', o2 + k, none⟩ = some (.int .i64 y) := by rw [hy]; exact (HW.out.cell hb').trans (hcell' k hkb)
          have ib : (k : Int) < (qs.length : Int) := by omega
          have HE : Hid (c + y = c + x + y) := Lib.hid (by have q0 := (show x = 0 by rw [hx, List.getD_eq_getElem?_getD, List.getElem?_eq_none (by omega)]; rfl); omega)
          clear hx hy hcell'
          go_wp2_with (at_builtin; refine wpList_append_own _ rfl _ _ 24 rfl w.heap.size 2 i0 (.int .i64 0) 1 8 Try.underlying24 hi hz0 hz1 hz2 rfl (by decide) _ _ _ rfl (hown.alloc _) ⟨_, 0, none⟩ 1 1 [.int .i64 ((c + y) % 1000000)] rfl rfl ?hc1 ?hc2 ?hc3 ?hc4 ?hc5 ?_)
          case hc2 => first | exact one_cell _ | rfl
          case hc3 => unfold maxLen; omega
          case hc4 => omega
          case hc5 => first | omega | (simp; omega)
          intro v' w1 hown1 hgrow _
          have HQ := Lib.hid (HF.out _ _ v' w1 HE.out rfl hown1 hgrow)
          clear hown1 hgrow hown
          go_wp2
          go_roundw
          case rel => exact ⟨k + 1, (c + x + y) / 1000000, xs ++ [(c + x + y) % 1000000], v', rfl, by go_num, by rw [← HE.out], HS.out, HQ.out.1, HQ.out.2⟩
          case measure => simp [intOf]; omega
        · have ia : ¬ (k : Int) < (ps.length : Int) := by omega
          have ib : ¬ (k : Int) < (qs.length : Int) := by omega
          have HE : Hid (c = c + x + y) := Lib.hid (by have q0 := (show x = 0 by rw [hx, List.getD_eq_getElem?_getD, List.getElem?_eq_none (by omega)]; rfl); have q1 := (show y = 0 by rw [hy, List.getD_eq_getElem?_getD, List.getElem?_eq_none (by omega)]; rfl); omega)
          have ic : 0 < c := by
            rcases HGO.out with h | h
            · rcases HM.out with e | e <;> omega
            · exact h
          clear hx hy
          go_wp2_with (at_builtin; refine wpList_append_own _ rfl _ _ 24 rfl w.heap.size 2 i0 (.int .i64 0) 1 8 Try.underlying24 hi hz0 hz1 hz2 rfl (by decide) _ _ _ rfl (hown.alloc _) ⟨_, 0, none⟩ 1 1 [.int .i64 ((c) % 1000000)] rfl rfl ?hd1 ?hd2 ?hd3 ?hd4 ?hd5 ?_)
          case hd2 => first | exact one_cell _ | rfl
          case hd3 => unfold maxLen; omega
          case hd4 => omega
          case hd5 => first | omega | (simp; omega)
          intro v' w1 hown1 hgrow _
          have HQ := Lib.hid (HF.out _ _ v' w1 HE.out rfl hown1 hgrow)
          clear hown1 hgrow hown
          go_wp2
          go_roundw
          case rel => exact ⟨k + 1, (c + x + y) / 1000000, xs ++ [(c + x + y) % 1000000], v', rfl, by go_num, by rw [← HE.out], HS.out, HQ.out.1, HQ.out.2⟩
          case measure => simp [intOf]; omega
    · have hc0 : c = 0 := by omega
      subst hc0
      have hMk : M ≤ k := by omega
      obtain ⟨d1, d2, d3⟩ := hinv.done m1 m2 hMk
      have HC := Lib.hid (canOf_eq d1 d2)
      have HD1 := Lib.hid d1
      have HD3 : Hid (xs.length ≤ max ps.length qs.length + 1) := Lib.hid (by rw [← HMM.out]; exact d3)
      have HLen : Hid (xs.length = k) := Lib.hid hinv.len
      have ia : ¬ (k : Int) < (ps.length : Int) := by omega
      have ib : ¬ (k : Int) < (qs.length : Int) := by omega
      have HO := Lib.hid hown
      clear d1 d2 d3 hinv hbel hown hgo
      go_wp2
      go_ret
      refine ⟨_, rfl, ?_, HW.out⟩
      rw [HC.out]
      exact Ow.of_row (by rw [HLen.out]; exact HO.out) (by have := HD3.out; omega) HD1.out.1.fit hsz
end Go.Proofs.Ytcpipakpkmfhlaa.Ints
