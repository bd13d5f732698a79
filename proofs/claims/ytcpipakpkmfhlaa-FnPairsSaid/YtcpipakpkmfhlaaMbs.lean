/- The contract of the program's product of limbs and a small number. -/
import Derived.Test.YtcpipakpkmfhlaaCan
import Derived.Test.YtcpipakpkmfhlaaOwn
namespace Go.Proofs.Ytcpipakpkmfhlaa.Ints
open Go.RowKit
set_option linter.unusedVariables false

theorem can_of_ge {Y : List Int} (hd : Dig 1000000 Y) (h : 0 < Y.length → Pw (Y.length - 1) ≤ val Y) : Can Y := by
  refine ⟨hd, ?_⟩
  rcases Nat.eq_zero_or_pos Y.length with h0 | h0
  · exact .inl h0
  · right
    intro hz
    have e := val_take_succ Y (Y.length - 1)
    rw [List.take_of_length_le (by omega), hz, Int.mul_zero, Int.add_zero] at e
    have hlt := val_lt (dig_take hd (Y.length - 1))
    rw [List.length_take, Nat.min_eq_left (by omega)] at hlt
    have := h h0
    omega
structure SMI (ps : List Int) (b cy : Int) (k : Nat) (c : Int) (Y : List Int) : Prop where
  len : Y.length = k
  dig : Dig 1000000 Y
  c0 : 0 ≤ c
  c1 : c < 1000000
  sum : val Y + Pw k * c = val (ps.take k) * b + cy
theorem SMI.start (ps : List Int) (b cy : Int) (c0 : 0 ≤ cy) (c1 : cy < 1000000) : SMI ps b cy 0 cy [] :=
  ⟨rfl, fun i hi => by simp at hi, c0, c1, by simp [val, Pw]⟩
theorem small_mul {x b : Int} (x0 : 0 ≤ x) (x1 : x < 1000000) (b0 : 1 ≤ b) (b1 : b ≤ 1000000) : 0 ≤ x * b ∧ x * b ≤ 999999000000 := by
  have h1 : x * b ≤ 999999 * b := Int.mul_le_mul_of_nonneg_right (by omega) (by omega)
  have h2 : 0 ≤ x * b := Int.mul_nonneg x0 (by omega)
  omega
theorem SMI.step {ps : List Int} {b cy : Int} {k : Nat} {c : Int} {Y : List Int} (h : SMI ps b cy k c Y) (hp : Dig 1000000 ps) (hk : k < ps.length) (b0 : 1 ≤ b) (b1 : b ≤ 1000000) (s : Int) (hs : s = ps.getD k 0 * b + c) :
    SMI ps b cy (k + 1) (s / 1000000) (Y ++ [s % 1000000]) := by
  obtain ⟨d0, d1⟩ := hp k hk
  obtain ⟨m0, m1⟩ := small_mul d0 d1 b0 b1
  have c0 := h.c0
  have c1 := h.c1
  refine ⟨by simp [h.len], h.dig.snoc (by omega) (by omega), by omega, by omega, ?_⟩
  rw [val_snoc, h.len, Pw, carry_step (val Y) (val Y) (Pw k) s rfl, hs, val_take_succ, Int.mul_add, Int.add_mul, Int.mul_assoc]
  have := h.sum
  omega
theorem SMI.done {ps : List Int} {b cy : Int} {c : Int} {Y : List Int} (h : SMI ps b cy ps.length c Y) (hp : Can ps) (b0 : 1 ≤ b) (c0 : 0 ≤ cy) : canOf (val ps * b + cy) = if 0 < c then Y ++ [c] else Y := by
  have hs := h.sum
  rw [List.take_of_length_le (Nat.le_refl _)] at hs
  have h0 := h.c0
  have h1 := h.c1
  by_cases hc : 0 < c
  · rw [if_pos hc]
    refine canOf_eq ⟨h.dig.snoc h0 h1, .inr ?_⟩ (by rw [val_snoc, h.len]; exact hs)
    rw [last_snoc]; omega
  · rw [if_neg hc]
    have hz : c = 0 := by omega
    rw [hz, Int.mul_zero, Int.add_zero] at hs
    refine canOf_eq (can_of_ge h.dig fun hpos => ?_) hs
    rw [h.len] at hpos ⊢
    have hg := can_ge hp hpos
    have hb : val ps * 1 ≤ val ps * b := Int.mul_le_mul_of_nonneg_left b0 (val_nonneg hp.1)
    omega
theorem set_end (Y : List Int) (n k : Nat) (x : Int) (hY : Y.length = k) (h : k < n) :
    ((Y ++ List.replicate (n - k) 0).map (Value.int .i64)).set k (.int .i64 x) = ((Y ++ [x]) ++ List.replicate (n - (k + 1)) 0).map (Value.int .i64) := by
  obtain ⟨m, hm⟩ : ∃ m, n - k = m + 1 := ⟨n - k - 1, by omega⟩
  rw [hm, show n - (k + 1) = m by omega, List.replicate_succ, List.map_append, List.set_append_right _ _ (by simp [hY]), List.append_assoc, List.map_append]
  simp [hY]
set_option maxHeartbeats 2000000 in
theorem implMbs (u : Value) (ps : List Int) (b cy : Int) (w : World) (hu : Rd w u ps) (hp : Can ps) (hl0 : ps.length ≤ 1000) (b0 : 1 ≤ b) (b1 : b ≤ 1000000) (c0 : 0 ≤ cy) (c1 : cy < 1000000) :
    Calls Try.prog 41 #[u, .int .i64 b, .int .i64 cy] w fun e w' => ∃ r, e = .returned r ∧ Ow w' w.heap.size w'.heap.size r (canOf (val ps * b + cy)) ∧ Below w.heap.size w w' := by
  obtain ⟨hl, hf, a, c, rfl, hcap, hr⟩ := hu
  obtain ⟨i0, hi, hz0, hz1, hz2⟩ := info_parts infoE
  have HR := Lib.hid hr
  have HP := Lib.hid hp
  clear hr hp
  go_enter Try.func41, Try.ntmps41
  go_wp2_with (at_make; refine wpList_make_cap rfl _ _ rfl ps.length (ps.length + 1) _ _ _ _ rfl rfl rfl ?m1 (by omega) (by omega) ?_)
  case m1 => first | omega | rfl | simp
  intro w0 hown0 hgrow0
  have HO : Hid (w0.ownsRow w.heap.size 2 1 (.slice (some ⟨w.heap.size, 0, none⟩) ps.length (ps.length + 1)) ps.length ((([] : List Int) ++ List.replicate (ps.length - 0) 0).map (Value.int .i64))) := Lib.hid (by simpa using hown0)
  have HB0 := Lib.hid ((Below.refl w.heap.size w).grown hgrow0 (Nat.le_refl _) (fun k h => by cases h))
  have HS0 := Lib.hid (HO.out.lt _ rfl).2
  clear hown0 hgrow0
  go_wp2
  go_loopw [2, 19] (fun q s wr => ∃ (k : Nat) (c : Int) (Y : List Int), k ≤ ps.length ∧ s = .int .i64 k ∧ q = .int .i64 c ∧ SMI ps b cy k c Y ∧ w.heap.size < wr.heap.size ∧
      wr.ownsRow w.heap.size 2 1 (.slice (some ⟨w.heap.size, 0, none⟩) ps.length (ps.length + 1)) ps.length ((Y ++ List.replicate (ps.length - k) 0).map (Value.int .i64)) ∧ Below w.heap.size w wr) (fun _ s _ => ps.length - (intOf s).toNat)
  case atStart => exact ⟨0, cy, [], Nat.zero_le _, rfl, rfl, SMI.start ps b cy c0 c1, HS0.out, HO.out, HB0.out⟩
  case round =>
    obtain ⟨k, q, Y, hk, rfl, rfl, hinv, hsz, hown, hbel⟩ := hrel
    have HI := Lib.hid hinv
    have HW := Lib.hid hbel
    have q0 := hinv.c0
    have q1 := hinv.c1
    have hY := hinv.len
    by_cases hlt : k < ps.length
    · obtain ⟨bb, o, rfl, hb, hcell⟩ := HR.out (by intro h0; rw [h0] at hlt; simp at hlt)
      obtain ⟨x, hx⟩ : ∃ x, x = ps.getD k 0 := ⟨_, rfl⟩
      have hc : wr.cell? ⟨bb, o + k, none⟩ = some (.int .i64 x) := by rw [hx]; exact (hbel.cell hb).trans (hcell k hlt)
      have hc2 : wr.cell? ⟨w.heap.size, k, none⟩ = some (((Y ++ List.replicate (ps.length - k) 0).map (Value.int .i64)).getD k undef) := by
        rw [hown.cellAt k (by omega), List.getD_eq_getElem?_getD]
        rw [List.getElem?_eq_getElem (by simp; omega)]; rfl
      obtain ⟨u0, hu0⟩ : ∃ u, u = ((Y ++ List.replicate (ps.length - k) 0).map (Value.int .i64)).getD k undef := ⟨_, rfl⟩
      rw [← hu0] at hc2
      have hfz := hown.frozenAt k
      obtain ⟨x0, x1⟩ := HP.out.1 k hlt
      rw [← hx] at x0 x1
      obtain ⟨m0, m1⟩ := small_mul x0 x1 b0 b1
      obtain ⟨p, hpm⟩ : ∃ p, p = x * b := ⟨_, rfl⟩
      rw [← hpm] at m0 m1
      have HN := Lib.hid (hinv.step HP.out.1 hlt b0 b1 (p + q) (by rw [hpm, hx]))
      have hst := hown.stored k (.int .i64 ((p + q) % 1000000))
      rw [set_end Y ps.length k _ hY hlt] at hst
      have HS := Lib.hid hst
      have HM := Lib.hid hpm
      have i0' : (0 : Int) ≤ (k : Int) := by omega
      have i1 : (k : Int) < (ps.length : Int) := by omega
      have hpb : x * b = p := hpm.symm
      clear hst hown hbel hcell hu0 HO hinv hx hpm
      go_wp2
      go_roundw
      case rel => exact ⟨k + 1, (p + q) / 1000000, Y ++ [(p + q) % 1000000], by omega, by go_num, by go_num, HN.out, by simpa using hsz, HS.out.1, HW.out.grown HS.out.2 (Nat.le_of_lt hsz) (fun q hq => by cases hq; exact Nat.le_refl _)⟩
      case measure => simp [intOf]; omega
    · obtain rfl : k = ps.length := by omega
      have HD := Lib.hid (hinv.done HP.out b0 c0)
      have hown' : wr.ownsRow w.heap.size 2 1 (.slice (some ⟨w.heap.size, 0, none⟩) ps.length (ps.length + 1)) ps.length (Y.map (Value.int .i64)) := by simpa using hown
      have HOV : Hid (Ow wr w.heap.size wr.heap.size (.slice (some ⟨w.heap.size, 0, none⟩) ps.length (ps.length + 1)) Y) := Lib.hid ⟨by omega, hinv.dig.fit, by rw [hY]; exact hown', fun k hk => (hown'.lt k hk).2, Nat.le_refl _, by omega⟩
      clear hown hinv hbel
      by_cases hc : 0 < q
      · rw [if_pos hc] at HD
        have hrow := HOV.out.row.alloc (Obj.cells #[Value.int IntKind.i64 q] 2)
        go_wp2_with (at_builtin; refine wpList_append_own _ rfl _ _ 24 rfl w.heap.size 2 i0 (.int .i64 0) 1 8 Try.underlying24 hi hz0 hz1 hz2 rfl (by decide) _ _ _ rfl hrow ⟨_, 0, none⟩ 1 1 [.int .i64 q] rfl rfl ?c1 ?c2 ?c3 ?c4 ?c5 ?_)
        case c1 => exact cellNew _ _ _
        case c2 => first | exact oneCell _ | rfl
        case c3 => unfold maxLen; omega
        case c4 => omega
        case c5 => first | omega | (simp; omega)
        intro v' w1 hown1 hgrow _
        obtain ⟨ho, hb⟩ := HOV.out.snoc (by omega) (by omega) (by rw [hY]; exact hown1) hgrow
        have HO2 := Lib.hid ho
        have HB2 := Lib.hid (HW.out.trans hb)
        clear hown1 hgrow ho hb hrow
        go_wp2
        go_ret
        exact ⟨_, rfl, by rw [HD.out]; exact HO2.out, HB2.out⟩
      · rw [if_neg hc] at HD
        go_wp2
        go_ret
        exact ⟨_, rfl, by rw [HD.out]; exact HOV.out, HW.out⟩
end Go.Proofs.Ytcpipakpkmfhlaa.Ints
