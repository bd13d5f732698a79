/- takeMultiple at whatever part: a quotient and a rest, as asked where the part is small enough. -/
import Derived.Test.YtcpipakpkmfhlaaTake
import Derived.Test.YtcpipakpkmfhlaaTimA
namespace Go.Proofs.Ytcpipakpkmfhlaa.Ints
open Go.RowKit
set_option linter.unusedVariables false

structure TakeP (Z T : List Int) (o n g K : Nat) (w : World) (w' : World) (Y : List Int) (q : Int) : Prop where
  len : Y.length = Z.length
  out : ∀ j, j < o ∨ o + n ≤ j → Y.getD j 0 = Z.getD j 0
  dig : ∀ j, j < n → 0 ≤ Y.getD (o + j) 0 ∧ Y.getD (o + j) 0 < 1000000
  q0 : -1 ≤ q
  q1 : q ≤ 1000000000000
  quo : sg Z o n < val T * 1000000 → q = sg Z o n / val T
  rest : sg Z o n < val T * 1000000 → sg Y o n = sg Z o n % val T
  blk : Blk w' g K Y
  grown : w.grownBy w' (some g)
theorem TakeP.post {Z T : List Int} {o n g K : Nat} {w w' : World} {Y : List Int} {q : Int} (h : TakeP Z T o n g K w w' Y q) (hlt : sg Z o n < val T * 1000000) : TakePost Z T o n g K w w' Y :=
  ⟨h.len, h.out, h.dig, h.rest hlt, h.blk, h.grown⟩
theorem TakeP.digs {Z T : List Int} {o n g K : Nat} {w w' : World} {Y : List Int} {q : Int} (h : TakeP Z T o n g K w w' Y q) (hz : Dig 1000000 Z) : Dig 1000000 Y := fun j hj => by
  by_cases h1 : j < o ∨ o + n ≤ j
  · rw [h.out j h1]; exact hz j (by rw [← h.len]; exact hj)
  · have := h.dig (j - o) (by omega)
    rwa [show o + (j - o) = j by omega] at this
set_option maxRecDepth 100000 in
set_option maxHeartbeats 4000000 in
theorem takeMulA (g K o n cp : Nat) (v : Value) (Z T : List Int) (w : World) (hB : Blk w g K Z) (hv : Rd w v T) (hne : ∀ a l c, v = .slice (some a) l c → a.block ≠ g)
    (hn : o + n ≤ Z.length) (hn2 : n ≤ 100000) (hZ : ∀ j, j < n → 0 ≤ Z.getD (o + j) 0 ∧ Z.getD (o + j) 0 < 1000000) (hT : Dig 1000000 T) (hTn : n = T.length + 1) (hT2 : 2 ≤ T.length)
    (htop : 0 < T.getD (T.length - 1) 0) :
    Calls Try.prog 65 #[.slice (some ⟨g, o, none⟩) n cp, v] w fun e w' => ∃ q Y, e = .returned (.int .i64 q) ∧ TakeP Z T o n g K w w' Y q := by
  obtain ⟨m, hm⟩ : ∃ m, T.length = m + 2 := ⟨T.length - 2, by omega⟩
  obtain rfl : n = m + 3 := by omega
  have hA := sg_top3 Z o m
  have hBt : val T = (T.getD (m + 1) 0 * 1000000 + T.getD m 0) * Pw m + sg T 0 m := by
    rw [← sg_all T (m + 2) (by omega), sg_top2, Nat.zero_add, Nat.zero_add]
  have tm1 := hT (m + 1) (by omega)
  have tm0 := hT m (by omega)
  rw [show T.length - 1 = m + 1 by omega] at htop
  have z2 := hZ (m + 2) (by omega)
  have z1 := hZ (m + 1) (by omega)
  have z0 := hZ m (by omega)
  have sB0 : 0 ≤ sg T 0 m := sg_nonneg (fun j hj => by rw [Nat.zero_add]; exact (hT j (by omega)).1)
  have sB1 : sg T 0 m < Pw m := sg_lt m (fun j hj => by rw [Nat.zero_add]; exact hT j (by omega))
  have sA0 : 0 ≤ sg Z o m := sg_nonneg (fun j hj => (hZ j (by omega)).1)
  have sA1 : sg Z o m < Pw m := sg_lt m (fun j hj => hZ j (by omega))
  have pm := Pw_pos m
  obtain ⟨x2, hx2⟩ : ∃ x, x = Z.getD (o + (m + 2)) 0 := ⟨_, rfl⟩
  obtain ⟨x1, hx1⟩ : ∃ x, x = Z.getD (o + (m + 1)) 0 := ⟨_, rfl⟩
  obtain ⟨x0, hx0⟩ : ∃ x, x = Z.getD (o + m) 0 := ⟨_, rfl⟩
  obtain ⟨y1, hy1⟩ : ∃ x, x = T.getD (m + 1) 0 := ⟨_, rfl⟩
  obtain ⟨y0, hy0⟩ : ∃ x, x = T.getD m 0 := ⟨_, rfl⟩
  have c2 : w.cell? ⟨g, o + (m + 2), none⟩ = some (.int .i64 x2) := by rw [hx2]; exact hB.cell _ (by omega)
  have c1 : w.cell? ⟨g, o + (m + 1), none⟩ = some (.int .i64 x1) := by rw [hx1]; exact hB.cell _ (by omega)
  have c0 : w.cell? ⟨g, o + m, none⟩ = some (.int .i64 x0) := by rw [hx0]; exact hB.cell _ (by omega)
  rw [← hx2, ← hx1, ← hx0] at hA
  rw [← hy1, ← hy0] at hBt
  rw [← hx2] at z2
  rw [← hx1] at z1
  rw [← hx0] at z0
  rw [← hy1] at tm1 htop
  rw [← hy0] at tm0
  obtain ⟨E, hE⟩ : ∃ E, E = ((x2 * 1000000 + x1) * 1000000 + x0) / (y1 * 1000000 + y0) := ⟨_, rfl⟩
  have hBpos : 0 < val T := by
    have := Int.mul_pos (show 0 < y1 * 1000000 + y0 by omega) pm
    omega
  have hAnn : 0 ≤ sg Z o (m + 3) := sg_nonneg (fun j hj => (hZ j hj).1)
  have hBP : val T < Pw (m + 3) := by
    have := val_lt hT
    have h2 : Pw T.length ≤ Pw (m + 3) := Pw_mono (by omega)
    omega
  have e1 : sg Z o (m + 3) / val T ≤ E := by
    rw [hE]
    exact est_le pm (by omega) hA sA1 hBt sB0 (Int.ediv_nonneg hAnn (by omega)) (Int.ediv_mul_le _ (by omega))
  have e2 : sg Z o (m + 3) < val T * 1000000 → E ≤ sg Z o (m + 3) / val T + 1 := fun hlt => by
    have := est_ge pm (show (0 : Int) < 1000000 by omega) (by omega) (by omega) hA sA0 hBt sB1 hlt
    rw [← hE] at this
    have := Int.le_ediv_of_mul_le hBpos this
    omega
  have e3 : 0 ≤ E ∧ E ≤ 1000000000000 := by
    constructor
    · rw [hE]; exact Int.ediv_nonneg (by omega) (by omega)
    · have : E < 1000000000000 + 1 := by
        rw [hE]
        apply Int.ediv_lt_of_lt_mul (by omega)
        have h6 : 1000000 * 1000000000001 ≤ (y1 * 1000000 + y0) * 1000000000001 := Int.mul_le_mul_of_nonneg_right (by omega) (by omega)
        have h7 : (1000000000000 + 1 : Int) * (y1 * 1000000 + y0) = (y1 * 1000000 + y0) * 1000000000001 := by rw [Int.mul_comm]; rfl
        omega
      omega
  obtain ⟨e30, e31⟩ := e3
  have HREST := Lib.hid (fun (hlt : sg Z o (m + 3) < val T * 1000000) c s => take_rest (c := c) (s := s) (Pw_pos (m + 3)) hBpos hBP hAnn e1 (e2 hlt))
  have htl := hv.len
  obtain ⟨_, _, a, cc, rfl, hcap, hr⟩ := hv
  obtain ⟨b', p, rfl, hb', hcell⟩ := hr (by intro h0; rw [h0] at hm; simp at hm)
  have d1 : w.cell? ⟨b', p + (m + 1), none⟩ = some (.int .i64 y1) := by rw [hy1]; exact hcell (m + 1) (by omega)
  have d0 : w.cell? ⟨b', p + m, none⟩ = some (.int .i64 y0) := by rw [hy0]; exact hcell m (by omega)
  have HV : Hid (Rd w (.slice (some ⟨b', p, none⟩) T.length cc) T) := Lib.hid ⟨by omega, hT.fit, _, _, rfl, by omega, fun _ => ⟨b', p, rfl, hb', hcell⟩⟩
  have HNE := Lib.hid (hne _ _ _ rfl)
  have HB := Lib.hid hB
  have HZ := Lib.hid hZ
  have HTD := Lib.hid hT
  obtain ⟨L, hL⟩ : ∃ L, L = T.length := ⟨_, rfl⟩
  obtain ⟨N, hN⟩ : ∃ N, N = m + 3 := ⟨_, rfl⟩
  have HLT := Lib.hid hL
  have HVL : Hid (Rd w (.slice (some ⟨b', p, none⟩) L cc) T) := Lib.hid (by rw [hL]; exact HV.out)
  have HNT := Lib.hid hN
  have hLm : L = m + 2 := by omega
  have n1 : N ≤ 100000 := by omega
  have n2 : T.length ≤ N := by omega
  have c2' : w.cell? ⟨g, o + L, none⟩ = some (.int .i64 x2) := by rw [hLm]; exact c2
  rw [← hL, ← hN]
  have i1 : IntKind.i64.wrap ((L : Int) - 1) = (L : Int) - 1 := by rw [IntKind.wrap_i64]; omega
  have i2 : (0 : Int) ≤ (L : Int) - 1 := by omega
  have i3 : ((L : Int) - 1).toNat = m + 1 := by omega
  have i4 : IntKind.i64.wrap ((L : Int) - 2) = (L : Int) - 2 := by rw [IntKind.wrap_i64]; omega
  have i5 : (0 : Int) ≤ (L : Int) - 2 := by omega
  have i6 : ((L : Int) - 2).toNat = m := by omega
  have i7 : (0 : Int) ≤ (L : Int) := by omega
  have i8 : (L : Int) < (N : Int) := by omega
  have i9 : (L : Int) - 1 < (N : Int) := by omega
  have i10 : (L : Int) - 2 < (N : Int) := by omega
  have i11 : (L : Int) - 1 < (L : Int) := by omega
  have i12 : (L : Int) - 2 < (L : Int) := by omega
  have j1 : IntKind.i64.wrap (x2 * 1000000) = x2 * 1000000 := by rw [IntKind.wrap_i64]; omega
  have j2 : IntKind.i64.wrap (x2 * 1000000 + x1) = x2 * 1000000 + x1 := by rw [IntKind.wrap_i64]; omega
  have j3 : IntKind.i64.wrap ((x2 * 1000000 + x1) * 1000000) = (x2 * 1000000 + x1) * 1000000 := by rw [IntKind.wrap_i64]; omega
  have j4 : IntKind.i64.wrap ((x2 * 1000000 + x1) * 1000000 + x0) = (x2 * 1000000 + x1) * 1000000 + x0 := by rw [IntKind.wrap_i64]; omega
  have k1 : IntKind.i64.wrap (y1 * 1000000) = y1 * 1000000 := by rw [IntKind.wrap_i64]; omega
  have k2 : IntKind.i64.wrap (y1 * 1000000 + y0) = y1 * 1000000 + y0 := by rw [IntKind.wrap_i64]; omega
  have q1 : Int.tdiv ((x2 * 1000000 + x1) * 1000000 + x0) (y1 * 1000000 + y0) = E := by rw [hE, Int.tdiv_eq_ediv_of_nonneg (by omega)]
  have q2 : IntKind.i64.wrap E = E := by rw [IntKind.wrap_i64]; omega
  have q3 : (y1 * 1000000 + y0 == 0) = false := by simp; omega
  have q4 : IntKind.i64.wrap (-E) = -E := by rw [IntKind.wrap_i64]; omega
  have i1x := Lib.hid i1
  have k2x := Lib.hid k2
  have i4x := Lib.hid i4
  clear hr hcell hne hT hZ hx2 hx1 hx0 hy1 hy0 hB hA hBt e1 e2 hBpos hBP hAnn hLm hL hN hm tm1 tm0 z2 z1 z0 sA0 sA1 sB0 sB1 pm htl hcap c2 htop hE hT2 hn2 hTn
  go_enter Try.func65, Try.ntmps65
  go_wp2
  go_quiet (fail)
  clear c2' c1 c0 i7 i8 i9 i10 j1 j2 j3 j4
  go_wp2
  obtain ⟨H, hH⟩ : ∃ H, H = (x2 * 1000000 + x1) * 1000000 + x0 := ⟨_, rfl⟩
  rw [← hH] at q1 ⊢
  clear hH
  obtain ⟨D, hDD⟩ : ∃ D, D = y1 * 1000000 + y0 := ⟨_, rfl⟩
  rw [← hDD] at q1 q3 k2x
  have k2' : IntKind.i64.wrap (y1 * 1000000 + y0) = D := by rw [← hDD]; exact k2x.out
  have q5 : ¬ D = 0 := by simpa using q3
  clear hDD k2
  obtain ⟨u, hu⟩ : ∃ u : Int, u = (L : Int) - 1 := ⟨_, rfl⟩
  obtain ⟨t, ht⟩ : ∃ t : Int, t = (L : Int) - 2 := ⟨_, rfl⟩
  have i13 : u < (L : Int) := by omega
  have i14 : t < (L : Int) := by omega
  rw [← hu] at i1 i2 i3
  rw [← ht] at i4 i5 i6
  have i1' : IntKind.i64.wrap ((L : Int) - 1) = u := by rw [hu]; exact i1x.out
  have i4' : IntKind.i64.wrap ((L : Int) - 2) = t := by rw [ht]; exact i4x.out
  clear i1 i4 i11 i12 hu ht
  go_quiet (fail)
  clear d1 d0 i1' i4' i2 i3 i5 i6 i13 i14 k1 k2' q1 q3 q5
  go_wp2_with fail
  refine (addTimesW g K o N cp _ Z T (-E) _ (Blk.drewN HB.out _) (HVL.out.below (below_drewN (Below.refl w.heap.size w) _) (Nat.le_refl _)) (fun _ a l c h => by cases h; exact HNE.out) (by have := HNT.out; omega) n1 (fun j hj => HZ.out j (by have := HNT.out; omega)) HTD.out n2 (by omega) (by omega)).mono ?_
  rintro e w1 ⟨c, Y, rfl, hti, hblk, hgr⟩
  have hs := hti.sum
  rw [sg_all T N n2] at hs
  have hc := hti.c0
  have hNm := HNT.out
  have s0 : 0 ≤ sg Y o N := sg_nonneg (fun j hj => (hti.dig j hj).1)
  have s1 : sg Y o N < Pw N := sg_lt N hti.dig
  have hr := fun hlt => HREST.out hlt c (sg Y o N) s0 (by rw [← hNm]; exact s1) (by rw [← hNm]; exact hs)
  by_cases hc0 : c < 0
  · have hall := fun hlt => ((hr hlt).2 hc0).2
    have HQ : Hid (sg Z o N < val T * 1000000 → E - 1 = sg Z o N / val T) := Lib.hid (fun hlt => by rw [hNm] at hlt ⊢; have := ((hr hlt).2 hc0).1; omega)
    have HALL := Lib.hid hall
    have HTI := Lib.hid hti
    have HBK := Lib.hid hblk
    have HGR : Hid (w.grownBy w1 (some g)) := Lib.hid (grown_drewN hgr)
    have HRD2 : Hid (Rd w1 (.slice (some ⟨b', p, none⟩) L cc) T) := Lib.hid (by
      obtain ⟨l1, l2, a1, c1, he, l3, hr2⟩ := HVL.out
      refine ⟨l1, l2, a1, c1, he, l3, fun hne => ?_⟩
      obtain ⟨b2, o2, ha, hb2, hcell⟩ := hr2 hne
      simp only [Value.slice.injEq] at he
      rw [ha] at he
      obtain ⟨he, _, _⟩ := he
      simp only [Option.some.injEq, Addr.mk.injEq] at he
      obtain ⟨rfl, rfl, _⟩ := he
      refine ⟨b', p, ha, by have := HGR.out.size; omega, fun i hi => ?_⟩
      have := HGR.out.block b' hb' (fun e => HNE.out (by cases e; rfl))
      rw [World.cell?_of_block (a := ⟨b', p + i, none⟩) this]
      exact hcell i hi)
    have q6 : IntKind.i64.wrap (E - 1) = E - 1 := by rw [IntKind.wrap_i64]; omega
    have hd : decide (c < 0) = true := decide_eq_true hc0
    clear hs hr hall hti hblk hgr s0 s1 hNm q4
    go_wp2_with fail
    refine (addTimesW g K o N cp _ Y T 1 _ HBK.out HRD2.out (fun _ a l c h => by cases h; exact HNE.out) (by have := HNT.out; rw [HTI.out.len]; omega) n1 (fun j hj => HTI.out.dig j hj) HTD.out n2 (by omega) (by omega)).mono ?_
    rintro e w2 ⟨c2, Y2, rfl, hti2, hblk2, hgr2⟩
    have hs2 := hti2.sum
    rw [sg_all T N n2] at hs2
    have hNm := HNT.out
    have HPOST : Hid (TakeP Z T o N g K w w2 Y2 (E - 1)) := Lib.hid ⟨hti2.len.trans HTI.out.len, fun j hj => (hti2.out j hj).trans (HTI.out.out j hj), hti2.dig, by omega, by omega, HQ.out, fun hlt => by
      have := HALL.out (by rw [← hNm]; exact hlt) c2 (sg Y2 o N) (sg_nonneg (fun j hj => (hti2.dig j hj).1)) (by rw [← hNm]; exact sg_lt N hti2.dig) (by rw [← hNm]; exact hs2)
      rw [hNm] at this ⊢; exact this, hblk2, grown_two HGR.out hgr2⟩
    clear hs2 hNm hti2 hblk2 hgr2
    go_wp2
    go_ret
    exact ⟨_, Y2, rfl, HPOST.out⟩
  · have HPOST : Hid (TakeP Z T o N g K w w1 Y E) := Lib.hid ⟨hti.len, hti.out, hti.dig, by omega, by omega, fun hlt => by rw [hNm] at hlt ⊢; exact ((hr hlt).1 (by omega)).1, fun hlt => by rw [hNm] at hlt; have h9 := ((hr hlt).1 (by omega)).2; rw [hNm] at h9 ⊢; exact h9, hblk, grown_drewN hgr⟩
    have hd : decide (c < 0) = false := decide_eq_false hc0
    clear hs hr hti hblk hgr s0 s1 hNm q4
    go_wp2
    go_ret
    exact ⟨_, Y, rfl, HPOST.out⟩
end Go.Proofs.Ytcpipakpkmfhlaa.Ints
