/- takeMultiple: a part reduced to its rest, with the quotient. -/
import Derived.Test.YtcpipakpkmfhlaaEst
import Derived.Test.YtcpipakpkmfhlaaTimes
import Derived.Test.YtcpipakpkmfhlaaMulV
import Derived.Test.YtcpipakpkmfhlaaMul
import Derived.Deep.QuietTactic
import Derived.BigQuiet
namespace Go.Proofs.Ytcpipakpkmfhlaa.Ints
open Go.RowKit
set_option linter.unusedVariables false

theorem sg_lt {Y : List Int} {o : Nat} : ∀ n, (∀ j, j < n → 0 ≤ Y.getD (o + j) 0 ∧ Y.getD (o + j) 0 < 1000000) → sg Y o n < Pw n := by
  intro n
  induction n with
  | zero => intro _; simp [sg, Pw]
  | succ n ih =>
    intro h
    have h1 := ih (fun j hj => h j (by omega))
    have h2 := h n (by omega)
    have h3 : Pw n * Y.getD (o + n) 0 ≤ Pw n * 999999 := Int.mul_le_mul_of_nonneg_left (by omega) (Int.le_of_lt (Pw_pos n))
    rw [sg, Pw]
    omega
/-- The quotient and the rest, out of an estimate that is right or greater by one. -/
theorem take_rest {P A B E c s : Int} (hP : 0 < P) (hB : 0 < B) (hBP : B < P) (hA : 0 ≤ A) (h1 : A / B ≤ E) (h2 : E ≤ A / B + 1) (s0 : 0 ≤ s) (s1 : s < P) (hs : s + P * c = A + (-E) * B) :
    (¬ c < 0 → E = A / B ∧ s = A % B) ∧ (c < 0 → E = A / B + 1 ∧ ∀ c2 s2 : Int, 0 ≤ s2 → s2 < P → s2 + P * c2 = s + 1 * B → s2 = A % B) := by
  have r0 := Int.emod_nonneg A (show B ≠ 0 by omega)
  have r1 := Int.emod_lt_of_pos A hB
  have hd := Int.emod_add_mul_ediv A B
  obtain ⟨q, hq⟩ : ∃ q, q = A / B := ⟨_, rfl⟩
  obtain ⟨R, hR⟩ : ∃ R, R = A % B := ⟨_, rfl⟩
  rw [← hq] at h1 h2 hd ⊢
  rw [← hR] at r0 r1 hd ⊢
  have hE : E = q ∨ E = q + 1 := by omega
  have small : ∀ x : Int, x ≤ -1 → P * x ≤ -P := fun x hx => by
    have := Int.mul_le_mul_of_nonneg_left hx (Int.le_of_lt hP)
    omega
  have big : ∀ x : Int, 1 ≤ x → P ≤ P * x := fun x hx => by
    have := Int.mul_le_mul_of_nonneg_left hx (Int.le_of_lt hP)
    omega
  rcases hE with hE | hE
  · have e : A + (-E) * B = R := by rw [hE, Int.neg_mul, Int.mul_comm q B]; omega
    rw [e] at hs
    refine ⟨fun hc => ?_, fun hc => ?_⟩
    · by_cases h : c = 0
      · subst h; exact ⟨hE, by omega⟩
      · have := big c (by omega); omega
    · have := small c (by omega); omega
  · have e : A + (-E) * B = R - B := by rw [hE, Int.neg_mul, Int.add_mul, Int.one_mul, Int.mul_comm q B]; omega
    rw [e] at hs
    refine ⟨fun hc => ?_, fun hc => ⟨hE, fun c2 s2 t0 t1 ht => ?_⟩⟩
    · have h0 : 0 ≤ P * c := Int.mul_nonneg (Int.le_of_lt hP) (by omega)
      omega
    · have e2 : s2 + P * (c2 + c) = R := by rw [Int.mul_add]; omega
      by_cases h : c2 + c = 0
      · rw [h] at e2; omega
      · by_cases h' : 1 ≤ c2 + c
        · have := big _ h'; omega
        · have := small (c2 + c) (by omega); omega
theorem sg_top3 (Z : List Int) (o m : Nat) : sg Z o (m + 3) = ((Z.getD (o + (m + 2)) 0 * 1000000 + Z.getD (o + (m + 1)) 0) * 1000000 + Z.getD (o + m) 0) * Pw m + sg Z o m := by
  have e : ∀ a b c P s : Int, s + P * c + P * 1000000 * b + P * 1000000 * 1000000 * a = ((a * 1000000 + b) * 1000000 + c) * P + s := fun a b c P s => by
    have x1 : P * 1000000 * b = (b * 1000000) * P := by rw [Int.mul_comm (b * 1000000) P, Int.mul_comm b, Int.mul_assoc]
    have x2 : P * 1000000 * 1000000 * a = (a * 1000000 * 1000000) * P := by rw [Int.mul_comm (a * 1000000 * 1000000) P, Int.mul_assoc, Int.mul_assoc, Int.mul_comm a, Int.mul_assoc, Int.mul_comm a, ← Int.mul_assoc]
    rw [Int.add_mul, Int.add_mul, Int.add_mul, x1, x2, Int.mul_comm c P]
    omega
  rw [sg, sg, sg, show Pw (m + 2) = Pw m * 1000000 * 1000000 from rfl, show Pw (m + 1) = Pw m * 1000000 from rfl, e]
theorem sg_top2 (Z : List Int) (o m : Nat) : sg Z o (m + 2) = (Z.getD (o + (m + 1)) 0 * 1000000 + Z.getD (o + m) 0) * Pw m + sg Z o m := by
  have e : ∀ b c P s : Int, s + P * c + P * 1000000 * b = (b * 1000000 + c) * P + s := fun b c P s => by
    have x1 : P * 1000000 * b = (b * 1000000) * P := by rw [Int.mul_comm (b * 1000000) P, Int.mul_comm b, Int.mul_assoc]
    rw [Int.add_mul, x1, Int.mul_comm c P]
    omega
  rw [sg, sg, Pw, e]

theorem grown_drewN {w w' : World} {n : Nat} {r : Option Nat} (h : (w.drewN n).grownBy w' r) : w.grownBy w' r := ⟨h.1, h.2, h.3, h.4, h.5⟩
theorem grown_two {w w' w'' : World} {r : Option Nat} (h : w.grownBy w' r) (k : w'.grownBy w'' r) : w.grownBy w'' r :=
  ⟨k.os.trans h.os, k.tape.trans h.tape, k.output.trans h.output, Nat.le_trans h.size k.size, fun i hi hne => (k.block i (Nat.lt_of_lt_of_le hi h.size) hne).trans (h.block i hi hne)⟩
/-- What a part and a divisor give. -/
structure TakePost (Z T : List Int) (o n g K : Nat) (w : World) (w' : World) (Y : List Int) : Prop where
  len : Y.length = Z.length
  out : ∀ j, j < o ∨ o + n ≤ j → Y.getD j 0 = Z.getD j 0
  dig : ∀ j, j < n → 0 ≤ Y.getD (o + j) 0 ∧ Y.getD (o + j) 0 < 1000000
  rest : sg Y o n = sg Z o n % val T
  blk : Blk w' g K Y
  grown : w.grownBy w' (some g)
set_option maxRecDepth 100000 in
set_option maxHeartbeats 4000000 in
theorem takeMul (g K o n cp : Nat) (v : Value) (Z T : List Int) (w : World) (hB : Blk w g K Z) (hv : Rd w v T) (hne : ∀ a l c, v = .slice (some a) l c → a.block ≠ g)
    (hn : o + n ≤ Z.length) (hn2 : n ≤ 100000) (hZ : ∀ j, j < n → 0 ≤ Z.getD (o + j) 0 ∧ Z.getD (o + j) 0 < 1000000) (hT : Dig 1000000 T) (hTn : n = T.length + 1) (hT2 : 2 ≤ T.length)
    (htop : 0 < T.getD (T.length - 1) 0) (hlt : sg Z o n < val T * 1000000) :
    Calls Try.prog 65 #[.slice (some ⟨g, o, none⟩) n cp, v] w fun e w' => ∃ Y, e = .returned (.int .i64 (sg Z o n / val T)) ∧ TakePost Z T o n g K w w' Y := by
  obtain ⟨m, hm⟩ : ∃ m, T.length = m + 2 := ⟨T.length - 2, by omega⟩
  obtain rfl : n = m + 3 := by omega
  have hA := sg_top3 Z o m
  have hBt : val T = (T.getD (m + 1) 0 * 1000000 + T.getD m 0) * Pw m + sg T 0 m := by
    rw [← sg_all T (m + 2) (by omega), sg_top2, Nat.zero_add, Nat.zero_add]
  have tm1 := hT (m + 1) (by omega)
  have tm0 := hT m (by omega)
  rw [show T.length - 1 = m + 1 by omega] at htop
  have z2 := hZ (m + 2) (by omega)
  have z1 := hZ (m + 1) (by omega)
  have z0 := hZ m (by omega)
  have sB0 : 0 ≤ sg T 0 m := sg_nonneg (fun j hj => by rw [Nat.zero_add]; exact (hT j (by omega)).1)
  have sB1 : sg T 0 m < Pw m := sg_lt m (fun j hj => by rw [Nat.zero_add]; exact hT j (by omega))
  have sA0 : 0 ≤ sg Z o m := sg_nonneg (fun j hj => (hZ j (by omega)).1)
  have sA1 : sg Z o m < Pw m := sg_lt m (fun j hj => hZ j (by omega))
  have pm := Pw_pos m
  obtain ⟨x2, hx2⟩ : ∃ x, x = Z.getD (o + (m + 2)) 0 := ⟨_, rfl⟩
  obtain ⟨x1, hx1⟩ : ∃ x, x = Z.getD (o + (m + 1)) 0 := ⟨_, rfl⟩
  obtain ⟨x0, hx0⟩ : ∃ x, x = Z.getD (o + m) 0 := ⟨_, rfl⟩
  obtain ⟨y1, hy1⟩ : ∃ x, x = T.getD (m + 1) 0 := ⟨_, rfl⟩
  obtain ⟨y0, hy0⟩ : ∃ x, x = T.getD m 0 := ⟨_, rfl⟩
  have c2 : w.cell? ⟨g, o + (m + 2), none⟩ = some (.int .i64 x2) := by rw [hx2]; exact hB.cell _ (by omega)
  have c1 : w.cell? ⟨g, o + (m + 1), none⟩ = some (.int .i64 x1) := by rw [hx1]; exact hB.cell _ (by omega)
  have c0 : w.cell? ⟨g, o + m, none⟩ = some (.int .i64 x0) := by rw [hx0]; exact hB.cell _ (by omega)
  rw [← hx2, ← hx1, ← hx0] at hA
  rw [← hy1, ← hy0] at hBt
  rw [← hx2] at z2
  rw [← hx1] at z1
  rw [← hx0] at z0
  rw [← hy1] at tm1 htop
  rw [← hy0] at tm0
  obtain ⟨E, hE⟩ : ∃ E, E = ((x2 * 1000000 + x1) * 1000000 + x0) / (y1 * 1000000 + y0) := ⟨_, rfl⟩
  have hBpos : 0 < val T := by
    have := Int.mul_pos (show 0 < y1 * 1000000 + y0 by omega) pm
    omega
  have hAnn : 0 ≤ sg Z o (m + 3) := sg_nonneg (fun j hj => (hZ j hj).1)
  have hBP : val T < Pw (m + 3) := by
    have := val_lt hT
    have h2 : Pw T.length ≤ Pw (m + 3) := Pw_mono (by omega)
    omega
  have e1 : sg Z o (m + 3) / val T ≤ E := by
    rw [hE]
    exact est_le pm (by omega) hA sA1 hBt sB0 (Int.ediv_nonneg hAnn (by omega)) (Int.ediv_mul_le _ (by omega))
  have e2 : E ≤ sg Z o (m + 3) / val T + 1 := by
    have := est_ge pm (show (0 : Int) < 1000000 by omega) (by omega) (by omega) hA sA0 hBt sB1 hlt
    rw [← hE] at this
    have := Int.le_ediv_of_mul_le hBpos this
    omega
  have e3 := est_base pm (show (0 : Int) < 1000000 by omega) (by omega) (by omega) hA sA0 hBt sB1 hlt
  rw [← hE] at e3
  obtain ⟨e30, e31⟩ := e3
  have HREST := Lib.hid (fun c s => take_rest (c := c) (s := s) (Pw_pos (m + 3)) hBpos hBP hAnn e1 e2)
  have htl := hv.len
  obtain ⟨_, _, a, cc, rfl, hcap, hr⟩ := hv
  obtain ⟨b', p, rfl, hb', hcell⟩ := hr (by intro h0; rw [h0] at hm; simp at hm)
  have d1 : w.cell? ⟨b', p + (m + 1), none⟩ = some (.int .i64 y1) := by rw [hy1]; exact hcell (m + 1) (by omega)
  have d0 : w.cell? ⟨b', p + m, none⟩ = some (.int .i64 y0) := by rw [hy0]; exact hcell m (by omega)
  have HV : Hid (Rd w (.slice (some ⟨b', p, none⟩) T.length cc) T) := Lib.hid ⟨by omega, hT.fit, _, _, rfl, by omega, fun _ => ⟨b', p, rfl, hb', hcell⟩⟩
  have HNE := Lib.hid (hne _ _ _ rfl)
  have HB := Lib.hid hB
  have HZ := Lib.hid hZ
  have HTD := Lib.hid hT
  obtain ⟨L, hL⟩ : ∃ L, L = T.length := ⟨_, rfl⟩
  obtain ⟨N, hN⟩ : ∃ N, N = m + 3 := ⟨_, rfl⟩
  have HLT := Lib.hid hL
  have HVL : Hid (Rd w (.slice (some ⟨b', p, none⟩) L cc) T) := Lib.hid (by rw [hL]; exact HV.out)
  have HNT := Lib.hid hN
  have hLm : L = m + 2 := by omega
  have n1 : N ≤ 100000 := by omega
  have n2 : T.length ≤ N := by omega
  have c2' : w.cell? ⟨g, o + L, none⟩ = some (.int .i64 x2) := by rw [hLm]; exact c2
  rw [← hL, ← hN]
  have i1 : IntKind.i64.wrap ((L : Int) - 1) = (L : Int) - 1 := by rw [IntKind.wrap_i64]; omega
  have i2 : (0 : Int) ≤ (L : Int) - 1 := by omega
  have i3 : ((L : Int) - 1).toNat = m + 1 := by omega
  have i4 : IntKind.i64.wrap ((L : Int) - 2) = (L : Int) - 2 := by rw [IntKind.wrap_i64]; omega
  have i5 : (0 : Int) ≤ (L : Int) - 2 := by omega
  have i6 : ((L : Int) - 2).toNat = m := by omega
  have i7 : (0 : Int) ≤ (L : Int) := by omega
  have i8 : (L : Int) < (N : Int) := by omega
  have i9 : (L : Int) - 1 < (N : Int) := by omega
  have i10 : (L : Int) - 2 < (N : Int) := by omega
  have i11 : (L : Int) - 1 < (L : Int) := by omega
  have i12 : (L : Int) - 2 < (L : Int) := by omega
  have j1 : IntKind.i64.wrap (x2 * 1000000) = x2 * 1000000 := by rw [IntKind.wrap_i64]; omega
  have j2 : IntKind.i64.wrap (x2 * 1000000 + x1) = x2 * 1000000 + x1 := by rw [IntKind.wrap_i64]; omega
  have j3 : IntKind.i64.wrap ((x2 * 1000000 + x1) * 1000000) = (x2 * 1000000 + x1) * 1000000 := by rw [IntKind.wrap_i64]; omega
  have j4 : IntKind.i64.wrap ((x2 * 1000000 + x1) * 1000000 + x0) = (x2 * 1000000 + x1) * 1000000 + x0 := by rw [IntKind.wrap_i64]; omega
  have k1 : IntKind.i64.wrap (y1 * 1000000) = y1 * 1000000 := by rw [IntKind.wrap_i64]; omega
  have k2 : IntKind.i64.wrap (y1 * 1000000 + y0) = y1 * 1000000 + y0 := by rw [IntKind.wrap_i64]; omega
  have q1 : Int.tdiv ((x2 * 1000000 + x1) * 1000000 + x0) (y1 * 1000000 + y0) = E := by rw [hE, Int.tdiv_eq_ediv_of_nonneg (by omega)]
  have q2 : IntKind.i64.wrap E = E := by rw [IntKind.wrap_i64]; omega
  have q3 : (y1 * 1000000 + y0 == 0) = false := by simp; omega
  have q4 : IntKind.i64.wrap (-E) = -E := by rw [IntKind.wrap_i64]; omega
  have i1x := Lib.hid i1
  have k2x := Lib.hid k2
  have i4x := Lib.hid i4
  clear hr hcell hne hT hZ hx2 hx1 hx0 hy1 hy0 hB hA hBt e1 e2 hBpos hBP hAnn hLm hL hN hm tm1 tm0 z2 z1 z0 sA0 sA1 sB0 sB1 pm hlt htl hcap c2 htop hE hT2 hn2 hTn
  go_enter Try.func65, Try.ntmps65
  go_wp2
  go_quiet (fail)
  clear c2' c1 c0 i7 i8 i9 i10 j1 j2 j3 j4
  go_wp2
  obtain ⟨H, hH⟩ : ∃ H, H = (x2 * 1000000 + x1) * 1000000 + x0 := ⟨_, rfl⟩
  rw [← hH] at q1 ⊢
  clear hH
  obtain ⟨D, hDD⟩ : ∃ D, D = y1 * 1000000 + y0 := ⟨_, rfl⟩
  rw [← hDD] at q1 q3 k2x
  have k2' : IntKind.i64.wrap (y1 * 1000000 + y0) = D := by rw [← hDD]; exact k2x.out
  have q5 : ¬ D = 0 := by simpa using q3
  clear hDD k2
  obtain ⟨u, hu⟩ : ∃ u : Int, u = (L : Int) - 1 := ⟨_, rfl⟩
  obtain ⟨t, ht⟩ : ∃ t : Int, t = (L : Int) - 2 := ⟨_, rfl⟩
  have i13 : u < (L : Int) := by omega
  have i14 : t < (L : Int) := by omega
  rw [← hu] at i1 i2 i3
  rw [← ht] at i4 i5 i6
  have i1' : IntKind.i64.wrap ((L : Int) - 1) = u := by rw [hu]; exact i1x.out
  have i4' : IntKind.i64.wrap ((L : Int) - 2) = t := by rw [ht]; exact i4x.out
  clear i1 i4 i11 i12 hu ht
  go_quiet (fail)
  clear d1 d0 i1' i4' i2 i3 i5 i6 i13 i14 k1 k2' q1 q3 q5
  go_wp2_with fail
  refine (addTimes_any g K o N cp _ Z T (-E) _ (Blk.drewN HB.out _) (HVL.out.below (below_drewN (Below.refl w.heap.size w) _) (Nat.le_refl _)) (fun _ a l c h => by cases h; exact HNE.out) (by have := HNT.out; omega) n1 (fun j hj => HZ.out j (by have := HNT.out; omega)) HTD.out n2 (by omega) (by omega)).mono ?_
  rintro e w1 ⟨c, Y, rfl, hti, hblk, hgr⟩
  have hs := hti.sum
  rw [sg_all T N n2] at hs
  have hc := hti.c0
  have hNm := HNT.out
  have s0 : 0 ≤ sg Y o N := sg_nonneg (fun j hj => (hti.dig j hj).1)
  have s1 : sg Y o N < Pw N := sg_lt N hti.dig
  have hr := HREST.out c (sg Y o N) s0 (by rw [← hNm]; exact s1) (by rw [← hNm]; exact hs)
  by_cases hc0 : c < 0
  · obtain ⟨hq, hall⟩ := hr.2 hc0
    have HQ : Hid (E - 1 = sg Z o N / val T) := Lib.hid (by rw [hNm]; omega)
    have HALL := Lib.hid hall
    have HTI := Lib.hid hti
    have HBK := Lib.hid hblk
    have HGR : Hid (w.grownBy w1 (some g)) := Lib.hid (grown_drewN hgr)
    have HRD2 : Hid (Rd w1 (.slice (some ⟨b', p, none⟩) L cc) T) := Lib.hid (by
      obtain ⟨l1, l2, a1, c1, he, l3, hr2⟩ := HVL.out
      refine ⟨l1, l2, a1, c1, he, l3, fun hne => ?_⟩
      obtain ⟨b2, o2, ha, hb2, hcell⟩ := hr2 hne
      simp only [Value.slice.injEq] at he
      rw [ha] at he
      obtain ⟨he, _, _⟩ := he
      simp only [Option.some.injEq, Addr.mk.injEq] at he
      obtain ⟨rfl, rfl, _⟩ := he
      refine ⟨b', p, ha, by have := HGR.out.size; omega, fun i hi => ?_⟩
      have := HGR.out.block b' hb' (fun e => HNE.out (by cases e; rfl))
      rw [World.cell?_of_block (a := ⟨b', p + i, none⟩) this]
      exact hcell i hi)
    have q6 : IntKind.i64.wrap (E - 1) = E - 1 := by rw [IntKind.wrap_i64]; omega
    have hd : decide (c < 0) = true := decide_eq_true hc0
    clear hs hr hq hall hti hblk hgr s0 s1 hNm q4
    go_wp2_with fail
    refine (addTimes_any g K o N cp _ Y T 1 _ HBK.out HRD2.out (fun _ a l c h => by cases h; exact HNE.out) (by have := HNT.out; rw [HTI.out.len]; omega) n1 (fun j hj => HTI.out.dig j hj) HTD.out n2 (by omega) (by omega)).mono ?_
    rintro e w2 ⟨c2, Y2, rfl, hti2, hblk2, hgr2⟩
    have hs2 := hti2.sum
    rw [sg_all T N n2] at hs2
    have hNm := HNT.out
    have HPOST : Hid (TakePost Z T o N g K w w2 Y2) := Lib.hid ⟨hti2.len.trans HTI.out.len, fun j hj => (hti2.out j hj).trans (HTI.out.out j hj), hti2.dig, by
      have := HALL.out c2 (sg Y2 o N) (sg_nonneg (fun j hj => (hti2.dig j hj).1)) (by rw [← hNm]; exact sg_lt N hti2.dig) (by rw [← hNm]; exact hs2)
      rw [hNm] at this ⊢; exact this, hblk2, grown_two HGR.out hgr2⟩
    clear hs2 hNm hti2 hblk2 hgr2
    go_wp2
    go_ret
    exact ⟨Y2, by rw [← HQ.out] <;> rfl, HPOST.out⟩
  · obtain ⟨hq, hre⟩ := hr.1 (by omega)
    have HQ : Hid (E = sg Z o N / val T) := Lib.hid (by rw [hNm]; exact hq)
    have HPOST : Hid (TakePost Z T o N g K w w1 Y) := Lib.hid ⟨hti.len, hti.out, hti.dig, by rw [hNm] at hre ⊢; exact hre, hblk, grown_drewN hgr⟩
    have hd : decide (c < 0) = false := decide_eq_false hc0
    clear hs hr hq hre hti hblk hgr s0 s1 hNm q4
    go_wp2
    go_ret
    exact ⟨Y, by rw [← HQ.out] <;> rfl, HPOST.out⟩
end Go.Proofs.Ytcpipakpkmfhlaa.Ints
