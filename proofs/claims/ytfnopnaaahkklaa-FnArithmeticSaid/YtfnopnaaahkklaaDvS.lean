/- The model's long division: each limb of the quotient by a binary search. -/
import Derived.Test.YtfnopnaaahkklaaVcalc
import Derived.Test.YtfnopnaaahkklaaVsub
import Derived.Test.YtfnopnaaahkklaaCmpNat2
import Derived.Test.YtfnopnaaahkklaaByV
import Derived.Test.YtfnopnaaahkklaaLimbs
import Derived.Test.YtfnopnaaahkklaaCel
import Derived.Test.YtfnopnaaahkklaaDg
namespace Go.Proofs.Ytfnopnaaahkklaa.Ints
open Go.RowKit
set_option linter.unusedVariables false
theorem Blk.belowB {w w' : World} {g K B : Nat} {Z : List Int} (h : Blk w g K Z) (hb : Below B w w') (hg : g < B) : Blk w' g K Z := by
  obtain ⟨tl, h1, h2⟩ := h
  exact ⟨tl, h1, by rw [hb.block g hg]; exact h2⟩

theorem DI.stepB {ps Y : List Int} {b R : Int} {m : Nat} (h : DI ps Y b (m + 1) R) (hm : m < ps.length) (hp : Dig 1000000 ps) (b0 : 1 ≤ b) (s : Int) (hs : s = ps.getD m 0 + 1000000 * R) :
    DI ps (Y.set m (s / b)) b m (s % b) ∧ 0 ≤ s ∧ 0 ≤ s / b ∧ s / b < 1000000 := by
  obtain ⟨r0, r1⟩ := h.rb b0
  obtain ⟨d0, d1⟩ := hp m hm
  have hml : m < Y.length := by rw [h.len]; exact hm
  have q0 : 0 ≤ s / b := Int.ediv_nonneg (by omega) (by omega)
  have q1 : s / b < 1000000 := Int.ediv_lt_of_lt_mul (by omega) (by omega)
  obtain ⟨p1, p2⟩ := div_parts (val (ps.drop (m + 1))) b (ps.getD m 0) b0
  rw [← h.rem, show R * 1000000 + ps.getD m 0 = s by omega] at p1 p2
  refine ⟨⟨by rw [List.length_set, h.len], fun j h1 h2 => ?_, ?_, ?_⟩, by omega, q0, q1⟩
  · rw [getD_set _ _ _ _ hml]
    by_cases e : m = j
    · rw [if_pos e]; exact ⟨q0, q1⟩
    · rw [if_neg e]; exact h.dig j (by omega) (by rwa [List.length_set] at h2)
  · rw [drop_set Y m _ hml, val, h.quo, val_drop ps m hm, p1]
  · rw [val_drop ps m hm, p2]
theorem cons_trim {k : Nat} {r x : Int} (h : Nn k r) (x0 : 0 ≤ x) (x1 : x < 1000000) : trim (x :: canOf r) = canOf (x + 1000000 * r) := by
  obtain ⟨c1, c2, _⟩ := h.can
  refine (canOf_eq (trim_can (fun i hi => ?_)) (by rw [trim_val, val, c2])).symm
  cases i with
  | zero => simpa using ⟨x0, x1⟩
  | succ i => simpa using c1.1 i (by simpa using hi)
theorem limbs_digS {a : Int} (h0 : 0 ≤ a) (h1 : a < 1000000) : limbs a = canOf a := by
  by_cases h : 0 < a
  · exact digit_limbs h h1
  · obtain rfl : a = 0 := by omega
    rw [zero_can, limbs]
    exact limbsF_stop (by omega)
theorem sgn_le (a b : Int) : sgn a b ≤ 0 ↔ a ≤ b := by
  unfold sgn
  split
  · omega
  · split <;> omega
/-- Between the bounds of a binary search. -/
structure Bs (B R lo hi : Int) : Prop where
  l0 : 0 ≤ lo
  lh : lo ≤ hi
  h1 : hi ≤ 999999
  lr : B * lo ≤ R
  hr : R < B * (hi + 1)
theorem Bs.up {B R lo hi m : Int} (h : Bs B R lo hi) (hm0 : lo ≤ m) (hm1 : m ≤ hi) (hr : B * m ≤ R) : Bs B R m hi := ⟨by have := h.l0; omega, hm1, h.h1, hr, h.hr⟩
theorem Bs.down {B R lo hi m : Int} (h : Bs B R lo hi) (hm0 : lo < m) (hm1 : m ≤ hi) (hr : ¬ B * m ≤ R) : Bs B R lo (m - 1) :=
  ⟨h.l0, by omega, by have := h.h1; omega, h.lr, by rw [show m - 1 + 1 = m by omega]; omega⟩
theorem Bs.done {B R lo hi : Int} (h : Bs B R lo hi) (hB : 0 < B) (he : ¬ lo < hi) : lo = R / B ∧ R - B * lo = R % B := by
  have h1 := h.lr
  have h2 := h.hr
  obtain rfl : lo = hi := by have := h.lh; omega
  have e : R / B = lo := by
    have a1 : lo ≤ R / B := Int.le_ediv_of_mul_le hB (by rw [Int.mul_comm]; exact h1)
    have a2 : R / B < lo + 1 := Int.ediv_lt_of_lt_mul hB (by rw [Int.mul_comm]; exact h2)
    omega
  refine ⟨e.symm, ?_⟩
  rw [← e]
  have := Int.emod_add_mul_ediv R B
  omega
theorem Bs.start {B R : Int} (hB : 0 < B) (h0 : 0 ≤ R) (h : R / B < 1000000) : Bs B R 0 999999 := by
  refine ⟨by omega, by omega, by omega, by omega, ?_⟩
  have h1 := Int.emod_add_mul_ediv R B
  have h2 := Int.emod_lt_of_pos R hB
  have h3 : B * (R / B) ≤ B * 999999 := Int.mul_le_mul_of_nonneg_left (by omega) (by omega)
  rw [Int.mul_add]
  omega

set_option maxRecDepth 100000 in
set_option maxHeartbeats 8000000 in
theorem specDiv (u v : Value) (ps qs : List Int) (w : World) (hu : Rd w u ps) (hv : Rd w v qs) (hp : Can ps) (hq : Can qs) (hla : ps.length ≤ 100) (hlb : qs.length ≤ 100) (hpos : 1 ≤ val qs) :
    Calls Try.prog 37 #[u, v] w fun e w' => ∃ r0 r1 M, e = .returned (.tuple #[r0, r1]) ∧ Ow w' w.heap.size M r0 (canOf (val ps / val qs)) ∧ Ow w' M w'.heap.size r1 (canOf (val ps % val qs)) ∧ Below w.heap.size w w' := by
  have HV := Lib.hid hv
  obtain ⟨B, hB⟩ : ∃ B, B = val qs := ⟨_, rfl⟩
  have hqc : qs = canOf B := (canOf_eq hq hB.symm).symm
  have NB : Nn 100 B := by rw [hB]; exact nn_of hq hlb
  rw [hqc] at HV
  rw [← hB] at hpos ⊢
  have HNB := Lib.hid NB
  have HP := Lib.hid hp
  obtain ⟨hl, hf, a, c, rfl, hcap, hr⟩ := hu
  obtain ⟨i0, hi, hz0, hz1, hz2⟩ := info_parts infoE
  obtain ⟨N, hN⟩ : ∃ N, N = ps.length := ⟨_, rfl⟩
  have HN := Lib.hid hN
  have hN1 : N ≤ 100 := by omega
  have HR := Lib.hid hr
  rw [← hN]
  clear hB hqc NB hq hlb hv hp hr hla hl hf hcap hN
  go_enter Try.func37, Try.ntmps37
  go_wp2_with (at_make; refine wpList_make_full _ rfl _ _ 22 rfl w.heap.size 2 i0 (.int .i64 0) 1 Try.underlying22 hi hz0 hz1 _ _ _ _ N rfl rfl rfl rfl ?b2 ?b3 (Nat.le_refl _) ?_)
  case b2 => first | omega | (rw [hz2]; omega)
  case b3 => unfold maxLen; omega
  intro w0 hown0 hgrow0
  have HK0 := Lib.hid (Blk.zeros hown0)
  have HB0 := Lib.hid ((Below.refl w.heap.size w).grown hgrow0 (Nat.le_refl _) (fun k h => by cases h))
  clear hown0 hgrow0
  go_wp2
  go_loopw [7, 8] (fun o s wr => ∃ (m : Nat) (Y : List Int) (R : Int) (rv : Value), m ≤ N ∧ o = rv ∧ s = .int .i64 ((m : Int) - 1) ∧ DI ps Y B m R ∧ Blk wr w.heap.size N Y ∧ Ow wr (w.heap.size + 1) wr.heap.size rv (canOf R) ∧ Below w.heap.size w wr) (fun _ s _ => (intOf s + 1).toNat)
  case atStart => exact ⟨N, List.replicate N 0, 0, _, Nat.le_refl _, rfl, rfl, by rw [HN.out]; exact DI.start ps B, HK0.out.grown (World.grownBy_alloc _ _ none) (by simp), by rw [zero_can]; exact (Ow.made w0).mono (by have := HK0.out.lt; omega) (Nat.le_refl _) (Nat.le_refl _), HB0.out.alloc (by have := HK0.out.lt; omega) _⟩
  case round =>
    obtain ⟨m, Y, R, rv, hm, hov, hs, hdi, hblk, hown, hbel⟩ := hrel
    obtain rfl := hov.symm
    have HK := Lib.hid hblk
    have HO := Lib.hid hown
    have HB := Lib.hid hbel
    have hsz := hbel.size
    have hgs := hblk.lt
    cases m with
    | zero =>
      obtain rfl := hs
      have HD := Lib.hid hdi.done
      have HY : Hid (Ow wr w.heap.size (w.heap.size + 1) (.slice (some ⟨w.heap.size, 0, none⟩) N N) Y) := Lib.hid (by
        have hYl : Y.length = N := by rw [hdi.done.2.2.1, HN.out]
        have h := hblk.ow (Nat.le_refl w.heap.size) (by unfold maxLen; omega) (by omega) hdi.done.2.2.2.fit
        rw [hYl] at h
        exact ⟨h.len, h.fit, by rw [hYl]; have := h.row; rwa [hYl] at this, fun k hk => by cases hk; show w.heap.size < _; omega, by omega, by omega⟩)
      clear hdi hblk hown hbel
      go_wp2_with fail
      refine (specTrim _ Y _ _ _ HY.out).mono ?_
      rintro e w3 ⟨u, rfl, ho, rfl⟩
      have HU := Lib.hid ho
      clear ho
      go_wp2
      go_ret2
      exact ⟨_, _, w.heap.size + 1, rfl, by rw [HD.out.1]; exact HU.out, by rw [← HD.out.2.1]; exact HO.out, HB.out⟩
    | succ m =>
      rw [show (((m + 1 : Nat) : Int) - 1) = (m : Int) by omega] at hs
      obtain rfl := hs
      have hmN : m < ps.length := by rw [← HN.out]; omega
      obtain ⟨b, o, rfl, hb', hcell⟩ := HR.out (by intro hz; rw [hz] at hmN; simp at hmN)
      obtain ⟨x, hx⟩ : ∃ x, x = ps.getD m 0 := ⟨_, rfl⟩
      have hc : wr.cell? ⟨b, o + m, none⟩ = some (.int .i64 x) := by rw [hx]; exact (hbel.cell hb').trans (hcell m hmN)
      have hxd := HP.out.1 m hmN
      rw [← hx] at hxd
      obtain ⟨x0, x1⟩ := hxd
      obtain ⟨r0, r1⟩ := hdi.rb hpos
      obtain ⟨RR, hRR⟩ : ∃ RR, RR = x + 1000000 * R := ⟨_, rfl⟩
      have hst := hdi.stepB hmN HP.out.1 hpos RR (by rw [hRR, hx])
      have HST := Lib.hid hst
      have NR : Nn 100 R := ⟨r0, Int.lt_trans r1 HNB.out.lt⟩
      have NRR : Nn 101 RR := ⟨hst.2.1, by have := NR.lt; rw [Pw]; omega⟩
      have HNR := Lib.hid NRR
      have HTR : Hid (trim (x :: canOf R) = canOf RR) := Lib.hid (by rw [cons_trim NR x0 x1, hRR])
      have hRl := NR.can.2.2
      have HYl : Hid (Y.length = N) := Lib.hid (by rw [hdi.len, HN.out])
      have hlit : (wr.alloc (.cells #[.int .i64 x] 2)).ownsRow wr.heap.size 2 1 (.slice (some ⟨wr.heap.size, 0, none⟩) 1 1) [x].length ([x].map (Value.int .i64)) := World.ownsRow_lit wr #[.int .i64 x] 1 (Nat.le_refl _) (by unfold maxLen; omega) (by simp)
      have hbl : Below wr.heap.size wr (wr.alloc (.cells #[.int .i64 x] 2)) := (Below.refl _ _).alloc (Nat.le_refl _) _
      have HRD := Lib.hid (hown.rd.below hbl (Nat.le_refl _))
      have i0' : (0 : Int) ≤ (m : Int) := by omega
      have i1 : (m : Int) < (N : Int) := by omega
      have hm1 : m < N := by omega
      obtain ⟨Z, hZ⟩ : ∃ Z, Z = canOf R := ⟨_, rfl⟩
      rw [← hZ] at HTR HRD hRl
      clear hdi hst hx hRR hblk hown hbel hcell NR NRR hZ r0 r1
      go_wp2_with (at_builtin; refine wpList_append_rd rfl _ _ rfl wr.heap.size _ _ [x] Z rfl hlit rfl HRD.out (by simp; omega) (by simp) ?_)
      intro v' w1 hown1 hgrow1
      have hb1 : Below wr.heap.size wr w1 := hbl.grown hgrow1 (by simp) (fun k hk => (hlit.lt k hk).1)
      have HB1 := Lib.hid hb1
      have HX : Hid (Ow w1 wr.heap.size w1.heap.size v' (x :: Z)) := Lib.hid ⟨by simp; omega, fun z hz => by
        rcases List.mem_cons.1 hz with hz | hz
        · subst hz; omega
        · exact HRD.out.fit z hz, by simpa [Nat.add_comm] using hown1, fun k hk => (hown1.lt k hk).2, Nat.le_refl _, hb1.size⟩
      clear hown1 hgrow1 hlit hbl hb1
      go_wp2_with fail
      refine (specTrim _ (x :: Z) _ _ _ HX.out).mono ?_
      rintro e w2 ⟨u2, rfl, ho, rfl⟩
      rw [HTR.out] at ho
      have HRE := Lib.hid ho
      clear ho
      have hHB : wr.heap.size ≤ w1.heap.size := HB1.out.size
      go_wp2
      go_loopw [9, 10] (fun lo hi wr2 => ∃ (p q : Int), lo = .int .i64 p ∧ hi = .int .i64 q ∧ Bs B RR p q ∧ Below w1.heap.size w1 wr2) (fun lo hi _ => (intOf hi - intOf lo).toNat)
      case atStart => exact ⟨0, 999999, rfl, rfl, Bs.start (by omega) HST.out.2.1 HST.out.2.2.2, Below.refl _ _⟩
      case round =>
        obtain ⟨p, q, rfl, rfl, hbs, hbw⟩ := hrel
        have b0 := hbs.l0
        have b1 := hbs.lh
        have b2 := hbs.h1
        have HBS := Lib.hid hbs
        have HBW := Lib.hid hbw
        clear hbs hbw
        by_cases hlt : p < q
        · obtain ⟨md, hmd⟩ : ∃ md, md = (p + q + 1) / 2 := ⟨_, rfl⟩
          have m1 : p < md := by omega
          have m2 : md ≤ q := by omega
          have e1 : IntKind.i64.wrap (p + q) = p + q := by rw [IntKind.wrap_i64]; omega
          have e2 : IntKind.i64.wrap (p + q + 1) = p + q + 1 := by rw [IntKind.wrap_i64]; omega
          have e3 : Int.tdiv (p + q + 1) 2 = md := by rw [Int.tdiv_eq_ediv_of_nonneg (by omega)]; omega
          have e4 : IntKind.i64.wrap md = md := by rw [IntKind.wrap_i64]; omega
          clear hmd
          go_wp2_with fail
          refine (specLimbs md _ (by omega) (by omega)).mono ?_
          rintro e w3 ⟨u3, rfl, o3, b3⟩
          rw [limbs_digS (by omega) (by omega)] at o3
          have HB3 := Lib.hid (HBW.out.trans (b3.mono HBW.out.size))
          have X3 := Lib.hid o3
          clear o3 b3
          go_wp2_with fail
          refine (sMul _ _ B md 100 1 _ (HV.out.below (HB.out.trans (((HB1.out.trans (HB3.out.mono hHB))).mono hsz)) (Nat.le_refl _)) X3.out.rd HNB.out (nn_small (by omega) (by omega)) (by omega) (by omega)).mono ?_
          rintro e w4 ⟨u4, rfl, o4, b4⟩
          have HB4 := Lib.hid (HB3.out.trans (b4.mono HB3.out.size))
          have X4 := Lib.hid o4
          clear o4 b4
          have hpr := (HNB.out.mul (nn_small (a := md) (by omega) (by omega)))
          have hcm : cmpN (canOf (B * md)) (canOf RR) = sgn (B * md) RR := by
            rw [cmpN_val hpr.can.1 HNR.out.can.1, hpr.can.2.1, HNR.out.can.2.1]
          have HCM := Lib.hid hcm
          clear hcm hpr
          go_wp2_with fail
          refine (specCmpNat _ _ _ _ _ X4.out.rd (HRE.out.rd.below HB4.out (Nat.le_refl _))).mono ?_
          rintro e w5 ⟨rfl, b5⟩
          rw [HCM.out]
          have HB5 := Lib.hid (HB4.out.trans (b5.mono HB4.out.size))
          clear b5
          obtain ⟨cc, hcc⟩ : ∃ cc, cc = sgn (B * md) RR := ⟨_, rfl⟩
          rw [← hcc]
          by_cases hle : B * md ≤ RR
          · have c0 : cc ≤ 0 := by rw [hcc]; exact (sgn_le _ _).2 hle
            have HN2 := Lib.hid (HBS.out.up (Int.le_of_lt m1) m2 hle)
            clear hcc hle
            go_wp2
            go_roundw
            case rel => exact ⟨md, q, rfl, rfl, HN2.out, HB5.out⟩
            case measure => simp [intOf]; omega
          · have c0 : ¬ cc ≤ 0 := by rw [hcc]; exact fun h => hle ((sgn_le _ _).1 h)
            have HN2 := Lib.hid (HBS.out.down m1 m2 hle)
            have e5 : IntKind.i64.wrap (md - 1) = md - 1 := by rw [IntKind.wrap_i64]; omega
            clear hcc hle
            go_wp2
            go_roundw
            case rel => exact ⟨p, md - 1, rfl, rfl, HN2.out, HB5.out⟩
            case measure => simp [intOf]; omega
        · obtain ⟨d1, d2⟩ := HBS.out.done (by omega) hlt
          have HD1 := Lib.hid d1
          have HD2 := Lib.hid d2
          have hpB : B * p ≤ RR := HBS.out.lr
          have HBX := Lib.hid (HB1.out.trans (HBW.out.mono hHB))
          have HKx := Lib.hid (HK.out.belowB HBX.out hgs)
          have hYl2 : Y.length = N := HYl.out
          obtain ⟨y0, hy0⟩ : ∃ y, y = Y.getD m 0 := ⟨_, rfl⟩
          have hc3 : wr.cell? ⟨w.heap.size, m, none⟩ = some (.int .i64 y0) := by rw [hy0]; exact HKx.out.cell m (by omega)
          have hf3 : wr.frozen? ⟨w.heap.size, m, none⟩ = false := HKx.out.frozen m
          obtain ⟨k1, g1⟩ := HKx.out.set m (by omega) p
          have HK2 := Lib.hid k1
          have HB2 := Lib.hid ((HB.out.trans (HBX.out.mono hsz)).grown g1 (by have := HBX.out.size; omega) (fun k e => by cases e; exact Nat.le_refl _))
          have HR2 : Hid (Rd (wr.setCell ⟨w.heap.size, m, none⟩ (.int .i64 p)) u2 (canOf RR)) := Lib.hid ((HRE.out.rd.below HBW.out (Nat.le_refl _)).grown g1 (fun _ ad l c' e => by
            have h9 := (HRE.out.row.lt ad.block (by rw [e]; rfl)).1
            intro e2; injection e2 with e2; omega))
          clear hy0 k1 g1 d1 d2
          go_wp2_with fail
          refine (specLimbs p _ (by omega) (by omega)).mono ?_
          rintro e w6 ⟨u6, rfl, o6, b6⟩
          rw [limbs_digS (by omega) (by omega)] at o6
          have HB6 := Lib.hid b6
          have X6 := Lib.hid o6
          clear o6 b6
          go_wp2_with fail
          refine (sMul _ _ B p 100 1 _ ((HV.out.below HB2.out (Nat.le_refl _)).below HB6.out (Nat.le_refl _)) X6.out.rd HNB.out (nn_small (by omega) (by omega)) (by omega) (by omega)).mono ?_
          rintro e w7 ⟨u7, rfl, o7, b7⟩
          have HB7 := Lib.hid (HB6.out.trans (b7.mono HB6.out.size))
          have X7 := Lib.hid o7
          have HNP : Hid (Nn 101 (B * p)) := Lib.hid ⟨Int.mul_nonneg (by omega) b0, Int.lt_of_le_of_lt hpB HNR.out.lt⟩
          clear o7 b7
          go_wp2_with fail
          refine (sSub _ _ RR (B * p) 101 _ (HR2.out.below HB7.out (Nat.le_refl _)) X7.out.rd HNR.out HNP.out (by omega) hpB).mono ?_
          rintro e w8 ⟨u8, rfl, o8, b8⟩
          rw [HD2.out] at o8
          have HB8 := Lib.hid (HB7.out.trans (b8.mono HB7.out.size))
          have hgs2 : w.heap.size < wr.heap.size := HKx.out.lt
          have X8 : Hid (Ow w8 (w.heap.size + 1) w8.heap.size u8 (canOf (RR % B))) := Lib.hid (o8.mono (by have := HB7.out.size; simp at this; omega) (Nat.le_refl _) (Nat.le_refl _))
          have HK8 := Lib.hid (HK2.out.belowB HB8.out (by simp; omega))
          have HB9 := Lib.hid (HB2.out.trans (HB8.out.mono (by have := HB2.out.size; exact this)))
          have HDI : Hid (DI ps (Y.set m p) B m (RR % B)) := Lib.hid (by rw [HD1.out]; exact HST.out.1)
          clear o8 b8 hc3 hf3
          go_wp2
          go_roundw
          case rel => exact ⟨m, Y.set m p, RR % B, _, by omega, rfl, by first | rfl | go_num, HDI.out, HK8.out, X8.out, HB9.out⟩
          case measure => simp [intOf]
theorem specDv (u v : Value) (ps qs : List Int) (w : World) (hu : Rd w u ps) (hv : Rd w v qs) (hp : Can ps) (hq : Can qs) (hla : ps.length ≤ 100) (hlb : qs.length ≤ 100) (h1 : 1 ≤ qs.length) :
    Calls Try.prog 37 #[u, v] w fun e w' => ∃ r0 r1, e = .returned (.tuple #[r0, r1]) ∧ Ow w' w.heap.size w'.heap.size r0 (canOf (val ps / val qs)) ∧ Ow w' w.heap.size w'.heap.size r1 (canOf (val ps % val qs)) ∧ Sep r0 r1 ∧ Below w.heap.size w w' := by
  refine (specDiv u v ps qs w hu hv hp hq hla hlb (by have := val_pos hq h1; omega)).mono ?_
  rintro e w' ⟨r0, r1, M, rfl, o0, o1, hb⟩
  exact ⟨r0, r1, rfl, o0.up, o1.mono o0.base (Nat.le_refl _) (Nat.le_refl _), sep_of o0.top (fun k hk => ⟨(o1.row.lt k hk).1, o1.top k hk⟩) (Nat.le_refl _), hb⟩
end Go.Proofs.Ytfnopnaaahkklaa.Ints
