/- The builder's part: a program placed behind what is there. -/
import Derived.Test.YtfcakadmiflcdaaPart
import Derived.Deep.RegionLaw
import Derived.Outline
namespace Go.Proofs.Ytfcakadmiflcdaa.Ints
open Go.RowKit
set_option linter.unusedVariables false
set_option linter.unusedSimpArgs false
theorem FitIns.take {rs : List Ins} (h : FitIns rs) (k : Nat) : FitIns (rs.take k) := fun r hr => h r (List.mem_of_mem_take hr)
theorem take_snoc_ins (rs : List Ins) (k : Nat) (h : k < rs.length) : rs.take k ++ [rs.getD k zIns] = rs.take (k + 1) := by
  rw [List.take_succ_eq_append_getElem h, List.getD_eq_getElem?_getD, List.getElem?_eq_getElem h]; rfl
theorem implGoing2 (x y z u first exit q0 q1 q2 q3 : Int) (gp ge gf : Nat) (a : Option Addr) (n c : Nat) (w : World) (kp : w.cell? ⟨gp, 0, none⟩ = some (.slice a n c)) (ke : w.cell? ⟨ge, 0, none⟩ = some (.int .i64 exit)) (kf : w.cell? ⟨gf, 0, none⟩ = some (.int .i64 first))
    (hok : InsOk n ⟨x, y, z, u⟩) (hn : n ≤ 400) (h2 : 0 ≤ first) (h3 : first ≤ 1000) (hq : (⟨q0, q1, q2, q3⟩ : Ins) = shI n first exit ⟨x, y, z, u⟩) :
    Calls Try.prog 82 #[.agg #[.int .i64 x, .int .i64 y, .int .i64 z, .int .i64 u], .func (.func 119) #[] #[.pointer (some ⟨gp, 0, none⟩), .pointer (some ⟨ge, 0, none⟩), .pointer (some ⟨gf, 0, none⟩)]] w fun e w' =>
      e = .returned (.agg #[.int .i64 q0, .int .i64 q1, .int .i64 q2, .int .i64 q3]) ∧ Below w.heap.size w w' :=
  (implGoing x y z u first exit gp ge gf a n c w kp ke kf hok hn h2 h3).mono fun e w' ⟨he, hb⟩ => ⟨by rw [he, ← hq]; rfl, hb⟩
set_option maxHeartbeats 4000000 in
set_option maxRecDepth 100000 in
theorem bPart (w0 : World) (g : Nat) (v p : Value) (xs ps : List Ins) (exit : Int) (w : World) (hk : Cels w g 95 [v]) (ho : OwIns w w0.heap.size w.heap.size v xs) (hp : RdIns w0 p ps) (hok : Pok ps)
    (hw : Below w0.heap.size w0 w) (hg : w0.heap.size ≤ g) (hl : xs.length ≤ 1000) (he : 0 ≤ exit ∧ exit ≤ 2000) :
    Calls Try.prog 86 #[.pointer (some ⟨g, 0, none⟩), p, .int .i64 exit] w fun e w' => ∃ v', e = .returned (.pointer (some ⟨g, 0, none⟩)) ∧ Cels w' g 95 [v'] ∧ OwIns w' w0.heap.size w'.heap.size v' (xs ++ shL xs.length exit ps) ∧ Below w0.heap.size w0 w' := by
  obtain ⟨a, c, hv⟩ := ho.shape
  subst hv
  have HK := Lib.hid hk
  have HO := Lib.hid ho
  have HP := Lib.hid hp
  have HPW := Lib.hid (hp.below hw (Nat.le_refl _))
  have HW := Lib.hid hw
  have HOK := Lib.hid hok
  have HFS : Hid (FitIns (shL xs.length exit ps)) := Lib.hid (FitIns.sh hok (by omega) (by omega) he.1 he.2)
  have hl4 := hok.len
  obtain ⟨_, _, a', c', rfl, _, hr⟩ := hp
  have HR := Lib.hid hr
  clear hk ho hw hok hr
  have k0 := HK.out.cell 0 rfl
  go_enter Try.func86, Try.ntmps86
  go_wp2_with fail
  refine (implLen g a xs.length c _ k0 (by omega)).mono ?_
  rintro e w1 ⟨rfl, rfl⟩
  go_wp2_with fail
  refine (implPlacing _ (xs.length : Int) exit _ ps HPW.out).mono ?_
  rintro e W ⟨rfl, hW⟩
  obtain ⟨kp, kf, ke, hb⟩ := place_world w _ _ _ hW
  obtain ⟨gp, hgp⟩ : ∃ x, x = w.heap.size := ⟨_, rfl⟩
  rw [← hgp] at kp kf ke ⊢
  have KP := Lib.hid kp
  have KF := Lib.hid kf
  have KE := Lib.hid ke
  have HKW := Lib.hid (HK.out.below hb HK.out.lt)
  have HOW := Lib.hid (HO.out.below hb (Nat.le_refl _)).up
  have HBW := Lib.hid (HW.out.trans (hb.mono HW.out.size))
  clear k0 kp kf ke hb hW hgp
  go_wp2_with fail
  go_loopw [17] (fun s wr => ∃ k : Nat, ∃ v', k ≤ ps.length ∧ s = .int .i64 k ∧ Cels wr g 95 [v'] ∧ OwIns wr w0.heap.size wr.heap.size v' (xs ++ (shL xs.length exit ps).take k) ∧ Below w0.heap.size w0 wr ∧
      Cels wr gp 25 [.slice a' ps.length c'] ∧ Cels wr (gp + 1) 2 [.int .i64 xs.length] ∧ Cels wr (gp + 1 + 1) 2 [.int .i64 exit])
    (fun s _ => ps.length - (intOf s).toNat)
  case atStart => exact ⟨0, _, Nat.zero_le _, rfl, HKW.out, by simpa using HOW.out, HBW.out, KP.out, KF.out, KE.out⟩
  case round =>
    obtain ⟨k, v', hk, rfl, hkr, hor, hbr, kp, kf, ke⟩ := hrel
    by_cases hlt : k < ps.length
    · obtain ⟨b, o, rfl, hb, hcell⟩ := HR.out (by intro h0; rw [h0] at hlt; simp at hlt)
      obtain ⟨c0, c1, c2, c3⟩ := hcell k hlt
      replace c0 := (hbr.cell (p := ⟨b, o + k * 4, none⟩) hb).trans c0
      replace c1 := (hbr.cell (p := ⟨b, o + k * 4 + 1, none⟩) hb).trans c1
      replace c2 := (hbr.cell (p := ⟨b, o + k * 4 + 2, none⟩) hb).trans c2
      replace c3 := (hbr.cell (p := ⟨b, o + k * 4 + 3, none⟩) hb).trans c3
      have i0 : (0 : Int) ≤ (k : Int) := by omega
      have i1 : (k : Int) < (ps.length : Int) := by omega
      have hin := HOK.out.all k hlt
      obtain ⟨r, hr0⟩ : ∃ r, r = ps.getD k zIns := ⟨_, rfl⟩
      rw [← hr0] at c0 c1 c2 c3 hin
      have HSN : Hid ((xs ++ (shL xs.length exit ps).take k) ++ [shI ps.length xs.length exit r] = xs ++ (shL xs.length exit ps).take (k + 1)) := Lib.hid (by
        rw [← take_snoc_ins _ k (by simpa using hlt), shL_at _ _ _ _ hlt, List.append_assoc, hr0])
      have HFI : Hid ((shI ps.length xs.length exit r).fit) := Lib.hid (HFS.out _ (by
        rw [hr0, ← shL_at _ _ _ _ hlt]; exact getIns_mem (by simpa using hlt)))
      have HIN := Lib.hid hin
      have hll : (xs ++ (shL xs.length exit ps).take k).length ≤ 2000 := by simp; omega
      obtain ⟨Z, hZ⟩ : ∃ Z, Z = xs ++ (shL xs.length exit ps).take k := ⟨_, rfl⟩
      rw [← hZ] at hor hll HSN
      obtain ⟨x, y, z, u⟩ := r
      have HLL := Lib.hid hll
      obtain ⟨q, hq⟩ : ∃ q, q = shI ps.length xs.length exit ⟨x, y, z, u⟩ := ⟨_, rfl⟩
      rw [← hq] at HSN HFI
      obtain ⟨q0, q1, q2, q3⟩ := q
      have HQ := Lib.hid hq
      clear hcell hr0 hin hZ hll hq HKW HOW KP KF KE HBW
      -- the world with the element's own copy
      obtain ⟨W0, hW0⟩ : ∃ W, W = wr.alloc (Obj.cells #[.int .i64 x, .int .i64 y, .int .i64 z, .int .i64 u] 65) := ⟨_, rfl⟩
      have hb0 : Below wr.heap.size wr W0 := by rw [hW0]; exact (Below.refl _ _).alloc (Nat.le_refl _) _
      have KX : Cels W0 wr.heap.size 65 [.int .i64 x, .int .i64 y, .int .i64 z, .int .i64 u] := by rw [hW0]; exact Cels.new _ _ _
      obtain ⟨gx, hgx⟩ : ∃ n, n = wr.heap.size := ⟨_, rfl⟩
      have hkr0 := hkr.below hb0 hkr.lt
      obtain ⟨ga, gc, hv'⟩ := hor.shape
      subst hv'
      have hor0 := (hor.below hb0 (Nat.le_refl _)).up
      have hbr0 := hbr.trans (hb0.mono hbr.size)
      have kp0 := kp.below hb0 kp.lt
      have kf0 := kf.below hb0 kf.lt
      have ke0 := ke.below hb0 ke.lt
      have HNP : Hid (gp ≠ g ∧ gp + 1 ≠ g ∧ gp + 1 + 1 ≠ g) := Lib.hid ⟨cels_ne kp hkr (by decide), cels_ne kf hkr (by decide), cels_ne ke hkr (by decide)⟩
      have HW0 := Lib.hid hW0.symm
      have HGX := Lib.hid hgx.symm
      rw [← hgx] at KX
      have z0 := hkr0.cell 0 rfl
      have x0 := KX.cell 0 rfl
      have x1 := KX.cell 1 rfl
      have x2 := KX.cell 2 rfl
      have x3 := KX.cell 3 rfl
      have hltg := hkr0.lt
      have hltx := KX.lt
      have HS : Hid (∀ W, Below W0.heap.size W0 W → (W.cell? ⟨g, 0, none⟩ = some (.slice ga Z.length gc) ∧ W.cell? ⟨gx, 0, none⟩ = some (.int .i64 x) ∧ W.cell? ⟨gx, 1, none⟩ = some (.int .i64 y) ∧ W.cell? ⟨gx, 2, none⟩ = some (.int .i64 z) ∧ W.cell? ⟨gx, 3, none⟩ = some (.int .i64 u)) ∧
          (W.cell? ⟨gp, 0, none⟩ = some (.slice (some ⟨b, o, none⟩) ps.length c') ∧ W.cell? ⟨gp + 1 + 1, 0, none⟩ = some (.int .i64 exit) ∧ W.cell? ⟨gp + 1, 0, none⟩ = some (.int .i64 xs.length))) := Lib.hid (fun W hW =>
        ⟨⟨(hkr0.below hW hkr0.lt).cell 0 rfl, (KX.below hW KX.lt).cell 0 rfl, (KX.below hW KX.lt).cell 1 rfl, (KX.below hW KX.lt).cell 2 rfl, (KX.below hW KX.lt).cell 3 rfl⟩, (kp0.below hW kp0.lt).cell 0 rfl, (ke0.below hW ke0.lt).cell 0 rfl, (kf0.below hW kf0.lt).cell 0 rfl⟩)
      have HKR := Lib.hid hkr0
      have HOR := Lib.hid hor0
      have HBR := Lib.hid hbr0
      have HKP := Lib.hid kp0
      have HKF := Lib.hid kf0
      have HKE := Lib.hid ke0
      clear hkr hor hbr kp kf ke hb0 hkr0 hor0 hbr0 kp0 kf0 ke0 KX hW0 hgx
      go_wp2_with fail
      rw [HW0.out, HGX.out]
      have HD : Hid (Below W0.heap.size W0 W0.drew) := Lib.hid (Below.refl _ _).drew
      go_region_law ((first | (refine step_append_Ins (by rfl) _ _ (by rfl) w0.heap.size _ _ Z [⟨q0, q1, q2, q3⟩] (by rfl) (HOR.out.below (HD.out.alloc HD.out.size _) (Nat.le_refl _)).row (by rfl) (rdIns_one (Cels.new _ _ _) HFI.out) (by have := HLL.out; simp; omega) (Nat.le_trans HOR.out.base (HD.out.alloc HD.out.size _).size) ?_; intro v' w4 hown4 hgrow4; have HA := Lib.hid (bAfter HKR.out HOR.out hg HLL.out HFI.out (HD.out.alloc HD.out.size _) hown4 hgrow4); obtain ⟨ha, hc, hv'⟩ := ownsRow_shape hown4; subst hv'; obtain ⟨q0', q1', _⟩ := HA.out; clear hown4 hgrow4) | (go_simp; go_at_call 82; with_reducible refine (implGoing2 x y z u (xs.length : Int) exit q0 q1 q2 q3 gp (gp + 1 + 1) (gp + 1) _ _ _ _ (HS.out _ HD.out).2.1 (HS.out _ HD.out).2.2.1 (HS.out _ HD.out).2.2.2 HIN.out hl4 (by omega) (by omega) HQ.out).mono ?_; rintro e3 w3 ⟨rfl, bq⟩; replace HD := Lib.hid (HD.out.trans (bq.mono HD.out.size)); obtain ⟨⟨y0, y1, y2, y3, y4⟩, _⟩ := HS.out _ HD.out; have hltg3 := Nat.lt_of_lt_of_le hltg HD.out.size; have hltx3 := Nat.lt_of_lt_of_le hltx HD.out.size; clear bq)))
      all_goals
        go_wp2
        go_roundw
        case rel => exact ⟨k + 1, _, by omega, by go_num, HA.out.2.2.1, by rw [← HSN.out]; exact HA.out.2.2.2.1, HBR.out.trans HA.out.2.2.2.2.1, HA.out.2.2.2.2.2 _ _ _ (HKP.out.below (HD.out.alloc HD.out.size _) HKP.out.lt) (by decide) HNP.out.1,
          HA.out.2.2.2.2.2 _ _ _ (HKF.out.below (HD.out.alloc HD.out.size _) HKF.out.lt) (by decide) HNP.out.2.1, HA.out.2.2.2.2.2 _ _ _ (HKE.out.below (HD.out.alloc HD.out.size _) HKE.out.lt) (by decide) HNP.out.2.2⟩
        case measure => simp [intOf]; omega
    · obtain rfl : k = ps.length := by omega
      have HKR := Lib.hid hkr
      have HOR := Lib.hid hor
      have HBR := Lib.hid hbr
      clear hkr hor hbr kp kf ke
      go_wp2
      go_ret
      exact ⟨_, rfl, HKR.out, by have := HOR.out; rwa [List.take_of_length_le (by simp)] at this, HBR.out⟩
end Go.Proofs.Ytfcakadmiflcdaa.Ints
