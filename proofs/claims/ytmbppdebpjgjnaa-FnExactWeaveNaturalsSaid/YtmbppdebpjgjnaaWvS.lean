/- The contract of the model's WeaveNaturals. -/
import Derived.Test.YtmbppdebpjgjnaaWv
namespace Go.Proofs.Ytmbppdebpjgjnaa.Ints
open Go.RowKit
set_option linter.unusedVariables false

theorem twoCells (x y : Int) : ∀ u ∈ [Value.int .i64 x, Value.int .i64 y], u.oneCell' = true := ints_oneCell .i64 [x, y]
theorem Ow.snoc2 {wr w1 : World} {B T : Nat} {ov v' : Value} {xs : List Int} {x y : Int} (h : Ow wr B T ov xs) (h0 : -9223372036854775808 ≤ x ∧ x ≤ 9223372036854775807) (h1 : -9223372036854775808 ≤ y ∧ y ≤ 9223372036854775807) (hl : xs.length + 1 < 16777216)
    (hown1 : w1.ownsRow B 2 1 v' (xs.length + 2) (xs.map (Value.int .i64) ++ [.int .i64 x, .int .i64 y])) (hgrow : (wr.alloc (Obj.cells #[Value.int IntKind.i64 x, Value.int IntKind.i64 y] 2)).grownBy w1 ov.ownBlock) :
    Ow w1 B w1.heap.size v' (xs ++ [x, y]) ∧ Below B wr w1 := by
  have hb : B ≤ wr.heap.size := Nat.le_trans h.base h.size
  have hB : Below B wr w1 := ((Below.refl B wr).alloc hb _).grown hgrow (by simp; omega) (fun q hq => (h.row.lt q hq).1)
  refine ⟨⟨by simp; omega, fun z hz => ?_, by simpa using hown1, fun k hk => (hown1.lt k hk).2, Nat.le_refl _, Nat.le_trans hb hB.size⟩, hB⟩
  rcases List.mem_append.1 hz with hz | hz
  · exact h.fit z hz
  · simp at hz; rcases hz with rfl | rfl
    · exact h0
    · exact h1
theorem getD_out {Z : List Int} {k : Nat} (h : ¬ k < Z.length) : Z.getD k 0 = 0 := by
  rw [List.getD_eq_getElem?_getD, List.getElem?_eq_none (by omega)]; rfl

set_option maxRecDepth 100000 in
set_option maxHeartbeats 8000000 in
theorem specWeave (u : Value) (ps : List Int) (v : Value) (qs : List Int) (w : World) (hu : Rd w u ps) (hv : Rd w v qs) :
    Calls Try.prog 27 #[u, v] w fun e w' => ∃ r, e = .returned (.tuple #[r, .int .i64 (weC ps qs)]) ∧ Ow w' w.heap.size w'.heap.size r (weL ps qs) ∧ Below w.heap.size w w' := by
  have HU := Lib.hid hu
  have HV := Lib.hid hv
  clear hu hv
  rcases eqOr (natB ps) with hx | hx
  · have HX := Lib.hid hx
    have HR := Lib.hid (we_bad (ps := ps) (qs := qs) (fun h => by rw [h.1] at hx; cases hx))
    clear hx
    go_enter Try.func27, Try.ntmps27
    go_wp2_with (go_at_call 37; refine (specNat _ ps _ HU.out).mono ?_; rintro e w' ⟨rfl, rfl⟩; rw [HX.out])
    go_ret2
    exact ⟨_, by rw [HR.out.2] <;> rfl, by rw [HR.out.1]; exact Ow.empty w, Below.refl _ _⟩
  rcases eqOr (natB qs) with hy | hy
  · have HX := Lib.hid hx
    have HY := Lib.hid hy
    have HR := Lib.hid (we_bad (ps := ps) (qs := qs) (fun h => by rw [h.2] at hy; cases hy))
    clear hx hy
    go_enter Try.func27, Try.ntmps27
    go_wp2_with fail
    refine (specNat _ ps _ HU.out).mono ?_
    rintro e w' ⟨rfl, rfl⟩
    rw [HX.out]
    go_wp2_with fail
    refine (specNat _ qs _ HV.out).mono ?_
    rintro e w' ⟨rfl, rfl⟩
    rw [HY.out]
    go_wp2
    go_ret2
    exact ⟨_, by rw [HR.out.2] <;> rfl, by rw [HR.out.1]; exact Ow.empty w, Below.refl _ _⟩
  have HX := Lib.hid hx
  have HY := Lib.hid hy
  have hpc := natB_can hx
  have hqc := natB_can hy
  have HP := Lib.hid hpc
  have HQ := Lib.hid hqc
  obtain ⟨_, _, r1, r2⟩ := we_good hx hy
  have hX1 := dg_ten hpc.1 hpc.2
  have hY1 := dg_ten hqc.1 hqc.2
  have hXd := dgN_dig ps (p := 10) (by omega)
  have hYd := dgN_dig qs (p := 10) (by omega)
  rw [wvD] at r1 r2
  obtain ⟨X, hX⟩ : ∃ X, X = dgN ps 10 := ⟨_, rfl⟩
  obtain ⟨Y, hY⟩ : ∃ Y, Y = dgN qs 10 := ⟨_, rfl⟩
  have HXX := Lib.hid hX
  have HYY := Lib.hid hY
  rw [← hX] at hX1 hXd r1 r2
  rw [← hY] at hY1 hYd r1 r2
  obtain ⟨M, hM⟩ : ∃ M, M = wvM X Y := ⟨_, rfl⟩
  rw [← hM] at r1 r2
  have hM1 : X.length ≤ M ∧ Y.length ≤ M ∧ (M ≤ X.length ∨ M ≤ Y.length) := by rw [hM, wvM]; omega
  obtain ⟨m1, m2, m3⟩ := hM1
  have HR1 := Lib.hid r1
  have HR2 := Lib.hid r2
  have HXD := Lib.hid hXd
  have HYD := Lib.hid hYd
  have HDIG := Lib.hid (wvN_dig (show (0 : Int) < 10 by omega) hXd hYd)
  clear hx hy hX hY hM r1 r2 hpc hqc hXd hYd
  obtain ⟨i0, hi, hz0, hz1, hz2⟩ := info_parts infoE
  go_enter Try.func27, Try.ntmps27
  go_wp2_with fail
  refine (specNat _ ps _ HU.out).mono ?_
  rintro e w' ⟨rfl, rfl⟩
  rw [HX.out]
  go_wp2_with fail
  refine (specNat _ qs _ HV.out).mono ?_
  rintro e w' ⟨rfl, rfl⟩
  rw [HY.out]
  go_wp2_with fail
  refine (specDgLoop _ ps 10 _ HU.out HP.out (by omega) (by omega)).mono ?_
  rintro e w1 ⟨r, rfl, ho, hb⟩
  rw [← HXX.out] at ho
  have HO1 := Lib.hid ho.rd
  have HB1 := Lib.hid hb
  have HV1 := Lib.hid (HV.out.below hb (Nat.le_refl _))
  obtain ⟨a, c, rfl⟩ := ho.shape
  clear ho hb
  go_wp2_with fail
  refine (specDgLoop _ qs 10 _ HV1.out HQ.out (by omega) (by omega)).mono ?_
  rintro e w2 ⟨r, rfl, ho, hb⟩
  rw [← HYY.out] at ho
  have HO2 := Lib.hid ho.rd
  have HO1b := Lib.hid (HO1.out.below hb (Nat.le_refl _))
  have HB2 := Lib.hid (HB1.out.trans (hb.mono HB1.out.size))
  obtain ⟨a', c', rfl⟩ := ho.shape
  have HB3 := Lib.hid ((Below.refl w2.heap.size w2).alloc (Nat.le_refl _) (Obj.cells #[] 2))
  clear ho hb
  go_wp2
  go_loopw [8, 9] (fun o s wr => ∃ (k : Nat) (ov : Value), o = ov ∧ k ≤ M ∧ s = .int .i64 k ∧ Ow wr w2.heap.size wr.heap.size ov (wvN X Y k) ∧ Below w2.heap.size w2 wr) (fun _ s _ => M - (intOf s).toNat)
  case atStart => exact ⟨0, _, rfl, Nat.zero_le _, rfl, Ow.made w2, HB3.out⟩
  case round =>
    obtain ⟨k, ov, hov, hk, rfl, hown, hbel⟩ := hrel
    obtain rfl := hov.symm
    have HOV := Lib.hid hown
    have HW := Lib.hid hbel
    by_cases hlt : k < M
    · have hol := wvN_len X Y k
      obtain ⟨x, hx⟩ : ∃ x, x = X.getD k 0 := ⟨_, rfl⟩
      obtain ⟨y, hy⟩ : ∃ y, y = Y.getD k 0 := ⟨_, rfl⟩
      have HE : Hid (wvN X Y (k + 1) = wvN X Y k ++ [x, y]) := Lib.hid (by rw [wvN_succ, hx, hy])
      obtain ⟨xs, hxs⟩ : ∃ xs, xs = wvN X Y k := ⟨_, rfl⟩
      rw [← hxs] at HOV HE hol hown
      replace hol : xs.length ≤ 480 := by omega
      have hrow := hown.row.alloc (Obj.cells #[Value.int IntKind.i64 x, Value.int IntKind.i64 y] 2)
      have hbsz := hown.base
      have i0' : (0 : Int) ≤ (k : Int) := by omega

      have dx : 0 ≤ x ∧ x < 10 := by
        by_cases h : k < X.length
        · rw [hx]; exact HXD.out k h
        · rw [hx, getD_out h]; omega
      have dy : 0 ≤ y ∧ y < 10 := by
        by_cases h : k < Y.length
        · rw [hy]; exact HYD.out k h
        · rw [hy, getD_out h]; omega
      by_cases hxl : k < X.length
      · by_cases hyl : k < Y.length
        · skip
          obtain ⟨_, _, a2, c2, he, _, hr⟩ := HO1b.out.below hbel (Nat.le_refl _)
          obtain ⟨gx, ox, ha, hbx, hcell⟩ := hr (by intro h0; rw [h0] at hxl; simp at hxl)
          simp only [Value.slice.injEq] at he
          obtain ⟨rfl, _, rfl⟩ := he
          subst ha
          have cx := hcell k hxl
          rw [← hx] at cx
          have jx : (k : Int) < (X.length : Int) := by omega
          clear hcell hr
          obtain ⟨_, _, a2, c2, he, _, hr⟩ := HO2.out.below hbel (Nat.le_refl _)
          obtain ⟨gy, oy, ha, hby, hcell⟩ := hr (by intro h0; rw [h0] at hyl; simp at hyl)
          simp only [Value.slice.injEq] at he
          obtain ⟨rfl, _, rfl⟩ := he
          subst ha
          have cy := hcell k hyl
          rw [← hy] at cy
          have jy : (k : Int) < (Y.length : Int) := by omega
          clear hcell hr
          have fx : -9223372036854775808 ≤ x ∧ (x : Int) ≤ 9223372036854775807 := by omega
          have fy : -9223372036854775808 ≤ y ∧ (y : Int) ≤ 9223372036854775807 := by omega
          clear hx hy hown hbel hxs
          go_wp2_with (at_builtin; refine wpList_append_own _ rfl _ _ 22 rfl w2.heap.size 2 i0 (.int .i64 0) 1 8 Try.underlying22 hi hz0 hz1 hz2 rfl (by decide) _ _ _ rfl hrow ⟨_, 0, none⟩ 2 2 [.int .i64 x, .int .i64 y] rfl rfl ?c1a ?c2a ?c3a ?c4a ?c5a ?_)
          case c2a => first | exact twoCells _ _ | exact ⟨rfl, rfl⟩
          case c3a => unfold maxLen; omega
          case c4a => omega
          case c5a => first | omega | (simp; omega)
          intro v' w3 hown1 hgrow _
          obtain ⟨ho, hb2⟩ := HOV.out.snoc2 fx fy (by omega) hown1 hgrow
          have HOF := Lib.hid ho
          have HBF := Lib.hid (HW.out.trans hb2)
          clear hown1 hgrow ho hb2 hrow
          go_wp2
          go_roundw
          case rel => exact ⟨k + 1, v', rfl, by omega, by go_num, by rw [HE.out]; exact HOF.out, HBF.out⟩
          case measure => simp [intOf]; omega
        · skip
          obtain ⟨_, _, a2, c2, he, _, hr⟩ := HO1b.out.below hbel (Nat.le_refl _)
          obtain ⟨gx, ox, ha, hbx, hcell⟩ := hr (by intro h0; rw [h0] at hxl; simp at hxl)
          simp only [Value.slice.injEq] at he
          obtain ⟨rfl, _, rfl⟩ := he
          subst ha
          have cx := hcell k hxl
          rw [← hx] at cx
          have jx : (k : Int) < (X.length : Int) := by omega
          clear hcell hr
          have jy : ¬ (k : Int) < (Y.length : Int) := by omega
          have zy : y = 0 := by rw [hy]; exact getD_out hyl
          obtain rfl := zy
          have fx : -9223372036854775808 ≤ x ∧ (x : Int) ≤ 9223372036854775807 := by omega
          have fy : -9223372036854775808 ≤ 0 ∧ (0 : Int) ≤ 9223372036854775807 := by omega
          clear hx hy hown hbel hxs
          go_wp2_with (at_builtin; refine wpList_append_own _ rfl _ _ 22 rfl w2.heap.size 2 i0 (.int .i64 0) 1 8 Try.underlying22 hi hz0 hz1 hz2 rfl (by decide) _ _ _ rfl hrow ⟨_, 0, none⟩ 2 2 [.int .i64 x, .int .i64 0] rfl rfl ?c1b ?c2b ?c3b ?c4b ?c5b ?_)
          case c2b => first | exact twoCells _ _ | exact ⟨rfl, rfl⟩
          case c3b => unfold maxLen; omega
          case c4b => omega
          case c5b => first | omega | (simp; omega)
          intro v' w3 hown1 hgrow _
          obtain ⟨ho, hb2⟩ := HOV.out.snoc2 fx fy (by omega) hown1 hgrow
          have HOF := Lib.hid ho
          have HBF := Lib.hid (HW.out.trans hb2)
          clear hown1 hgrow ho hb2 hrow
          go_wp2
          go_roundw
          case rel => exact ⟨k + 1, v', rfl, by omega, by go_num, by rw [HE.out]; exact HOF.out, HBF.out⟩
          case measure => simp [intOf]; omega
      · skip
        have hyl : k < Y.length := by omega
        have jx : ¬ (k : Int) < (X.length : Int) := by omega
        have zx : x = 0 := by rw [hx]; exact getD_out hxl
        obtain rfl := zx
        obtain ⟨_, _, a2, c2, he, _, hr⟩ := HO2.out.below hbel (Nat.le_refl _)
        obtain ⟨gy, oy, ha, hby, hcell⟩ := hr (by intro h0; rw [h0] at hyl; simp at hyl)
        simp only [Value.slice.injEq] at he
        obtain ⟨rfl, _, rfl⟩ := he
        subst ha
        have cy := hcell k hyl
        rw [← hy] at cy
        have jy : (k : Int) < (Y.length : Int) := by omega
        clear hcell hr
        have fx : -9223372036854775808 ≤ 0 ∧ (0 : Int) ≤ 9223372036854775807 := by omega
        have fy : -9223372036854775808 ≤ y ∧ (y : Int) ≤ 9223372036854775807 := by omega
        clear hx hy hown hbel hxs
        go_wp2_with (at_builtin; refine wpList_append_own _ rfl _ _ 22 rfl w2.heap.size 2 i0 (.int .i64 0) 1 8 Try.underlying22 hi hz0 hz1 hz2 rfl (by decide) _ _ _ rfl hrow ⟨_, 0, none⟩ 2 2 [.int .i64 0, .int .i64 y] rfl rfl ?c1c ?c2c ?c3c ?c4c ?c5c ?_)
        case c2c => first | exact twoCells _ _ | exact ⟨rfl, rfl⟩
        case c3c => unfold maxLen; omega
        case c4c => omega
        case c5c => first | omega | (simp; omega)
        intro v' w3 hown1 hgrow _
        obtain ⟨ho, hb2⟩ := HOV.out.snoc2 fx fy (by omega) hown1 hgrow
        have HOF := Lib.hid ho
        have HBF := Lib.hid (HW.out.trans hb2)
        clear hown1 hgrow ho hb2 hrow
        go_wp2
        go_roundw
        case rel => exact ⟨k + 1, v', rfl, by omega, by go_num, by rw [HE.out]; exact HOF.out, HBF.out⟩
        case measure => simp [intOf]; omega
    · obtain rfl : k = M := by omega
      have j1 : ¬ (k : Int) < (X.length : Int) := by omega
      have j2 : ¬ (k : Int) < (Y.length : Int) := by omega
      obtain ⟨ga, gc, hg⟩ := hown.shape
      have HRD := Lib.hid hown.rd
      have HBF := Lib.hid (HB2.out.trans (hbel.mono HB2.out.size))
      clear hown hbel HOV
      obtain ⟨Z, hZ⟩ : ∃ Z, Z = wvN X Y k := ⟨_, rfl⟩
      have hdz : Dig 10 Z := by rw [hZ]; exact HDIG.out k
      have HDZ := Lib.hid hdz
      rw [← hZ] at hg HRD HR1 HR2
      clear hZ hdz
      subst hg
      go_wp2_with fail
      refine (specJoin _ Z 10 _ HRD.out (by omega) (by omega) HDZ.out).mono ?_
      rintro e w4 ⟨r, rfl, ho, hb⟩
      have HBG := Lib.hid (HBF.out.trans (hb.mono HBF.out.size))
      have HOG := Lib.hid (ho.mono (B' := w.heap.size) HBF.out.size (Nat.le_refl _) (Nat.le_refl _))
      obtain ⟨ra, rc, hrs⟩ := ho.shape
      clear ho hb
      rcases eqOr (fdB Z 10) with hn | hn
      · have hL : weL ps qs = [] := by
          rw [HR1.out, fdL]
          cases hr : fdR Z 10 with
          | none => rfl
          | some V => rw [(fd_some hr).2] at hn; cases hn
        have HL := Lib.hid hL
        have HC : Hid (weC ps qs = 5) := Lib.hid (by rw [HR2.out, hn]; rfl)
        rw [hn]
        clear hn hL
        obtain ⟨Q, hQ⟩ : ∃ Q, Q = fdL Z 10 := ⟨_, rfl⟩
        rw [← hQ] at hrs
        clear hQ
        subst hrs
        go_wp2
        go_ret2
        exact ⟨_, by rw [HC.out] <;> rfl, by rw [HL.out]; exact Ow.emptyUp HBG.out.size, HBG.out⟩
      · have HC : Hid (weC ps qs = 0) := Lib.hid (by rw [HR2.out, hn]; rfl)
        rw [hn]
        clear hn
        obtain ⟨Q, hQ⟩ : ∃ Q, Q = fdL Z 10 := ⟨_, rfl⟩
        rw [← hQ] at hrs HOG HR1
        clear hQ
        subst hrs
        go_wp2
        go_ret2
        exact ⟨_, by rw [HC.out] <;> rfl, by rw [HR1.out]; exact HOG.out, HBG.out⟩
end Go.Proofs.Ytmbppdebpjgjnaa.Ints
