/- The contract of the model's SetNumber. -/
import Derived.Test.YtmbppdebpjgjnaaSnI
namespace Go.Proofs.Ytmbppdebpjgjnaa.Ints
open Go.RowKit
set_option linter.unusedVariables false

theorem cellOne (w : World) (x : Int) : ∀ (j : Nat) (u : Value), [Value.int .i64 x][j]? = some u → (w.alloc (Obj.cells #[Value.int .i64 x] 2)).cell? ((⟨w.heap.size, 0, none⟩ : Addr).add j) = some u := by
  intro j u h
  match j, h with
  | 0, h => simp at h; subst h; simp [Addr.add, World.cell?_alloc_at]
def sLen (v : Value) : Nat := match v with | .slice _ m _ => m | _ => 0
/-- How many digits have been laid once k places have been marked. -/
def SnL (zs : List Int) (k L : Nat) : Prop := (k = 0 → L = 0) ∧ (0 < k → (L : Int) = zs.getD (k - 1) 0 + 1)
theorem SnL.low {zs : List Int} {k L : Nat} (h : SnL zs k L) (hi : Inc zs zs.length) (hk : k ≤ zs.length) : ∀ j, j < k → zs.getD j 0 < (L : Int) := by
  intro j hj
  have h1 := h.2 (by omega)
  by_cases he : j = k - 1
  · subst he; omega
  · have := hi.lt j (k - 1) (by omega) (by omega); omega
theorem SnL.le {zs : List Int} {k L x : Nat} (h : SnL zs k L) (hi : Inc zs zs.length) (hk : k < zs.length) (hx : (x : Int) = zs.getD k 0) : L ≤ x := by
  by_cases hk0 : k = 0
  · have := h.1 hk0; omega
  · have h1 := h.2 (by omega)
    have := hi.lt (k - 1) k (by omega) hk
    omega

set_option maxRecDepth 100000 in
set_option maxHeartbeats 8000000 in
theorem specSetNumber (v : Value) (zs : List Int) (w : World) (h : Rd w v zs) :
    Calls Try.prog 29 #[v] w fun e w' => ∃ r, e = .returned (.tuple #[r, .int .i64 (snC zs)]) ∧ Ow w' w.heap.size w'.heap.size r (snL zs) ∧ Below w.heap.size w w' := by
  have H := Lib.hid h
  obtain ⟨hl, hf, a, c, rfl, hcap, hr⟩ := h
  clear hr
  rcases eqOr (riseB zs) with hx | hx
  · have HX := Lib.hid hx
    have HS := Lib.hid (sn_bad hx)
    clear hx
    go_enter Try.func29, Try.ntmps29
    go_wp2_with fail
    refine (specRises _ zs _ H.out).mono ?_
    rintro e w1 ⟨rfl, hb⟩
    rw [HX.out]
    have HB := Lib.hid hb
    clear hb
    go_wp2
    go_ret2
    exact ⟨_, by rw [HS.out.2] <;> rfl, by rw [HS.out.1]; exact Ow.emptyUp HB.out.size, HB.out⟩
  have HX := Lib.hid hx
  have HRI := Lib.hid hx
  have HD := Lib.hid (riseB_iff hx)
  clear hx
  obtain ⟨i0, hi, hz0, hz1, hz2⟩ := info_parts infoE
  go_enter Try.func29, Try.ntmps29
  go_wp2_with fail
  refine (specRises _ zs _ H.out).mono ?_
  rintro e w1 ⟨rfl, hb⟩
  rw [HX.out]
  have HB := Lib.hid hb
  have H1 := Lib.hid (H.out.below hb (Nat.le_refl _))
  have HB3 := Lib.hid ((Below.refl w1.heap.size w1).alloc (Nat.le_refl _) (Obj.cells #[] 2))
  have HM : Hid (Ow (w1.alloc (.cells #[] 2)) w1.heap.size (w1.alloc (.cells #[] 2)).heap.size (.slice (some ⟨w1.heap.size, 0, none⟩) 0 0) (snZ zs 0 0)) := Lib.hid (Ow.made w1)
  clear hb
  go_wp2
  go_loopw [4, 5] (fun o s wr => ∃ (k L : Nat) (ov : Value), o = ov ∧ k ≤ zs.length ∧ s = .int .i64 k ∧ (SnL zs k L ∧ L ≤ 800) ∧ Ow wr w1.heap.size wr.heap.size ov (snZ zs k L) ∧ Below w1.heap.size w1 wr) (fun _ s _ => zs.length - (intOf s).toNat)
  case atStart => exact ⟨0, 0, _, rfl, Nat.zero_le _, rfl, ⟨⟨fun _ => rfl, fun h => by omega⟩, by omega⟩, HM.out, HB3.out⟩
  case round =>
    obtain ⟨k, L, ov, hov, hk, rfl, hSL, hown, hbel⟩ := hrel
    obtain rfl := hov.symm
    have HOV := Lib.hid hown
    have HW := Lib.hid hbel
    have HSL := Lib.hid hSL
    clear hSL
    by_cases hlt : k < zs.length
    · obtain ⟨_, _, a2, c2, he, _, hr⟩ := H1.out.below hbel (Nat.le_refl _)
      obtain ⟨gx, ox, ha, hbx, hcell⟩ := hr (by intro h0; rw [h0] at hlt; simp at hlt)
      simp only [Value.slice.injEq] at he
      obtain ⟨rfl, _, rfl⟩ := he
      subst ha
      have cx := hcell k hlt
      have hxb := HD.out.2 k hlt
      obtain ⟨x, hx⟩ : ∃ x : Nat, (x : Int) = zs.getD k 0 := ⟨(zs.getD k 0).toNat, by omega⟩
      rw [← hx] at cx hxb
      have HLX := Lib.hid (HSL.out.1.le HD.out.1 hlt hx)
      have HLOW := Lib.hid (HSL.out.1.low HD.out.1 hk)
      have i0' : (0 : Int) ≤ (k : Int) := by omega
      have i1 : (k : Int) < (zs.length : Int) := by omega
      have hx8 : x < 800 := by omega
      have HXX := Lib.hid hx
      have HC : Hid (∀ W, Below w1.heap.size w1 W → W.cell? ⟨gx, ox + k, none⟩ = some (.int .i64 (x : Int))) := Lib.hid (fun W hW => by
        obtain ⟨_, _, a2, c2, he, _, hr⟩ := H1.out.below hW (Nat.le_refl _)
        obtain ⟨gy, oy, ha, hby, hcell2⟩ := hr (by intro h0; rw [h0] at hlt; simp at hlt)
        simp only [Value.slice.injEq] at he
        obtain ⟨e1, _, _⟩ := he
        rw [ha] at e1
        simp only [Option.some.injEq, Addr.mk.injEq] at e1
        obtain ⟨rfl, rfl, _⟩ := e1
        rw [hcell2 k hlt, HXX.out])
      clear hcell hr hx hown hbel hxb cx
      go_wp2
      go_loopw [4] (fun o wx => ∃ (L2 : Nat) (ov : Value), o = ov ∧ (L ≤ L2 ∧ L2 ≤ x) ∧ Ow wx w1.heap.size wx.heap.size ov (snZ zs k L2) ∧ Below w1.heap.size w1 wx) (fun o _ => x - sLen o)
      case atStart => exact ⟨L, _, rfl, ⟨Nat.le_refl _, HLX.out⟩, HOV.out, HW.out⟩
      case round =>
        obtain ⟨L2, ov2, hov2, ⟨hL1, hL2⟩, hown, hbel⟩ := hrel
        obtain rfl := hov2.symm
        have cx := HC.out _ hbel
        have HOV2 := Lib.hid hown
        have HW2 := Lib.hid hbel
        have hsl := snZ_len zs k L2
        have HP := Lib.hid (snZ_pad (zs := zs) (i := k) (n := L2) (fun j hj => by have := HLOW.out j hj; omega))
        have HO1 : Hid (L2 = x → snZ zs (k + 1) (x + 1) = snZ zs k L2 ++ [1]) := Lib.hid (fun e => by rw [e]; exact snZ_one HXX.out.symm)
        obtain ⟨xs, hxs⟩ : ∃ xs, xs = snZ zs k L2 := ⟨_, rfl⟩
        rw [← hxs] at HOV2 HP HO1 hsl hown
        obtain ⟨ga, gc, rfl⟩ := hown.shape
        have hbsz := hown.base
        by_cases hlt2 : L2 < x
        · have hrow := hown.row.alloc (Obj.cells #[Value.int IntKind.i64 0] 2)
          have q1 : (xs.length : Int) < (x : Int) := by omega
          have q2 : xs.length ≤ 800 := by omega
          have HSL2 := Lib.hid hsl
          clear hown hbel hxs hsl
          go_wp2_with (at_builtin; refine wpList_append_own _ rfl _ _ 22 rfl w1.heap.size 2 i0 (.int .i64 0) 1 8 Try.underlying22 hi hz0 hz1 hz2 rfl (by decide) _ _ _ rfl hrow ⟨_, 0, none⟩ 1 1 [.int .i64 0] rfl rfl ?c1 ?c2 ?c3 ?c4 ?c5 ?_)
          case c1 => exact cellOne _ _
          case c2 => first | exact oneCell _ | rfl
          case c3 => unfold maxLen; omega
          case c4 => omega
          case c5 => first | omega | (simp; omega)
          intro v' w3 hown1 hgrow _
          obtain ⟨ho, hb2⟩ := HOV2.out.snoc (by omega) (by omega) hown1 hgrow
          have hsh := ho.shape
          have HO2 := Lib.hid ho
          have HB2 := Lib.hid (HW2.out.trans hb2)
          clear hown1 hgrow ho hb2 hrow
          obtain ⟨ra, rc, rfl⟩ := hsh
          go_wp2
          go_roundw
          case rel => exact ⟨L2 + 1, _, rfl, ⟨by omega, by omega⟩, by rw [HP.out]; exact HO2.out, HB2.out⟩
          case measure => have := HSL2.out; simp [sLen]; omega
        · have q1 : ¬ (xs.length : Int) < (x : Int) := by omega
          have hLx : L2 = x := by omega
          have HE := Lib.hid (HO1.out hLx)
          have hrow := hown.row.alloc (Obj.cells #[Value.int IntKind.i64 1] 2)
          have q2 : xs.length ≤ 800 := by omega
          clear hown hbel hxs hsl hLx
          go_wp2_with (at_builtin; refine wpList_append_own _ rfl _ _ 22 rfl w1.heap.size 2 i0 (.int .i64 0) 1 8 Try.underlying22 hi hz0 hz1 hz2 rfl (by decide) _ _ _ rfl hrow ⟨_, 0, none⟩ 1 1 [.int .i64 1] rfl rfl ?d1 ?d2 ?d3 ?d4 ?d5 ?_)
          case d2 => first | exact oneCell _ | rfl
          case d3 => unfold maxLen; omega
          case d4 => omega
          case d5 => first | omega | (simp; omega)
          intro v' w3 hown1 hgrow _
          obtain ⟨ho, hb2⟩ := HOV2.out.snoc (by omega) (by omega) hown1 hgrow
          have HO2 := Lib.hid ho
          have HB2 := Lib.hid (HW2.out.trans hb2)
          clear hown1 hgrow ho hb2 hrow
          go_wp2
          go_roundw
          case rel => exact ⟨k + 1, x + 1, v', rfl, by omega, by go_num, ⟨⟨fun h => by omega, fun _ => by rw [show k + 1 - 1 = k by omega, ← HXX.out]; omega⟩, by omega⟩, by rw [HE.out]; exact HO2.out, HB2.out⟩
          case measure => simp [intOf]; omega
    · obtain rfl : k = zs.length := by omega
      have i1 : ¬ (zs.length : Int) < (zs.length : Int) := by omega
      have HS := Lib.hid (sn_short HRI.out (HSL.out.1.low HD.out.1 (Nat.le_refl _)) HSL.out.2)
      obtain ⟨ga, gc, hg⟩ := hown.shape
      have HRD := Lib.hid hown.rd
      have HBF := Lib.hid (HB.out.trans (hbel.mono HB.out.size))
      clear hown hbel HOV
      obtain ⟨Z, hZ⟩ : ∃ Z, Z = snZ zs zs.length L := ⟨_, rfl⟩
      have hdz : Dig 2 Z := by rw [hZ]; exact snZ_dig _ _ _
      have HDZ := Lib.hid hdz
      rw [← hZ] at hg HRD HS
      clear hZ hdz
      subst hg
      go_wp2_with fail
      refine (specJoin _ Z 2 _ HRD.out (by omega) (by omega) HDZ.out).mono ?_
      rintro e w4 ⟨r, rfl, ho, hb⟩
      have HBG := Lib.hid (HBF.out.trans (hb.mono HBF.out.size))
      have HOG := Lib.hid (ho.mono (B' := w.heap.size) HBF.out.size (Nat.le_refl _) (Nat.le_refl _))
      obtain ⟨ra, rc, hrs⟩ := ho.shape
      clear ho hb
      rcases eqOr (fdB Z 2) with hn | hn
      · have hL : snL zs = [] := by
          rw [HS.out.1, fdL]
          cases hr : fdR Z 2 with
          | none => rfl
          | some V => rw [(fd_some hr).2] at hn; cases hn
        have HL := Lib.hid hL
        have HC : Hid (snC zs = 5) := Lib.hid (by rw [HS.out.2, hn]; rfl)
        rw [hn]
        clear hn hL
        obtain ⟨Q, hQ⟩ : ∃ Q, Q = fdL Z 2 := ⟨_, rfl⟩
        rw [← hQ] at hrs
        clear hQ
        subst hrs
        go_wp2
        go_ret2
        exact ⟨_, by rw [HC.out] <;> rfl, by rw [HL.out]; exact Ow.emptyUp HBG.out.size, HBG.out⟩
      · have HC : Hid (snC zs = 0) := Lib.hid (by rw [HS.out.2, hn]; rfl)
        have HL := Lib.hid HS.out.1
        rw [hn]
        clear hn
        obtain ⟨Q, hQ⟩ : ∃ Q, Q = fdL Z 2 := ⟨_, rfl⟩
        rw [← hQ] at hrs HOG HL
        clear hQ
        subst hrs
        go_wp2
        go_ret2
        exact ⟨_, by rw [HC.out] <;> rfl, by rw [HL.out]; exact HOG.out, HBG.out⟩
end Go.Proofs.Ytmbppdebpjgjnaa.Ints
