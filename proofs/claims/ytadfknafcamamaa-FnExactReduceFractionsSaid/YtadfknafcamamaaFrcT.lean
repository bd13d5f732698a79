/- ReduceFractions: the model's. -/
import Derived.Test.YtadfknafcamamaaFrcR
import Derived.Deep.RegionLaw
namespace Go.Proofs.Ytadfknafcamamaa.Ints
open Go.RowKit
set_option linter.unusedVariables false
set_option linter.unusedSimpArgs false
set_option maxHeartbeats 4000000 in
set_option maxRecDepth 100000 in
theorem specReduceFractions (v : Value) (rs : List Fra) (w : World) (h : RdFra w v rs) :
    Calls Try.prog 19 #[v] w fun e w' => ∃ u, e = .returned (.tuple #[u, .int .i64 (redC rs)]) ∧ OwFra w' w.heap.size w'.heap.size u (redR rs) ∧ Below w.heap.size w w' := by
  have H := Lib.hid h
  obtain ⟨hl, hf, a, c, rfl, hcap, hr⟩ := h
  have HR := Lib.hid hr
  obtain ⟨ba, hba⟩ : ∃ b, b = frsB rs := ⟨_, rfl⟩
  have HA := Lib.hid hba
  clear hba hr hf
  go_enter Try.func19, Try.ntmps19
  go_wp2_with fail
  refine (specFIs _ rs _ H.out).mono ?_
  rintro e w1 ⟨rfl, rfl⟩
  rw [← HA.out]
  rcases eqOr ba with hb | hb
  · subst hb
    have e := Lib.hid (red_bad HA.out.symm)
    go_wp2_with fail
    go_ret2
    exact ⟨_, by rw [e.out.2] <;> rfl, by rw [e.out.1]; exact OwFra.emptyUp (Nat.le_refl _), Below.refl _ _⟩
  subst hb
  have e := Lib.hid (red_good HA.out.symm)
  have HOK := Lib.hid (frsB_ok HA.out.symm)
  have HB1 := Lib.hid ((Below.refl w.heap.size w).alloc (Nat.le_refl _) (.cells #[] 58))
  go_wp2
  go_loopw [4, 5] (fun q s wr => ∃ k : Nat, k ≤ rs.length ∧ s = .int .i64 k ∧ OwFra wr w.heap.size wr.heap.size q (redL (rs.take k)) ∧ Below w.heap.size w wr) (fun _ s _ => rs.length - (intOf s).toNat)
  case atStart => exact ⟨0, Nat.zero_le _, rfl, OwFra.made w, HB1.out⟩
  case round =>
    obtain ⟨k, hk, rfl, hor, hbr⟩ := hrel
    obtain ⟨gq, cq, hq⟩ := hor.shape
    subst hq
    by_cases hlt : k < rs.length
    rotate_left
    · obtain rfl : k = rs.length := by omega
      rw [List.take_length] at hor ⊢
      have HOR := Lib.hid hor
      have HBR := Lib.hid hbr
      clear hor hbr
      go_wp2
      go_ret2
      exact ⟨_, by rw [e.out.2] <;> rfl, by rw [e.out.1]; exact HOR.out, HBR.out⟩
    obtain ⟨b, o, rfl, hb, hcell⟩ := HR.out (by intro h0; rw [h0] at hlt; simp at hlt)
    obtain ⟨c0, c1⟩ := hcell k hlt
    have HC0 : Hid (∀ W, Below w.heap.size w W → W.cell? ⟨b, o + k * 2, none⟩ = some (.int .i64 (rs.getD k zFra).up) ∧ W.cell? ⟨b, o + k * 2 + 1, none⟩ = some (.int .i64 (rs.getD k zFra).dn)) := Lib.hid (fun W hW => ⟨(hW.cell (p := ⟨b, o + k * 2, none⟩) hb).trans c0, (hW.cell (p := ⟨b, o + k * 2 + 1, none⟩) hb).trans c1⟩)
    have HSN := Lib.hid (red_snoc rs k hlt)
    have hok1 := HOK.out.all k hlt
    have hfk : (redF (rs.getD k zFra)).fit := hok1.red
    have hl4 := HOK.out.hi
    obtain ⟨r, hr0⟩ : ∃ r, r = rs.getD k zFra := ⟨_, rfl⟩
    rw [← hr0] at HC0 HSN hfk hok1
    obtain ⟨x, y⟩ := r
    dsimp only at HC0
    obtain ⟨h1, h2⟩ := hok1
    dsimp only at h1 h2
    have H1 := Lib.hid h1
    have H2 := Lib.hid h2
    obtain ⟨G, hG⟩ : ∃ G, G = gcdI x y := ⟨_, rfl⟩
    have hgb := gcdI_bd (b := y) h1
    rw [← hG] at hgb
    obtain ⟨x', hx'⟩ : ∃ x', x' = x / G := ⟨_, rfl⟩
    obtain ⟨y', hy'⟩ : ∃ y', y' = y / G := ⟨_, rfl⟩
    have HE : Hid (redF ⟨x, y⟩ = ⟨x', y'⟩) := Lib.hid (by rw [hx', hy', hG]; rfl)
    rw [HE.out] at HSN hfk
    have b1 := div_bd h1 hgb.1
    have b2 := div_bd h2 hgb.1
    rw [← hx'] at b1
    rw [← hy'] at b2
    have t1 : x.tdiv G = x' := by rw [hx']; exact Int.tdiv_eq_ediv_of_nonneg (by omega)
    have t2 : y.tdiv G = y' := by rw [hy']; exact Int.tdiv_eq_ediv_of_nonneg (by omega)
    have w1 : IntKind.i64.wrap x' = x' := by rw [IntKind.wrap_i64]; omega
    have w2 : IntKind.i64.wrap y' = y' := by rw [IntKind.wrap_i64]; omega
    have g0 : ¬ G = 0 := by omega
    have HGC : Hid (gcdI x y = G) := Lib.hid hG.symm
    have hlr : (redL (rs.take k)).length ≤ 100 := by simp [redL]; omega
    obtain ⟨Z, hZ⟩ : ∃ Z, Z = redL (rs.take k) := ⟨_, rfl⟩
    rw [← hZ] at hor hlr HSN ⊢
    have HFK := Lib.hid hfk
    have HOR := Lib.hid hor
    have HBR := Lib.hid hbr
    have n0 : (0 : Int) ≤ (k : Int) := by omega
    have n1 : (k : Int) < (rs.length : Int) := by omega
    obtain ⟨d0, d1⟩ := HC0.out _ hbr
    clear hcell hr0 hor hbr hZ hx' hy' hfk hG hgb h1 h2 c0 c1 b1 b2
    go_wp2
    go_quiet ((go_at_call 46; exact Calls.quiet_of_same ((specGcd x y _ H1.out H2.out).mono (fun e w' q => ⟨q.1.trans (by rw [HGC.out]), q.2.symm⟩))))
    obtain ⟨W2, hW2⟩ : ∃ W, W = wr.drewN nq := ⟨_, rfl⟩
    have hq : Below wr.heap.size wr W2 := by rw [hW2]; exact below_drewN (Below.refl _ _) _
    rw [← hW2]
    have HO2 := Lib.hid (HOR.out.below hq (Nat.le_refl _)).up
    have HB2 := Lib.hid (HBR.out.trans (hq.mono HBR.out.size))
    clear hq hW2 d0 d1
    have HD : Hid (Below W2.heap.size W2 W2.drew) := Lib.hid (Below.refl _ _).drew
    obtain ⟨d0, d1⟩ := HC0.out _ HB2.out
    go_wp2
    go_region_law ((refine step_append_Fra (by rfl) _ _ (by rfl) w.heap.size _ _ Z [⟨x', y'⟩] (by rfl) (HO2.out.below (HD.out.alloc HD.out.size _) (Nat.le_refl _)).row (by rfl) (rdFra_one (Cels.new _ _ _) HFK.out) (by simp; omega) (Nat.le_trans HO2.out.base (HD.out.alloc HD.out.size _).size) ?_; intro v' w4 hown4 hgrow4; have HX := Lib.hid ((HO2.out.below HD.out (Nat.le_refl _)).snoc HFK.out (by omega) (by simpa [csFra_append, csFra_cons, Fra.cs] using hown4) hgrow4); clear hown4 hgrow4))
    all_goals
      go_wp2
      go_roundw
      case rel => exact ⟨k + 1, by omega, by go_num, by rw [HSN.out]; exact HX.out.1, (HB2.out.trans (HD.out.mono HB2.out.size)).trans HX.out.2⟩
      case measure => simp [intOf]; omega
end Go.Proofs.Ytadfknafcamamaa.Ints
