/- Fractions in lowest terms: the model's and the program's. -/
import Derived.Test.YtadfknafcamamaaFrcS
import Derived.Test.YtadfknafcamamaaFrcI
import Derived.BigRegion
import Derived.RegionTactic
namespace Go.Proofs.Ytadfknafcamamaa.Ints
open Go.RowKit
set_option linter.unusedVariables false
set_option linter.unusedSimpArgs false
theorem red_fit {rs : List Fra} (h : Fok rs) : FitFra (redL rs) := fun r hr => by
  simp only [redL, List.mem_map] at hr
  obtain ⟨q, hq, rfl⟩ := hr
  exact (h.mem q hq).red
set_option maxHeartbeats 4000000 in
set_option maxRecDepth 100000 in
theorem implReduced (x y : Int) (w : World) (h : FraOk ⟨x, y⟩) :
    Calls Try.prog 48 #[.agg #[.int .i64 x, .int .i64 y]] w fun e w' => e = .returned (.agg #[.int .i64 (x / gcdI x y), .int .i64 (y / gcdI x y)]) ∧ Below w.heap.size w w' := by
  obtain ⟨h1, h2⟩ := h
  dsimp only at h1 h2
  obtain ⟨m, rfl⟩ : ∃ m : Nat, x = (m : Int) := ⟨x.toNat, by omega⟩
  obtain ⟨n, rfl⟩ : ∃ n : Nat, y = (n : Int) := ⟨y.toNat, by omega⟩
  obtain ⟨G, hG⟩ : ∃ G, G = Nat.gcd m n := ⟨_, rfl⟩
  have e : Hid (gcdI (m : Int) (n : Int) = (G : Int)) := Lib.hid (by rw [hG]; simp [gcdI])
  have hGp : Hid (1 ≤ G ∧ G ≤ 999999) := Lib.hid (by have := gcdI_bd (b := (n : Int)) h1; rw [e.out] at this; omega)
  have HG := Lib.hid hG
  have H1 := Lib.hid h1
  have H2 := Lib.hid h2
  obtain ⟨W0, hW0⟩ : ∃ W, W = (w.alloc (Obj.cells #[.int .i64 (m : Int), .int .i64 (n : Int)] 58)).alloc (Obj.cells #[.int .i64 0, .int .i64 0] 58) := ⟨_, rfl⟩
  have hB0 : Below w.heap.size w W0 := by rw [hW0]; exact ((Below.refl _ _).alloc (Nat.le_refl _) _).alloc (by simp) _
  have k0 : Cels W0 w.heap.size 58 [.int .i64 (m : Int), .int .i64 (n : Int)] := by rw [hW0]; exact (Cels.new _ _ _).alloc _
  have k1 : Cels W0 (w.heap.size + 1) 58 [.int .i64 0, .int .i64 0] := by
    rw [hW0]
    have := Cels.new (w.alloc (Obj.cells #[.int .i64 (m : Int), .int .i64 (n : Int)] 58)) 58 [.int .i64 0, .int .i64 0]
    rwa [World.size_alloc] at this
  have HW0 := Lib.hid hW0.symm
  have HB0 := Lib.hid hB0
  have K0 := Lib.hid k0
  have K1 := Lib.hid k1
  have z0 := k0.cell 0 rfl
  have z1 := k0.cell 1 rfl
  clear hG h1 h2 hB0 k0 k1
  rw [hW0] at z0 z1
  clear hW0
  go_enter Try.func48, Try.ntmps48
  go_wp2
  go_quiet (fail)
  obtain ⟨W1, hW1⟩ : ∃ W, W = W0.drewN nq := ⟨_, rfl⟩
  rw [HW0.out, ← hW1]
  have hq : Below W0.heap.size W0 W1 := by rw [hW1]; exact below_drewN (Below.refl _ _) _
  have B1 := Lib.hid (HB0.out.trans (hq.mono HB0.out.size))
  have L0 := Lib.hid (K0.out.below hq K0.out.lt)
  have L1 := Lib.hid (K1.out.below hq K1.out.lt)
  clear hq hW1 z0 z1
  go_wp2
  go_loopw [3, 4] (fun s u wr => ∃ D K : Int, s = .int .i64 D ∧ u = .int .i64 K ∧ (1 ≤ D ∧ D ≤ 999999) ∧ (0 ≤ K ∧ K ≤ 999999) ∧ Nat.gcd D.toNat K.toNat = G ∧ Cels wr w.heap.size 58 [.int .i64 (m : Int), .int .i64 (n : Int)] ∧ Cels wr (w.heap.size + 1) 58 [.int .i64 0, .int .i64 0] ∧ Below w.heap.size w wr) (fun _ u _ => (intOf u).toNat)
  case atStart => exact ⟨(m : Int), (n : Int), rfl, rfl, H1.out, ⟨by have := H2.out; omega, H2.out.2⟩, HG.out.symm, L0.out, L1.out, B1.out⟩
  case round =>
    obtain ⟨D, K, rfl, rfl, hD, hK, hg, kc0, kc1, hb⟩ := hrel
    have HD := Lib.hid hD
    have HK := Lib.hid hK
    have HGG := Lib.hid hg
    have C0 := Lib.hid kc0
    have C1 := Lib.hid kc1
    have HB := Lib.hid hb
    clear kc0 kc1 hb hg
    by_cases hk : 0 < K
    · have HS : Hid (Nat.gcd K.toNat (D % K).toNat = G) := Lib.hid (by
        have := gcdI_step D.toNat K.toNat
        rw [HGG.out] at this
        have e2 : (D % K).toNat = D.toNat % K.toNat := by
          have h3 : D = ((D.toNat : Nat) : Int) := by omega
          have h4 : K = ((K.toNat : Nat) : Int) := by omega
          conv => lhs; rw [h3, h4]
          rw [← Int.natCast_emod]; rfl
        rw [e2]; exact this)
      obtain ⟨M, hM⟩ : ∃ M, M = D % K := ⟨_, rfl⟩
      have HM : Hid (0 ≤ M ∧ M < K) := Lib.hid (by rw [hM]; exact ⟨Int.emod_nonneg _ (by omega), Int.emod_lt_of_pos _ hk⟩)
      rw [← hM] at HS
      have e1 : D.tmod K = M := by rw [hM]; exact Int.tmod_eq_emod_of_nonneg (by omega)
      have k1 : ¬ K = 0 := by omega
      have ew : IntKind.i64.wrap M = M := by rw [IntKind.wrap_i64]; have := HM.out; omega
      have HQ : Hid (∀ q, Cels (wr.drewN q) w.heap.size 58 [.int .i64 (m : Int), .int .i64 (n : Int)] ∧ Cels (wr.drewN q) (w.heap.size + 1) 58 [.int .i64 0, .int .i64 0] ∧ Below w.heap.size w (wr.drewN q)) := Lib.hid (fun q => by
        have b : Below wr.heap.size wr (wr.drewN q) := below_drewN (Below.refl _ _) _
        exact ⟨C0.out.below b C0.out.lt, C1.out.below b C1.out.lt, HB.out.trans (b.mono HB.out.size)⟩)
      clear hM
      go_wp2
      go_quiet (fail)
      obtain ⟨a1, a2, a3⟩ := HQ.out nq
      have A1 := Lib.hid a1
      have A2 := Lib.hid a2
      have A3 := Lib.hid a3
      clear a1 a2 a3
      go_wp2
      go_roundw
      case rel => exact ⟨K, M, rfl, rfl, ⟨by omega, HK.out.2⟩, ⟨HM.out.1, by have := HM.out.2; have := HK.out.2; omega⟩, HS.out, A1.out, A2.out, A3.out⟩
      case measure => have := HM.out; simp [intOf]; omega
    · obtain rfl : K = 0 := by have := hK.1; omega
      obtain rfl : D = (G : Int) := by have := HGG.out; simp at this; omega
      have g1 : (1 : Int) ≤ (G : Int) := by have := hGp.out; omega
      have g0 : ¬ (G : Int) = 0 := by omega
      obtain ⟨q1, hq1⟩ : ∃ q, q = (m : Int) / (G : Int) := ⟨_, rfl⟩
      obtain ⟨q2, hq2⟩ : ∃ q, q = (n : Int) / (G : Int) := ⟨_, rfl⟩
      have b1 := div_bd H1.out g1
      have b2 := div_bd H2.out g1
      rw [← hq1] at b1
      rw [← hq2] at b2
      have t1 : (m : Int).tdiv (G : Int) = q1 := by rw [hq1]; exact Int.tdiv_eq_ediv_of_nonneg (by omega)
      have t2 : (n : Int).tdiv (G : Int) = q2 := by rw [hq2]; exact Int.tdiv_eq_ediv_of_nonneg (by omega)
      have w1 : IntKind.i64.wrap q1 = q1 := by rw [IntKind.wrap_i64]; omega
      have w2 : IntKind.i64.wrap q2 = q2 := by rw [IntKind.wrap_i64]; omega
      have HE : Hid ((m : Int) / gcdI m n = q1 ∧ (n : Int) / gcdI m n = q2) := Lib.hid (by rw [e.out]; exact ⟨hq1.symm, hq2.symm⟩)
      have z0 := C0.out.cell 0 rfl
      have z1 := C0.out.cell 1 rfl
      have y0 := C1.out.cell 0 rfl
      have y1 := C1.out.cell 1 rfl
      have f0 := C1.out.frozen 0
      have f1 := C1.out.frozen 1
      obtain ⟨gq, hgq⟩ : ∃ g : Int, g = (G : Int) := ⟨_, rfl⟩
      have s1 := C1.out.set 0 (.int .i64 q1)
      have y1' := s1.cell 1 rfl
      have f1' := s1.frozen 1
      have S2 := Lib.hid (s1.set 1 (.int .i64 q2))
      rw [← hgq] at g0 t1 t2 ⊢
      clear hq1 hq2 hk hD hK b1 b2 g1 hgq s1
      go_wp2
      go_region
      obtain ⟨W, hW⟩ : ∃ W, W = (wr.setCell ⟨w.heap.size + 1, 0, none⟩ (.int .i64 q1)).setCell ⟨w.heap.size + 1, 1, none⟩ (.int .i64 q2) := ⟨_, rfl⟩
      have f7 := S2.out
      have hB : Below w.heap.size w W := by
        rw [hW]
        exact below_set (below_set HB.out (by omega) _ _) (by omega) _ _
      rw [← hW] at f7 ⊢
      have x0 := f7.cell 0 rfl
      have x1 := f7.cell 1 rfl
      clear z0 z1 y0 y1 f0 f1 y1' f1' hW
      go_wp2
      refine bodyPost_ret (v := .agg #[.int .i64 q1, .int .i64 q2]) (by simp [results, Try.f48, go_sem, x0, x1]) rfl ⟨by rw [HE.out.1, HE.out.2], hB.drew⟩
set_option maxHeartbeats 2000000 in
theorem implMapRed (v : Value) (rs : List Fra) (w : World) (h : RdFra w v rs) (hok : Fok rs) :
    Calls Try.prog 47 #[v, .func (Fn.func 48) #[] #[]] w fun e w' => ∃ u, e = .returned u ∧ OwFra w' w.heap.size w'.heap.size u (redL rs) ∧ Below w.heap.size w w' := by
  have HFM := Lib.hid (red_fit hok)
  have HOK := Lib.hid hok
  have hl4 := hok.hi
  obtain ⟨hl, hf, a, c, rfl, hcap, hr⟩ := h
  have HR := Lib.hid hr
  clear hr hf hok
  go_enter Try.func47, Try.ntmps47
  go_wp2
  go_loopw [5, 10] (fun q s wr => ∃ k : Nat, k ≤ rs.length ∧ s = .int .i64 k ∧ OwFra wr w.heap.size wr.heap.size q (redL (rs.take k)) ∧ Below w.heap.size w wr) (fun _ s _ => rs.length - (intOf s).toNat)
  case atStart => exact ⟨0, Nat.zero_le _, rfl, OwFra.emptyUp (Nat.le_refl _), Below.refl _ _⟩
  case round =>
    obtain ⟨k, hk, rfl, hor, hbr⟩ := hrel
    obtain ⟨gq, cq, hq⟩ := hor.shape
    subst hq
    by_cases hlt : k < rs.length
    · obtain ⟨b, o, rfl, hb, hcell⟩ := HR.out (by intro h0; rw [h0] at hlt; simp at hlt)
      obtain ⟨c0, c1⟩ := hcell k hlt
      replace c0 := (hbr.cell (p := ⟨b, o + k * 2, none⟩) hb).trans c0
      replace c1 := (hbr.cell (p := ⟨b, o + k * 2 + 1, none⟩) hb).trans c1
      have HSN := Lib.hid (red_snoc rs k hlt)
      have hfk : (redF (rs.getD k zFra)).fit := (HOK.out.all k hlt).red
      have hok1 := HOK.out.all k hlt
      obtain ⟨r, hr0⟩ : ∃ r, r = rs.getD k zFra := ⟨_, rfl⟩
      rw [← hr0] at c0 c1 HSN hfk hok1
      obtain ⟨x, y⟩ := r
      dsimp only at c0 c1
      have HO1' := Lib.hid hok1
      obtain ⟨x', hx'⟩ : ∃ x', x' = x / gcdI x y := ⟨_, rfl⟩
      obtain ⟨y', hy'⟩ : ∃ y', y' = y / gcdI x y := ⟨_, rfl⟩
      have HE : Hid (redF ⟨x, y⟩ = ⟨x', y'⟩ ∧ x / gcdI x y = x' ∧ y / gcdI x y = y') := Lib.hid (by rw [hx', hy']; exact ⟨rfl, rfl, rfl⟩)
      rw [HE.out.1] at HSN hfk
      have hlr : (redL (rs.take k)).length ≤ 100 := by simp [redL]; omega
      obtain ⟨Z, hZ⟩ : ∃ Z, Z = redL (rs.take k) := ⟨_, rfl⟩
      rw [← hZ] at hor hlr HSN ⊢
      have HFK := Lib.hid hfk
      have HOR := Lib.hid hor
      have HBR := Lib.hid hbr
      have hb0 : ∀ ob : Obj, Hid (Below wr.heap.size wr (wr.alloc ob)) := fun ob => Lib.hid ((Below.refl _ _).alloc (Nat.le_refl _) ob)
      clear hcell hr0 hor hbr hZ hx' hy' hfk hok1
      go_wp2_with fail
      refine (implReduced x y _ HO1'.out).mono ?_
      rintro e1 w1 ⟨rfl, hb1⟩
      rw [HE.out.2.1, HE.out.2.2]
      have HBX := Lib.hid ((hb0 _).out.trans (hb1.mono (hb0 _).out.size))
      have HO1 := Lib.hid (HOR.out.below HBX.out (Nat.le_refl _)).up
      have HB1 := Lib.hid (HBR.out.trans (HBX.out.mono HBR.out.size))
      have hb6 : ∀ ob : Obj, Hid (Below w1.heap.size w1 (w1.alloc ob)) := fun ob => Lib.hid ((Below.refl _ _).alloc (Nat.le_refl _) ob)
      clear hb1
      go_wp2_with (at_builtin; refine wpList_append_Fra rfl _ _ rfl w.heap.size _ _ Z [⟨x', y'⟩] rfl (HO1.out.below (hb6 _).out (Nat.le_refl _)).row rfl (rdFra_one (Cels.new _ _ _) HFK.out) (by simp; omega) (Nat.le_trans HO1.out.base (hb6 _).out.size) ?_)
      intro v5 w5 hown6 hgrow6
      have HX := Lib.hid (HO1.out.snoc HFK.out (by omega) (by simpa [csFra_append, csFra_cons, Fra.cs] using hown6) hgrow6)
      have HB6 := Lib.hid (HB1.out.trans HX.out.2)
      clear hown6 hgrow6
      go_wp2
      go_roundw
      case rel => exact ⟨k + 1, by omega, by go_num, by rw [HSN.out]; exact HX.out.1, HB6.out⟩
      case measure => simp [intOf]; omega
    · obtain rfl : k = rs.length := by omega
      rw [List.take_length] at hor ⊢
      have HOR := Lib.hid hor
      have HBR := Lib.hid hbr
      clear hor hbr
      go_wp2
      go_ret
      exact ⟨_, rfl, HOR.out, HBR.out⟩
theorem implReduceFractions (v : Value) (rs : List Fra) (w : World) (h : RdFra w v rs) :
    Calls Try.prog 20 #[v] w fun e w' => ∃ u, e = .returned (.tuple #[u, .int .i64 (redC rs)]) ∧ OwFra w' w.heap.size w'.heap.size u (redR rs) ∧ Below w.heap.size w w' := by
  have H := Lib.hid h
  obtain ⟨_, _, a, c, rfl, _, _⟩ := h
  obtain ⟨ba, hba⟩ : ∃ b, b = frsB rs := ⟨_, rfl⟩
  have HA := Lib.hid hba
  clear hba
  go_enter Try.func20, Try.ntmps20
  go_wp2_with fail
  refine (implValidFractions _ rs _ H.out).mono ?_
  rintro e w1 ⟨rfl, hb1⟩
  rw [← HA.out]
  have HB1 := Lib.hid hb1
  clear hb1
  rcases eqOr ba with hb | hb
  · subst hb
    have e := Lib.hid (red_bad HA.out.symm)
    go_wp2_with fail
    go_ret2
    exact ⟨_, by rw [e.out.2] <;> rfl, by rw [e.out.1]; exact OwFra.emptyUp HB1.out.size, HB1.out⟩
  subst hb
  have e := Lib.hid (red_good HA.out.symm)
  go_wp2_with fail
  refine (implMapRed _ rs _ (H.out.below HB1.out (Nat.le_refl _)) (frsB_ok HA.out.symm)).mono ?_
  rintro e1 w3 ⟨u, rfl, ho, hb⟩
  have HO3 := Lib.hid (ho.mono HB1.out.size (Nat.le_refl _) (Nat.le_refl _))
  have HB3 := Lib.hid (HB1.out.trans (hb.mono HB1.out.size))
  clear ho hb
  go_wp2_with fail
  go_ret2
  exact ⟨_, by rw [e.out.2] <;> rfl, by rw [e.out.1]; exact HO3.out, HB3.out⟩
end Go.Proofs.Ytadfknafcamamaa.Ints
