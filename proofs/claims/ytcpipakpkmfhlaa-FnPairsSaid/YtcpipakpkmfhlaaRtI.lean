/- Square roots, of the program. -/
import Derived.Test.YtcpipakpkmfhlaaAbvI
import Derived.Test.YtcpipakpkmfhlaaRtS
namespace Go.Proofs.Ytcpipakpkmfhlaa.Ints
open Go.RowKit
set_option linter.unusedVariables false
set_option linter.unusedSimpArgs false
theorem implAbv (u : Value) (ps : List Int) (w : World) (hu : Rd w u ps) (hp : Can ps) (h1 : 1 ≤ ps.length) (hla : ps.length ≤ 100) :
    Calls Try.prog 56 #[u] w fun e w' => ∃ r X, e = .returned r ∧ Ow w' w.heap.size w'.heap.size r (canOf X) ∧ 0 < X ∧ isq (val ps) ≤ X ∧ (canOf X).length ≤ 60 ∧ Below w.heap.size w w' := callsIn_wide.1 (implAbv_in u ps w hu hp h1 hla)
theorem isq_zero : isq 0 = 0 := isq_uniq (by decide) (by decide) (by decide)
/-- A step of Newton's. -/
theorem newton_step {N X : Int} (h : 0 ≤ N) (hN : N < Pw 100) (x0 : 0 < X) (hx : isq N ≤ X) (h1 : 1 ≤ isq N) (hl : (canOf X).length ≤ 60) :
    Nn 60 X ∧ Nn 100 (N / X) ∧ Nn 101 (X + N / X) ∧ Can (canOf ((X + N / X) / 2)) ∧ val (canOf ((X + N / X) / 2)) = (X + N / X) / 2 ∧ 0 < (X + N / X) / 2 ∧ isq N ≤ (X + N / X) / 2 ∧
      (¬ X ≤ (X + N / X) / 2 → (canOf ((X + N / X) / 2)).length ≤ 60) ∧ (X ≤ (X + N / X) / 2 → X = isq N) := by
  obtain ⟨c1, c2⟩ := canOf_spec (v := X) (by omega)
  have n1 : Nn 60 X := ⟨by omega, by
    have h2 := val_lt c1.1
    have h3 := Pw_mono (a := (canOf X).length) (b := 60) hl
    omega⟩
  have nN : Nn 100 N := ⟨h, hN⟩
  have n2 := nN.div (d := X) (by omega)
  have n3 := (n1.up (l := 100) (by omega)).add n2
  have n4 := n3.div (d := 2) (by omega)
  have n5 := n4.can
  have g := newton_ge h x0 hx
  refine ⟨n1, n2, n3, n5.1, n5.2.1, by omega, g, fun hc => ?_, fun hc => newton_stop h x0 hx hc⟩
  exact can_len n5.1 (by rw [n5.2.1]; have := n1.lt; omega)
set_option maxRecDepth 100000 in
set_option maxHeartbeats 4000000 in
theorem implRt (u : Value) (ps : List Int) (w : World) (hu : Rd w u ps) (hp : Can ps) (hla : ps.length ≤ 100) :
    Calls Try.prog 40 #[u] w fun e w' => ∃ r, e = .returned r ∧ Ow w' w.heap.size w'.heap.size r (canOf (isq (val ps))) ∧ Below w.heap.size w w' := by
  have HU := Lib.hid hu
  have HP := Lib.hid hp
  obtain ⟨_, _, a, c, rfl, _, _⟩ := hu
  by_cases hz : 0 < ps.length
  · have z1 : ((ps.length : Int) == 0) = false := by rw [beq_eq_false_iff_ne]; omega
    have z2 : ¬ (ps.length : Int) = 0 := by omega
    obtain ⟨N, hN⟩ : ∃ N, N = val ps := ⟨_, rfl⟩
    have hN0 : 0 < N := by rw [hN]; exact val_pos hp hz
    have HN1 : Hid (0 ≤ N ∧ N < Pw 100 ∧ 1 ≤ isq N) := Lib.hid ⟨by omega, by
      have h2 := val_lt hp.1
      have h3 := Pw_mono (a := ps.length) (b := 100) hla
      omega, isq_pos (by omega)⟩
    have HN := Lib.hid hN
    rw [← hN]
    clear hp hN hN0
    go_enter Try.func40, Try.ntmps40
    go_wp2_with fail
    refine (implAbv _ ps _ HU.out HP.out (by omega) hla).mono ?_
    rintro e w1 ⟨r, X, rfl, ho, x0, x1, x2, hb⟩
    have HO := Lib.hid ho
    have HX := Lib.hid (And.intro x0 (And.intro (by rw [HN.out]; exact x1 : isq N ≤ X) x2))
    have HB := Lib.hid hb
    clear ho x0 x1 x2 hb
    go_wp2
    go_loopw [3] (fun x wr => ∃ (X : Int) (r : Value), x = r ∧ 0 < X ∧ isq N ≤ X ∧ (canOf X).length ≤ 60 ∧ Ow wr w.heap.size wr.heap.size r (canOf X) ∧ Below w.heap.size w wr) (fun x wr => rdVal wr x)
    case atStart => exact ⟨X, _, rfl, HX.out.1, HX.out.2.1, HX.out.2.2, HO.out, HB.out⟩
    case round =>
      obtain ⟨X, r, hxv, x0, x1, x2, ho, hb⟩ := hrel
      obtain rfl := hxv.symm
      have HO := Lib.hid ho
      have HB := Lib.hid hb
      have HC := Lib.hid (canOf_spec (v := X) (by omega))
      have HS := Lib.hid (newton_step HN1.out.1 HN1.out.2.1 x0 x1 HN1.out.2.2 x2)
      have HX := Lib.hid (And.intro x0 (And.intro x1 x2))
      have hlen : 0 < (canOf X).length := by
        rcases Nat.eq_zero_or_pos (canOf X).length with h | h
        · have h1 := List.length_eq_zero_iff.1 h
          have h2 := HC.out.2
          rw [h1] at h2
          simp only [val] at h2
          omega
        · exact h
      have HL := Lib.hid hlen
      obtain ⟨Y, hY⟩ : ∃ Y, Y = (X + N / X) / 2 := ⟨_, rfl⟩
      have HY := Lib.hid hY
      obtain ⟨z, hz⟩ : ∃ z, z = cmpN (canOf Y) (canOf X) := ⟨_, rfl⟩
      have hz' : z = sgn Y X := by
        rw [hz, cmpN_val (by rw [hY]; exact HS.out.2.2.2.1) HC.out.1, HC.out.2, hY, HS.out.2.2.2.2.1]
      have HZ := Lib.hid hz
      clear ho hb x0 x1 x2 hlen hz hY
      by_cases hc : X ≤ Y
      · have p1 : 0 ≤ z := by rw [hz', sgn, if_neg (by omega)]; split <;> decide
        have HEq : Hid (X = isq N) := Lib.hid (HS.out.2.2.2.2.2.2.2.2 (by rw [← HY.out]; exact hc))
        clear hz' hc
        go_wp2_with fail
        refine (implDv _ _ ps (canOf X) _ (HU.out.below HB.out (Nat.le_refl _)) HO.out.rd HP.out HC.out.1 (by omega) HL.out).mono ?_
        rintro e w2 ⟨r0, r1, rfl, o0, o1, sp, hb⟩
        rw [HC.out.2, ← HN.out] at o0
        have HQ := Lib.hid o0.rd
        have HR2 := Lib.hid (HO.out.below hb (Nat.le_refl _))
        have HB2 := Lib.hid (HB.out.trans (hb.mono HB.out.size))
        clear o0 o1 sp hb
        go_wp2_with fail
        refine (iAdd _ _ X (N / X) 100 _ HR2.out.rd HQ.out (HS.out.1.up (by omega)) HS.out.2.1 (by omega)).mono ?_
        rintro e w3 ⟨r3, rfl, o3, hb⟩
        have HA := Lib.hid o3.rd
        have HR3 := Lib.hid (HR2.out.below hb HR2.out.size)
        have HB3 := Lib.hid (HB2.out.trans (hb.mono HB2.out.size))
        clear o3 hb
        go_wp2_with fail
        refine (implBy _ (canOf (X + N / X)) 2 _ HA.out HS.out.2.2.1.can.1.1 (by have := HS.out.2.2.1.can.2.2; omega) (by omega) (by omega)).mono ?_
        rintro e w4 ⟨r4, rfl, o4, hb⟩
        rw [HS.out.2.2.1.can.2.1, ← HY.out] at o4
        have HD := Lib.hid o4.rd
        have HR4 := Lib.hid (HR3.out.below hb HR3.out.size)
        have HB4 := Lib.hid (HB3.out.trans (hb.mono HB3.out.size))
        clear o4 hb
        go_wp2_with fail
        refine (implCmpLimbs _ _ (canOf Y) (canOf X) _ HD.out HR4.out.rd).mono ?_
        rintro e w5 ⟨rfl, hb⟩
        rw [← HZ.out]
        have HR5 := Lib.hid ((HR4.out.below hb HR4.out.size).up)
        have HB5 := Lib.hid (HB4.out.trans (hb.mono HB4.out.size))
        clear hb
        go_wp2
        go_ret
        exact ⟨_, rfl, by rw [← HEq.out]; exact HR5.out, HB5.out⟩
      · have p1 : ¬ 0 ≤ z := by rw [hz', sgn, if_pos (by omega)]; decide
        have hlt : Y < X := by omega
        have HLt := Lib.hid hlt
        have HF : Hid (0 < Y ∧ isq N ≤ Y ∧ (canOf Y).length ≤ 60 ∧ val (canOf Y) = Y) := Lib.hid (by
          have h := HS.out.2.2.2.2
          rw [← HY.out] at h
          exact ⟨h.2.1, h.2.2.1, h.2.2.2.1 hc, h.1⟩)
        clear hz' hc hlt
        go_wp2_with fail
        refine (implDv _ _ ps (canOf X) _ (HU.out.below HB.out (Nat.le_refl _)) HO.out.rd HP.out HC.out.1 (by omega) HL.out).mono ?_
        rintro e w2 ⟨r0, r1, rfl, o0, o1, sp, hb⟩
        rw [HC.out.2, ← HN.out] at o0
        have HQ := Lib.hid o0.rd
        have HR2 := Lib.hid (HO.out.below hb (Nat.le_refl _))
        have HB2 := Lib.hid (HB.out.trans (hb.mono HB.out.size))
        clear o0 o1 sp hb
        go_wp2_with fail
        refine (iAdd _ _ X (N / X) 100 _ HR2.out.rd HQ.out (HS.out.1.up (by omega)) HS.out.2.1 (by omega)).mono ?_
        rintro e w3 ⟨r3, rfl, o3, hb⟩
        have HA := Lib.hid o3.rd
        have HR3 := Lib.hid (HR2.out.below hb HR2.out.size)
        have HB3 := Lib.hid (HB2.out.trans (hb.mono HB2.out.size))
        clear o3 hb
        go_wp2_with fail
        refine (implBy _ (canOf (X + N / X)) 2 _ HA.out HS.out.2.2.1.can.1.1 (by have := HS.out.2.2.1.can.2.2; omega) (by omega) (by omega)).mono ?_
        rintro e w4 ⟨r4, rfl, o4, hb⟩
        rw [HS.out.2.2.1.can.2.1, ← HY.out] at o4
        have HD := Lib.hid (o4.mono HB3.out.size (Nat.le_refl _) (Nat.le_refl _))
        have HR4 := Lib.hid (HR3.out.below hb HR3.out.size)
        have HB4 := Lib.hid (HB3.out.trans (hb.mono HB3.out.size))
        clear o4 hb
        go_wp2_with fail
        refine (implCmpLimbs _ _ (canOf Y) (canOf X) _ HD.out.rd HR4.out.rd).mono ?_
        rintro e w5 ⟨rfl, hb⟩
        rw [← HZ.out]
        have HD5 := Lib.hid ((HD.out.below hb (Nat.le_refl _)).up)
        have HB5 := Lib.hid (HB4.out.trans (hb.mono HB4.out.size))
        clear hb
        go_wp2
        go_roundw
        case rel => exact ⟨Y, _, rfl, HF.out.1, HF.out.2.1, HF.out.2.2.1, HD5.out, HB5.out⟩
        case measure =>
          rw [rdVal_eq HD5.out.rd, rdVal_eq HO.out.rd, HF.out.2.2.2, HC.out.2]
          have h2 := HLt.out
          have h3 := HF.out.1
          omega
  · have z1 : ((ps.length : Int) == 0) = true := by rw [beq_iff_eq]; omega
    have z2 : (ps.length : Int) = 0 := by omega
    have HN : Hid (canOf (isq (val ps)) = []) := Lib.hid (by
      rw [List.length_eq_zero_iff.1 (show ps.length = 0 by omega)]
      rw [show val [] = 0 from rfl, isq_zero, canOf_zero])
    clear hp
    go_enter Try.func40, Try.ntmps40
    go_wp2
    go_ret
    exact ⟨_, rfl, by rw [HN.out]; exact Ow.nilOf w, Below.refl _ _⟩
noncomputable def rtV (ps : List Int) : List Int := if natB ps = true then canOf (isq (val ps)) else []
noncomputable def rtC (ps : List Int) : Int := if natB ps = true then 0 else 1
end Go.Proofs.Ytcpipakpkmfhlaa.Ints
