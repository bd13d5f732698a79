/- Contracts of SequenceOf, of the model and of the program. -/
import Derived.Test.YtfnopnaaahkklaaTuO
namespace Go.Proofs.Ytfnopnaaahkklaa.Ints
open Go.RowKit
set_option linter.unusedVariables false
set_option linter.unusedSimpArgs false
/-- The sequence of at most m numbers that a number stands for. -/
noncomputable def sqG : Nat → Int → Option (List (List Int))
  | 0, N => if N = 0 then some [] else none
  | m + 1, N => if N = 0 then some [] else (sqG m (unB (N - 1))).map fun L => canOf (unA (N - 1)) :: L
theorem nn_pred {N : Int} (h : Nn 40 N) (h1 : 1 ≤ N) : Nn 40 (N - 1) := ⟨by omega, by have := h.lt; omega⟩
theorem sqG_zero (m : Nat) : sqG m 0 = some [] := by cases m <;> simp [sqG]
theorem sqG_none {N : Int} (h : 1 ≤ N) : sqG 0 N = none := by rw [sqG, if_neg (by omega)]
theorem sqG_succ {m : Nat} {N : Int} (h : 1 ≤ N) : sqG (m + 1) N = (sqG m (unB (N - 1))).map fun L => canOf (unA (N - 1)) :: L := by rw [sqG, if_neg (by omega)]
theorem sqG_tot : ∀ (m : Nat) (N : Int) (L : List (List Int)), Nn 40 N → sqG m N = some L → tot L ≤ 42 * m
  | 0, N, L, h, e => by
    rw [sqG] at e
    split at e
    · cases e; simp [tot]
    · cases e
  | m + 1, N, L, h, e => by
    rcases Int.lt_or_eq_of_le h.nn with h1 | h1
    · rw [sqG_succ (by omega)] at e
      obtain ⟨_, _, _, _, _, _, nb, na⟩ := nn_un (nn_pred h (by omega))
      cases e2 : sqG m (unB (N - 1)) with
      | none => rw [e2] at e; cases e
      | some M =>
        rw [e2] at e
        cases e
        have h2 := sqG_tot m _ M nb e2
        have h3 := na.can.2.2
        simp only [tot]; omega
    · rw [← h1, sqG_zero] at e
      cases e; simp [tot]
def opQ : Option (List (List Int)) → List (List Int) × Int
  | some L => (L, 0)
  | none => ([], 5)
noncomputable def soR (ps : List Int) : List (List Int) × Int := if natB ps = false then ([], 1) else opQ (sqG 8 (val ps))
theorem soR_tot (ps : List Int) : tot (soR ps).1 ≤ 1048576 := by
  unfold soR
  split
  · simp [tot]
  · rename_i h
    have hn : natB ps = true := by cases e : natB ps <;> simp_all
    cases e : sqG 8 (val ps) with
    | none => simp [opQ, tot]
    | some L =>
      have := sqG_tot 8 (val ps) L (nn_of (natB_can hn).1 (natB_can hn).2) e
      show tot L ≤ 1048576
      omega
theorem canOf_pos {N : Int} (h : Nn 40 N) : (0 < (canOf N).length ∧ 1 ≤ N) ∨ (¬ 0 < (canOf N).length ∧ N = 0) := by
  obtain ⟨h1, h2, _⟩ := h.can
  by_cases e : 0 < (canOf N).length
  · exact .inl ⟨e, by have := val_pos h1 e; omega⟩
  · refine .inr ⟨e, ?_⟩
    rw [← h2, List.length_eq_zero_iff.1 (show (canOf N).length = 0 by omega)]; rfl
theorem GrQ.shape {w : World} {B : Nat} {v : Value} {ts : List (List Int)} (h : GrQ w B v ts) : ∃ a c, v = .slice a ts.length c := by
  obtain ⟨cs, ho, hc, hq⟩ := h
  rcases ho.2 with ⟨rfl, h0⟩ | ⟨g, c, cur, rfl, _⟩
  · rw [h0]; exact ⟨_, _, rfl⟩
  · exact ⟨_, _, rfl⟩
theorem GrQ.open {w : World} {B : Nat} {v : Value} {ts : List (List Int)} (h : GrQ w B v ts) : ∃ cs, w.ownsRow B 22 1 v ts.length cs ∧ Hid (Coq w B ts cs ts.length) ∧ Hid (SepQ cs ts.length) := by
  obtain ⟨cs, ho, hc, hq⟩ := h
  exact ⟨cs, ho, Lib.hid hc, Lib.hid hq⟩
set_option maxRecDepth 100000 in
set_option maxHeartbeats 8000000 in
theorem implSequenceOf (u : Value) (ps : List Int) (w : World) (hu : Rd w u ps) :
    Calls Try.prog 28 #[u] w fun e w' => ∃ r, e = .returned (.tuple #[r, .int .i64 (soR ps).2]) ∧ OwQN w' w.heap.size w'.heap.size r (soR ps).1 ∧ Below w.heap.size w w' := by
  obtain ⟨i0, hi, hz0, hz1, hz2⟩ := info_parts infoQ
  have HU := Lib.hid hu
  clear hu
  rcases eq_or (natB ps) with hx | hx
  · have HX := Lib.hid hx
    have HR : Hid (soR ps = ([], 1)) := Lib.hid (if_pos hx)
    clear hx
    go_enter Try.func28, Try.ntmps28
    go_wp2_with fail
    refine (implNat _ ps _ HU.out).mono ?_
    rintro e w1 ⟨rfl, hb⟩
    rw [HX.out]
    have HB := Lib.hid hb
    clear hb
    go_wp2
    go_ret2
    exact ⟨_, by rw [HR.out] <;> rfl, by rw [HR.out]; exact OwQN.none HB.out.size, HB.out⟩
  have HX := Lib.hid hx
  have hx0 : ¬ natB ps = false := by rw [hx]; simp
  have HR : Hid (soR ps = opQ (sqG 8 (val ps))) := Lib.hid (by rw [soR, if_neg hx0])
  have HP := Lib.hid (natB_can hx)
  obtain ⟨G, hG⟩ : ∃ G, G = sqG 8 (val ps) := ⟨_, rfl⟩
  have HG := Lib.hid hG
  rw [← hG] at HR
  clear hx hx0 hG
  go_enter Try.func28, Try.ntmps28
  go_wp2_with fail
  refine (implNat _ ps _ HU.out).mono ?_
  rintro e w1 ⟨rfl, hb⟩
  rw [HX.out]
  have HB0 := Lib.hid hb
  clear hb
  go_wp2
  go_loopw [0, 4] (fun r o wr => ∃ (m : Nat) (ts : List (List Int)) (N : Int) (ov rv : Value), o = ov ∧ r = rv ∧ ts.length + m = 8 ∧ Nn 40 N ∧ GrQ wr w.heap.size ov ts ∧ Rd wr rv (canOf N) ∧ (sqG m N).map (fun L => ts ++ L) = G ∧ Below w.heap.size w wr) (fun r _ wr => rdVal wr r)
  case atStart => exact ⟨8, [], val ps, _, _, rfl, rfl, rfl, nn_of HP.out.1 HP.out.2, GrQ.start _ _, by rw [canOf_val HP.out.1]; exact HU.out.below HB0.out (Nat.le_refl _), by rw [HG.out]; simp, HB0.out⟩
  case round =>
    obtain ⟨m, ts, N, ov, rv, hov, hrv, htm, hN, hgr, hrd, hR, hbel⟩ := hrel
    obtain rfl := hov.symm
    obtain rfl := hrv.symm
    have HN := Lib.hid hN
    have HGR := Lib.hid hgr
    have HB := Lib.hid hbel
    have HRR := Lib.hid hR
    have HTM := Lib.hid htm
    have HRD := Lib.hid hrd
    obtain ⟨cs, hown, HCQ, HSQ⟩ := hgr.open
    have HOW := Lib.hid hown
    obtain ⟨go, gp, hov2⟩ := hgr.shape
    subst hov2
    obtain ⟨_, _, ay, cy, rfl, _, _⟩ := hrd
    have hcp := canOf_pos hN
    clear hN hgr hR hbel hown
    rcases hcp with ⟨hpos, hN1⟩ | ⟨hpos, hN0⟩
    · have p1 : (0 : Int) < ((canOf N).length : Int) := by omega
      have HN1 := Lib.hid hN1
      rcases Nat.eq_zero_or_pos m with hm | hm
      · subst hm
        have z1 : ((ts.length : Int) == 8) = true := by rw [beq_iff_eq]; omega
        have z2 : (ts.length : Int) = 8 := by omega
        have HG0 : Hid (opQ G = ([], 5)) := Lib.hid (by rw [← HRR.out, sqG_none hN1]; rfl)
        clear hN1 htm
        go_wp2
        go_ret2
        exact ⟨_, by rw [HR.out, HG0.out] <;> rfl, by rw [HR.out, HG0.out]; exact OwQN.none HB.out.size, HB.out⟩
      obtain ⟨n, rfl⟩ : ∃ n, m = n + 1 := ⟨m - 1, by omega⟩
      have z1 : ((ts.length : Int) == 8) = false := by rw [beq_eq_false_iff_ne]; omega
      have z2 : ¬ (ts.length : Int) = 8 := by omega
      have hlen0 : ts.length ≤ 8 := by omega
      clear hN1 hm
      go_wp2_with fail
      refine (iLess _ N 40 _ HRD.out HN.out (by omega) (by omega) HN1.out).mono ?_
      rintro e w2 ⟨r2, rfl, ho, hb⟩
      have X2 := Lib.hid ho.rd
      have HB2 := Lib.hid hb
      clear ho hb
      go_wp2_with fail
      refine (iUnpair _ (N - 1) _ X2.out (nn_pred HN.out HN1.out)).mono ?_
      rintro e w3 ⟨a, b, rfl, oa, ob, sp, hb⟩
      obtain ⟨ga, gc, ha⟩ := oa.shape
      subst ha
      obtain ⟨gb, gd, hb'⟩ := ob.shape
      subst hb'
      have HA : Hid (Ow w3 wr.heap.size w3.heap.size (.slice ga (canOf (unA (N - 1))).length gc) (canOf (unA (N - 1)))) := Lib.hid (oa.mono HB2.out.size (Nat.le_refl _) (Nat.le_refl _))
      have HBo := Lib.hid ob
      have HB3 := Lib.hid (HB2.out.trans (hb.mono HB2.out.size))
      have hown1 := ownQ_below HOW.out HB3.out (Nat.le_refl _)
      have HOW1 := Lib.hid hown1
      have hsz := Nat.le_trans HB.out.size HB3.out.size
      clear oa ob sp hb
      go_wp2_with (at_builtin; refine wpList_append_own _ rfl _ _ 33 rfl w.heap.size 22 i0 (.slice none 0 0) 1 24 Try.underlying33 hi hz0 hz1 hz2 rfl (by decide) _ _ _ rfl (hown1.alloc _) ⟨_, 0, none⟩ 1 1 [.slice ga (canOf (unA (N - 1))).length gc] rfl rfl ?c1 ?c2 ?c3 ?c4 ?c5 ?_)
      case c1 => exact cellNew1 _ _ _
      case c2 => first | rfl | (intro u hu; simp at hu; subst hu; rfl)
      case c3 => unfold maxLen; omega
      case c4 => omega
      case c5 => first | omega | (simp; omega)
      intro v' w4 hown4 hgrow _
      have HBA : Hid (Below wr.heap.size wr (w3.alloc (Obj.cells #[.slice ga (canOf (unA (N - 1))).length gc] 22))) := Lib.hid (HB3.out.alloc HB3.out.size _)
      have hbw : Below w3.heap.size w3 (w3.alloc (Obj.cells #[.slice ga (canOf (unA (N - 1))).length gc] 22)) := (Below.refl _ _).alloc (Nat.le_refl _) _
      have HGR2 : Hid (GrQ w4 w.heap.size v' (ts ++ [canOf (unA (N - 1))])) := Lib.hid
        (rowsQ_snoc HCQ.out HSQ.out HBA.out HB.out.size (HOW1.out.alloc _) (HA.out.below hbw (Nat.le_refl _)).up hgrow hown4)
      have HBo4 : Hid (Rd w4 (.slice gb (canOf (unB (N - 1))).length gd) (canOf (unB (N - 1)))) := Lib.hid ((HBo.out.below hbw (Nat.le_refl _)).grown hgrow ((HBo.out.below hbw (Nat.le_refl _)).nqp (HOW1.out.alloc _))).rd
      have HBX := Lib.hid ((HB.out.trans (HBA.out.mono HB.out.size)).grown hgrow (by simp; omega) (fun q hq => (HOW.out.lt q hq).1))
      have HR2 : Hid ((sqG n (unB (N - 1))).map (fun L => ts ++ [canOf (unA (N - 1))] ++ L) = G) := Lib.hid (by
        rw [← HRR.out, sqG_succ HN1.out, Option.map_map]
        congr 1
        funext L
        simp)
      have HNB := Lib.hid (nn_un (nn_pred HN.out HN1.out)).2.2.2.2.2.2.1
      have HUB := Lib.hid (un_spec (nn_pred HN.out HN1.out).nn)
      clear hown4 hgrow hown1
      go_wp2
      go_roundw
      case rel => exact ⟨n, ts ++ [canOf (unA (N - 1))], unB (N - 1), _, _, rfl, rfl, by (have := HTM.out; simp; omega), HNB.out, HGR2.out, HBo4.out, HR2.out, HBX.out⟩
      case measure =>
        rw [rdVal_eq HBo4.out, rdVal_eq HRD.out, HNB.out.can.2.1, HN.out.can.2.1]
        have h1 := HUB.out
        have h2 := HN1.out
        have h3 : unB (N - 1) = N - 1 - triV (unT (N - 1)) := rfl
        have h4 := tri_two h1.2.1
        have h5 := Int.mul_nonneg h1.2.1 h1.2.1
        have h6 := h1.2.1
        omega
    · have p1 : ¬ (0 : Int) < ((canOf N).length : Int) := by omega
      have HG0 : Hid (opQ G = (ts, 0)) := Lib.hid (by rw [← HRR.out, hN0, sqG_zero]; simp [opQ])
      have HQ : Hid (OwQN wr w.heap.size wr.heap.size (.slice go ts.length gp) ts) := Lib.hid (HGR.out.own (by omega) HB.out.size)
      clear hN0 htm
      go_wp2
      go_ret2
      exact ⟨_, by rw [HR.out, HG0.out] <;> rfl, by rw [HR.out, HG0.out]; exact HQ.out, HB.out⟩
set_option maxRecDepth 100000 in
set_option maxHeartbeats 8000000 in
theorem specSequenceOf (u : Value) (ps : List Int) (w : World) (hu : Rd w u ps) :
    Calls Try.prog 27 #[u] w fun e w' => ∃ r, e = .returned (.tuple #[r, .int .i64 (soR ps).2]) ∧ OwQN w' w.heap.size w'.heap.size r (soR ps).1 ∧ Below w.heap.size w w' := by
  obtain ⟨i0, hi, hz0, hz1, hz2⟩ := info_parts infoQ
  have HU := Lib.hid hu
  clear hu
  rcases eq_or (natB ps) with hx | hx
  · have HX := Lib.hid hx
    have HR : Hid (soR ps = ([], 1)) := Lib.hid (if_pos hx)
    clear hx
    go_enter Try.func27, Try.ntmps27
    go_wp2_with (go_at_call 36; refine (specNat _ ps _ HU.out).mono ?_; rintro e w' ⟨rfl, rfl⟩; rw [HX.out])
    go_ret2
    exact ⟨_, by rw [HR.out] <;> rfl, by rw [HR.out]; exact OwQN.none (Nat.le_refl _), Below.refl _ _⟩
  have HX := Lib.hid hx
  have hx0 : ¬ natB ps = false := by rw [hx]; simp
  have HR : Hid (soR ps = opQ (sqG 8 (val ps))) := Lib.hid (by rw [soR, if_neg hx0])
  have HP := Lib.hid (natB_can hx)
  obtain ⟨G, hG⟩ : ∃ G, G = sqG 8 (val ps) := ⟨_, rfl⟩
  have HG := Lib.hid hG
  rw [← hG] at HR
  clear hx hx0 hG
  have HB0 : Hid (Below w.heap.size w (w.alloc (.cells #[] 22))) := Lib.hid ((Below.refl _ _).alloc (Nat.le_refl _) _)
  have HMD : Hid (GrQ (w.alloc (.cells #[] 22)) w.heap.size (.slice (some ⟨w.heap.size, 0, none⟩) 0 0) []) := Lib.hid ⟨[], World.ownsRow_made w #[] 0 (Nat.le_refl _) (by unfold maxLen; omega) (by simp), fun i hi => by simp at hi, fun i j x y _ hj => by simp at hj⟩
  go_enter Try.func27, Try.ntmps27
  go_wp2_with fail
  refine (specNat _ ps _ HU.out).mono ?_
  rintro e w' ⟨rfl, rfl⟩
  rw [HX.out]
  go_wp2
  go_loopw [4, 5] (fun o r wr => ∃ (m : Nat) (ts : List (List Int)) (N : Int) (ov rv : Value), o = ov ∧ r = rv ∧ ts.length + m = 8 ∧ Nn 40 N ∧ GrQ wr w.heap.size ov ts ∧ Rd wr rv (canOf N) ∧ (sqG m N).map (fun L => ts ++ L) = G ∧ Below w.heap.size w wr) (fun _ r wr => rdVal wr r)
  case atStart => exact ⟨8, [], val ps, _, _, rfl, rfl, rfl, nn_of HP.out.1 HP.out.2, HMD.out, by rw [canOf_val HP.out.1]; exact HU.out.below HB0.out (Nat.le_refl _), by rw [HG.out]; simp, HB0.out⟩
  case round =>
    obtain ⟨m, ts, N, ov, rv, hov, hrv, htm, hN, hgr, hrd, hR, hbel⟩ := hrel
    obtain rfl := hov.symm
    obtain rfl := hrv.symm
    have HN := Lib.hid hN
    have HGR := Lib.hid hgr
    have HB := Lib.hid hbel
    have HRR := Lib.hid hR
    have HTM := Lib.hid htm
    have HRD := Lib.hid hrd
    obtain ⟨cs, hown, HCQ, HSQ⟩ := hgr.open
    have HOW := Lib.hid hown
    obtain ⟨go, gp, hov2⟩ := hgr.shape
    subst hov2
    obtain ⟨_, _, ay, cy, rfl, _, _⟩ := hrd
    have hcp := canOf_pos hN
    clear hN hgr hR hbel hown
    rcases hcp with ⟨hpos, hN1⟩ | ⟨hpos, hN0⟩
    · have p1 : (0 : Int) < ((canOf N).length : Int) := by omega
      have HN1 := Lib.hid hN1
      rcases Nat.eq_zero_or_pos m with hm | hm
      · subst hm
        have z1 : ((ts.length : Int) == 8) = true := by rw [beq_iff_eq]; omega
        have z2 : (ts.length : Int) = 8 := by omega
        have HG0 : Hid (opQ G = ([], 5)) := Lib.hid (by rw [← HRR.out, sqG_none hN1]; rfl)
        clear hN1 htm
        go_wp2
        go_ret2
        exact ⟨_, by rw [HR.out, HG0.out] <;> rfl, by rw [HR.out, HG0.out]; exact OwQN.none HB.out.size, HB.out⟩
      obtain ⟨n, rfl⟩ : ∃ n, m = n + 1 := ⟨m - 1, by omega⟩
      have z1 : ((ts.length : Int) == 8) = false := by rw [beq_eq_false_iff_ne]; omega
      have z2 : ¬ (ts.length : Int) = 8 := by omega
      have hlen0 : ts.length ≤ 8 := by omega
      clear hN1 hm
      have HRD2 := Lib.hid (HRD.out.below (bAl wr (.cells #[.int .i64 1] 2)) (Nat.le_refl _))
      have hba := bAl wr (.cells #[.int .i64 1] 2)
      have HBA0 := Lib.hid hba
      clear hba
      go_wp2_with fail
      refine (sSub _ _ N 1 40 _ HRD2.out (rdSmall wr 1 (by omega) (by omega)) HN.out ((nn_small (by omega) (by omega)).up (by omega)) (by omega) HN1.out).mono ?_
      rintro e w2 ⟨r2, rfl, ho, hb⟩
      have X2 := Lib.hid ho.rd
      have HB2 := Lib.hid (HBA0.out.trans (hb.mono HBA0.out.size))
      clear ho hb
      go_wp2_with fail
      refine (sUnpair _ (N - 1) _ X2.out (nn_pred HN.out HN1.out)).mono ?_
      rintro e w3 ⟨a, b, rfl, oa, ob, sp, hb⟩
      obtain ⟨ga, gc, ha⟩ := oa.shape
      subst ha
      obtain ⟨gb, gd, hb'⟩ := ob.shape
      subst hb'
      have HA : Hid (Ow w3 wr.heap.size w3.heap.size (.slice ga (canOf (unA (N - 1))).length gc) (canOf (unA (N - 1)))) := Lib.hid (oa.mono HB2.out.size (Nat.le_refl _) (Nat.le_refl _))
      have HBo := Lib.hid ob
      have HB3 := Lib.hid (HB2.out.trans (hb.mono HB2.out.size))
      have hown1 := ownQ_below HOW.out HB3.out (Nat.le_refl _)
      have HOW1 := Lib.hid hown1
      have hsz := Nat.le_trans HB.out.size HB3.out.size
      clear oa ob sp hb
      go_wp2_with (at_builtin; refine wpList_append_own _ rfl _ _ 33 rfl w.heap.size 22 i0 (.slice none 0 0) 1 24 Try.underlying33 hi hz0 hz1 hz2 rfl (by decide) _ _ _ rfl (hown1.alloc _) ⟨_, 0, none⟩ 1 1 [.slice ga (canOf (unA (N - 1))).length gc] rfl rfl ?c1 ?c2 ?c3 ?c4 ?c5 ?_)
      case c1 => exact cellNew1 _ _ _
      case c2 => first | rfl | (intro u hu; simp at hu; subst hu; rfl)
      case c3 => unfold maxLen; omega
      case c4 => omega
      case c5 => first | omega | (simp; omega)
      intro v' w4 hown4 hgrow _
      have HBA : Hid (Below wr.heap.size wr (w3.alloc (Obj.cells #[.slice ga (canOf (unA (N - 1))).length gc] 22))) := Lib.hid (HB3.out.alloc HB3.out.size _)
      have hbw : Below w3.heap.size w3 (w3.alloc (Obj.cells #[.slice ga (canOf (unA (N - 1))).length gc] 22)) := (Below.refl _ _).alloc (Nat.le_refl _) _
      have HGR2 : Hid (GrQ w4 w.heap.size v' (ts ++ [canOf (unA (N - 1))])) := Lib.hid
        (rowsQ_snoc HCQ.out HSQ.out HBA.out HB.out.size (HOW1.out.alloc _) (HA.out.below hbw (Nat.le_refl _)).up hgrow hown4)
      have HBo4 : Hid (Rd w4 (.slice gb (canOf (unB (N - 1))).length gd) (canOf (unB (N - 1)))) := Lib.hid ((HBo.out.below hbw (Nat.le_refl _)).grown hgrow ((HBo.out.below hbw (Nat.le_refl _)).nqp (HOW1.out.alloc _))).rd
      have HBX := Lib.hid ((HB.out.trans (HBA.out.mono HB.out.size)).grown hgrow (by simp; omega) (fun q hq => (HOW.out.lt q hq).1))
      have HR2 : Hid ((sqG n (unB (N - 1))).map (fun L => ts ++ [canOf (unA (N - 1))] ++ L) = G) := Lib.hid (by
        rw [← HRR.out, sqG_succ HN1.out, Option.map_map]
        congr 1
        funext L
        simp)
      have HNB := Lib.hid (nn_un (nn_pred HN.out HN1.out)).2.2.2.2.2.2.1
      have HUB := Lib.hid (un_spec (nn_pred HN.out HN1.out).nn)
      clear hown4 hgrow hown1
      go_wp2
      go_roundw
      case rel => exact ⟨n, ts ++ [canOf (unA (N - 1))], unB (N - 1), _, _, rfl, rfl, by (have := HTM.out; simp; omega), HNB.out, HGR2.out, HBo4.out, HR2.out, HBX.out⟩
      case measure =>
        rw [rdVal_eq HBo4.out, rdVal_eq HRD.out, HNB.out.can.2.1, HN.out.can.2.1]
        have h1 := HUB.out
        have h2 := HN1.out
        have h3 : unB (N - 1) = N - 1 - triV (unT (N - 1)) := rfl
        have h4 := tri_two h1.2.1
        have h5 := Int.mul_nonneg h1.2.1 h1.2.1
        have h6 := h1.2.1
        omega
    · have p1 : ¬ (0 : Int) < ((canOf N).length : Int) := by omega
      have HG0 : Hid (opQ G = (ts, 0)) := Lib.hid (by rw [← HRR.out, hN0, sqG_zero]; simp [opQ])
      have HQ : Hid (OwQN wr w.heap.size wr.heap.size (.slice go ts.length gp) ts) := Lib.hid (HGR.out.own (by omega) HB.out.size)
      clear hN0 htm
      go_wp2
      go_ret2
      exact ⟨_, by rw [HR.out, HG0.out] <;> rfl, by rw [HR.out, HG0.out]; exact HQ.out, HB.out⟩
end Go.Proofs.Ytfnopnaaahkklaa.Ints
