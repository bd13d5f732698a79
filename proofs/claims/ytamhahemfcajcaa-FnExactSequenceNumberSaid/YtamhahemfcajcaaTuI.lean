/- TupleNumber and SequenceNumber, of the program. -/
import Derived.Test.YtamhahemfcajcaaTup
namespace Go.Proofs.Ytamhahemfcajcaa.Ints
open Go.RowKit
set_option linter.unusedVariables false
set_option linter.unusedSimpArgs false
theorem rdl_tail {w : World} {a : Option Addr} {c : Nat} {y : List Int} {ys : List (List Int)} (h : RdL w (.slice a (ys.length + 1) c) (y :: ys)) :
    RdL w (.slice (if c = 1 then a else Option.map (fun x => x.add 1) a) ys.length (c - 1)) ys := by
  obtain ⟨hl, a2, c2, he, hc, hr⟩ := h
  simp only [List.length_cons, Value.slice.injEq] at he hl hc
  obtain ⟨rfl, _, rfl⟩ := he
  obtain ⟨b, o, rfl, hb, hcell⟩ := hr (by simp)
  refine ⟨by omega, _, c - 1, rfl, by omega, fun hne => ?_⟩
  have h1 : 0 < ys.length := List.length_pos_iff.2 hne
  have hc1 : ¬ c = 1 := by omega
  rw [if_neg hc1]
  refine ⟨b, o + 1, by simp only [Option.map_some, Addr.add_lit], hb, fun i hi => ?_⟩
  obtain ⟨x, k1, k2⟩ := hcell (i + 1) (by simp; omega)
  refine ⟨x, ?_, by simpa using k2⟩
  rw [show o + 1 + i = o + (i + 1) by omega]; exact k1
theorem rdl_head {w : World} {a : Option Addr} {c : Nat} {y : List Int} {ys : List (List Int)} (h : RdL w (.slice a (ys.length + 1) c) (y :: ys)) :
    ∃ b o ax cx, a = some ⟨b, o, none⟩ ∧ b < w.heap.size ∧ w.cell? ⟨b, o, none⟩ = some (.slice ax y.length cx) ∧ Rd w (.slice ax y.length cx) y ∧ ys.length + 1 ≤ c := by
  obtain ⟨hl, a2, c2, he, hc, hr⟩ := h
  simp only [List.length_cons, Value.slice.injEq] at he hc
  obtain ⟨rfl, _, rfl⟩ := he
  obtain ⟨b, o, rfl, hb, hcell⟩ := hr (by simp)
  obtain ⟨x, k1, k2⟩ := hcell 0 (by simp)
  have k3 : Rd w x y := by simpa using k2
  obtain ⟨h1, h2, ax, cx, rfl, h3, h4⟩ := k3
  exact ⟨b, o, ax, cx, rfl, hb, by simpa using k1, ⟨h1, h2, ax, cx, rfl, h3, h4⟩, by omega⟩
noncomputable def tpO (x : List Int) (ys : List (List Int)) : List Int × Int := optF (tpF (x :: ys))
theorem tpO_cases (x : List Int) (ys : List (List Int)) (h : allN (x :: ys) = true) : (∃ z, tpF (x :: ys) = some z ∧ natB z = true ∧ tpO x ys = (z, 0)) ∨ (tpF (x :: ys) = none ∧ tpO x ys = ([], 5)) := by
  cases ht : tpF (x :: ys) with
  | none => exact .inr ⟨rfl, by rw [tpO, ht]; rfl⟩
  | some z => exact .inl ⟨z, rfl, tpF_nat _ _ h ht, by rw [tpO, ht]; rfl⟩
set_option maxRecDepth 100000 in
set_option maxHeartbeats 8000000 in
theorem implTpl (ys : List (List Int)) : ∀ (x : List Int) (u v : Value) (w : World), Rd w u x → RdL w v ys → allN (x :: ys) = true →
    Calls Try.prog 24 #[u, v] w fun e w' => ∃ r, e = .returned (.tuple #[r, .int .i64 (tpO x ys).2]) ∧ Ow w' w.heap.size w'.heap.size r (tpO x ys).1 ∧ Below w.heap.size w w' := by
  induction ys with
  | nil =>
    intro x u v w hu hv ha
    have HU := Lib.hid hu
    obtain ⟨_, a, c, rfl, _, _⟩ := hv
    have E : Hid (tpO x [] = (x, 0)) := Lib.hid rfl
    clear hu ha
    go_enter Try.func24, Try.ntmps24
    go_wp2_with fail
    refine (libClone _ x _ HU.out).mono ?_
    rintro e w1 ⟨r, rfl, ho, hb⟩
    have HO := Lib.hid ho
    have HB := Lib.hid hb
    clear ho hb
    go_wp2
    go_ret2
    exact ⟨_, by rw [E.out] <;> rfl, by rw [E.out]; exact HO.out, HB.out⟩
  | cons y ys ih =>
    intro x u v w hu hv ha
    obtain ⟨hx, hys⟩ := allN_cons ha
    have HU := Lib.hid (rd_can hu hx)
    obtain ⟨au, cu, rfl⟩ : ∃ a c, u = .slice a x.length c := by obtain ⟨_, _, a, c, e, _⟩ := hu; exact ⟨a, c, e⟩
    obtain ⟨a, c, rfl⟩ : ∃ a c, v = .slice a (ys.length + 1) c := by obtain ⟨_, a, c, e, _⟩ := hv; exact ⟨a, c, e⟩
    obtain ⟨b, o, ax, cx, rfl, hb, hc, hy, hcap⟩ := rdl_head hv
    have HTL0 := rdl_tail hv
    have HY := Lib.hid hy
    have HAY := Lib.hid hys
    have HNX := Lib.hid (nn_of (natB_can hx).1 (natB_can hx).2)
    have HSTP : Hid (∀ z, tpF (y :: ys) = some z → tpO x (y :: ys) = (fitL (canOf (pairV (val x) (val z))), fitC (canOf (pairV (val x) (val z))))) := Lib.hid (fun z hz => by
      rw [tpO, tpF_cons (by simp), hz]
      simp only [Option.bind_some]
      by_cases h40 : (canOf (pairV (val x) (val z))).length ≤ 40
      · rw [if_pos h40]; simp [optF, fitL, fitC, h40]
      · rw [if_neg h40]; simp [optF, fitL, fitC, h40])
    have HNON : Hid (tpF (y :: ys) = none → tpO x (y :: ys) = ([], 5)) := Lib.hid (fun hz => by rw [tpO, tpF_cons (by simp), hz]; rfl)
    have hzl : ((ys.length : Int) + 1 == 0) = false := by rw [beq_eq_false_iff_ne]; omega
    have hzl2 : ¬ ((ys.length : Int) + 1 = 0) := by omega
    have j1 : (0 : Int) < (ys.length : Int) + 1 := by omega
    have j2 : 1 ≤ ys.length + 1 := by omega
    have j3 : 1 ≤ c := by omega
    have j4 : (1 : Int) ≤ (ys.length : Int) + 1 := by omega
    have j5 : (1 : Int) ≤ (c : Int) := by omega
    obtain ⟨ad, had⟩ : ∃ ad, ad = (if c = 1 then some (⟨b, o, none⟩ : Addr) else some (⟨b, o + 1, none⟩ : Addr)) := ⟨_, rfl⟩
    simp only [Option.map_some, Addr.add_lit] at HTL0
    rw [← had] at HTL0
    have HTL := Lib.hid HTL0
    clear HTL0
    have HAD := Lib.hid had
    have HCALL : Hid (∀ W, Below w.heap.size w W → Calls Try.prog 24 #[.slice ax y.length cx, .slice ad ys.length (c - 1)] W fun e w' => ∃ r, e = .returned (.tuple #[r, .int .i64 (tpO y ys).2]) ∧ Ow w' W.heap.size w'.heap.size r (tpO y ys).1 ∧ Below W.heap.size W w') := Lib.hid (fun W hW => ih y _ _ W (HY.out.below hW (Nat.le_refl _)) (HTL.out.below hW (Nat.le_refl _)) HAY.out)
    have HS : Hid (∀ W, Below w.heap.size w W → W.cell? ⟨b, o, none⟩ = some (.slice ax y.length cx)) := Lib.hid (fun W hW => (hW.cell (p := ⟨b, o, none⟩) hb).trans hc)
    have HD : Hid (Below w.heap.size w w.drew) := Lib.hid (Below.refl _ _).drew
    rcases tpO_cases y ys hys with ⟨z, hz1, hz2, hz3⟩ | ⟨hz1, hz3⟩
    · have E := Lib.hid (HSTP.out z hz1)
      have HNZ := Lib.hid (nn_of (natB_can hz2).1 (natB_can hz2).2)
      have HZN := Lib.hid hz2
      rw [hz3] at HCALL
      clear ih hu hv ha hx hys hy had hz1 hz2 hz3 HSTP HNON
      go_enter Try.func24, Try.ntmps24
      go_wp2_with fail
      go_region_held3 (fun W => W.cell? ⟨b, o, none⟩ = some (.slice ax y.length cx))
        (exact HS.out _ HD.out)
        (first | (go_at_call 24; (try rw [← HAD.out]); with_reducible refine (HCALL.out _ HD.out).mono ?_; rintro e3 w3 ⟨r3, rfl, ho3, hb3⟩; have HO3 := Lib.hid (rd_can ho3.rd HZN.out); replace HD := Lib.hid (HD.out.trans (hb3.mono HD.out.size)); clear ho3 hb3))
      all_goals
        go_wp2_with fail
        refine (iPair _ _ (val x) (val z) 40 _ (HU.out.below HD.out (Nat.le_refl _)) HO3.out HNX.out HNZ.out (by omega) (by omega)).mono ?_
        rintro e5 w5 ⟨r5, rfl, ho5, hb5⟩
        have HB5 := Lib.hid (HD.out.trans (hb5.mono HD.out.size))
        have HO5 := Lib.hid (ho5.mono HD.out.size (Nat.le_refl _) (Nat.le_refl _))
        clear ho5 hb5
        go_wp2_with fail
        refine (implFit _ _ _ _ _ HO5.out).mono ?_
        rintro e6 w6 ⟨r6, rfl, ho6, rfl⟩
        have HO6 := Lib.hid ho6
        clear ho6
        go_wp2
        go_ret2
        exact ⟨_, by rw [E.out] <;> rfl, by rw [E.out]; exact HO6.out, HB5.out⟩
    · have E := Lib.hid (HNON.out hz1)
      rw [hz3] at HCALL
      clear ih hu hv ha hx hys hy had hz1 hz3 HSTP HNON
      go_enter Try.func24, Try.ntmps24
      go_wp2_with fail
      go_region_held3 (fun W => W.cell? ⟨b, o, none⟩ = some (.slice ax y.length cx))
        (exact HS.out _ HD.out)
        (first | (go_at_call 24; (try rw [← HAD.out]); with_reducible refine (HCALL.out _ HD.out).mono ?_; rintro e3 w3 ⟨r3, rfl, ho3, hb3⟩; replace HD := Lib.hid (HD.out.trans (hb3.mono HD.out.size)); clear ho3 hb3))
      all_goals
        go_wp2
        go_ret2
        exact ⟨_, by rw [E.out] <;> rfl, by rw [E.out]; exact Ow.emptyUp HD.out.size, HD.out⟩
set_option maxRecDepth 100000 in
set_option maxHeartbeats 8000000 in
theorem implTup (v : Value) (ss : List (List Int)) (w : World) (h : RdL w v ss) :
    Calls Try.prog 8 #[v] w fun e w' => ∃ r, e = .returned (.tuple #[r, .int .i64 (tnR ss).2]) ∧ Ow w' w.heap.size w'.heap.size r (tnR ss).1 ∧ Below w.heap.size w w' := by
  have HV := Lib.hid h
  obtain ⟨a, c, rfl⟩ : ∃ a c, v = .slice a ss.length c := by obtain ⟨_, a, c, e, _⟩ := h; exact ⟨a, c, e⟩
  rcases eqOr (allN ss) with hn | hn
  · have HN := Lib.hid hn
    have e0 : Hid (tnR ss = ([], 1)) := Lib.hid (by rw [tnR, if_pos hn])
    clear hn h
    go_enter Try.func8, Try.ntmps8
    go_wp2_with fail
    refine (areNats_any _ ss _ HV.out).mono ?_
    rintro e w1 ⟨rfl, hb1⟩
    rw [HN.out]
    have HB := Lib.hid hb1
    clear hb1
    go_wp2
    go_ret2
    exact ⟨_, by rw [e0.out] <;> rfl, by rw [e0.out]; exact Ow.emptyUp HB.out.size, HB.out⟩
  have HN := Lib.hid hn
  have hn1 : ¬ allN ss = false := by rw [hn]; simp
  by_cases h8 : 1 ≤ ss.length ∧ ss.length ≤ 8
  rotate_left
  · have e0 : Hid (tnR ss = ([], 2)) := Lib.hid (by rw [tnR, if_neg hn1, if_pos h8])
    have d8 : (decide ((1 : Int) ≤ (ss.length : Int)) = false) ∨ ((1 : Int) ≤ (ss.length : Int) ∧ decide ((ss.length : Int) ≤ 8) = false) := by
      by_cases q : 1 ≤ ss.length
      · exact .inr ⟨by omega, decide_eq_false (by omega)⟩
      · exact .inl (decide_eq_false (by omega))
    clear hn hn1 h8 h
    rcases d8 with d8 | ⟨d7, d8⟩
    all_goals
      go_enter Try.func8, Try.ntmps8
      go_wp2_with (first | (go_at_call 22; refine (areNats_any _ ss _ HV.out).mono ?_; rintro e w1 ⟨rfl, hb1⟩; rw [HN.out]; have HB := Lib.hid hb1; clear hb1) | go_in)
      go_ret2
      exact ⟨_, by rw [e0.out] <;> rfl, by rw [e0.out]; exact Ow.emptyUp HB.out.size, HB.out⟩
  have HRES : Hid (tnR ss = optF (tpF ss)) := Lib.hid (by rw [tnR, if_neg hn1, if_neg (by omega)])
  clear hn hn1
  match ss, h8, h, HV, HN, HRES with
  | y :: ys, h8, h, HV, HN, HRES =>
    simp only [List.length_cons] at *
    obtain ⟨b, o, ax, cx, rfl, hb, hc, hy, hcap⟩ := rdl_head h
    have HTL0 := rdl_tail h
    have HY := Lib.hid hy
    have d1 : (1 : Int) ≤ (ys.length : Int) + 1 := by omega
    have d2 : (ys.length : Int) + 1 ≤ 8 := by omega
    have j1 : (0 : Int) < (ys.length : Int) + 1 := by omega
    have j2 : 1 ≤ ys.length + 1 := by omega
    have j3 : 1 ≤ c := by omega
    have j5 : (1 : Int) ≤ (c : Int) := by omega
    obtain ⟨ad, had⟩ : ∃ ad, ad = (if c = 1 then some (⟨b, o, none⟩ : Addr) else some (⟨b, o + 1, none⟩ : Addr)) := ⟨_, rfl⟩
    simp only [Option.map_some, Addr.add_lit] at HTL0
    rw [← had] at HTL0
    have HTL := Lib.hid HTL0
    clear HTL0
    have HAD := Lib.hid had
    have E : Hid (tnR (y :: ys) = tpO y ys) := HRES
    have HCALL : Hid (∀ W, Below w.heap.size w W → Calls Try.prog 24 #[.slice ax y.length cx, .slice ad ys.length (c - 1)] W fun e w' => ∃ r, e = .returned (.tuple #[r, .int .i64 (tpO y ys).2]) ∧ Ow w' W.heap.size w'.heap.size r (tpO y ys).1 ∧ Below W.heap.size W w') := Lib.hid (fun W hW => implTpl ys y _ _ W (HY.out.below hW (Nat.le_refl _)) (HTL.out.below hW (Nat.le_refl _)) HN.out)
    have HCL : Hid (∀ W, Below w.heap.size w W → W.cell? ⟨b, o, none⟩ = some (.slice ax y.length cx)) := Lib.hid (fun W hW => (hW.cell (p := ⟨b, o, none⟩) hb).trans hc)
    clear h hy had h8 hc
    go_enter Try.func8, Try.ntmps8
    go_wp2_with (first | (go_at_call 24; fail) | (go_at_call 22; refine (areNats_any _ (y :: ys) _ HV.out).mono ?_; rintro e w1 ⟨rfl, hb1⟩; rw [HN.out]; have HB := Lib.hid hb1; clear hb1) | (go_at_call 23; go_in))
    have HS : Hid (∀ W, Below w1.heap.size w1 W → W.cell? ⟨b, o, none⟩ = some (.slice ax y.length cx)) := Lib.hid (fun W hW => HCL.out W (HB.out.trans (hW.mono HB.out.size)))
    have HD : Hid (Below w1.heap.size w1 w1.drew) := Lib.hid (Below.refl _ _).drew
    go_region_held3 (fun W => W.cell? ⟨b, o, none⟩ = some (.slice ax y.length cx))
      (exact HS.out _ HD.out)
      (first | (go_at_call 24; (try rw [← HAD.out]); with_reducible refine (HCALL.out _ (HB.out.trans (HD.out.mono HB.out.size))).mono ?_; rintro e3 w3 ⟨r3, rfl, ho3, hb3⟩; have HO3 := Lib.hid (ho3.mono (Nat.le_trans HB.out.size HD.out.size) (Nat.le_refl _) (Nat.le_refl _)); replace HD := Lib.hid (HD.out.trans (hb3.mono HD.out.size)); clear ho3 hb3))
    all_goals
      go_wp2
      go_ret2
      exact ⟨_, by rw [E.out] <;> rfl, by rw [E.out]; exact HO3.out, HB.out.trans (HD.out.mono HB.out.size)⟩
noncomputable def sqO (ys : List (List Int)) : List Int × Int := optF (sqF ys)
theorem sqO_cases (ys : List (List Int)) (h : allN ys = true) : (∃ z, sqF ys = some z ∧ natB z = true ∧ sqO ys = (z, 0)) ∨ (sqF ys = none ∧ sqO ys = ([], 5)) := by
  cases ht : sqF ys with
  | none => exact .inr ⟨rfl, by rw [sqO, ht]; rfl⟩
  | some z => exact .inl ⟨z, rfl, sqF_nat _ _ h ht, by rw [sqO, ht]; rfl⟩
set_option maxRecDepth 100000 in
set_option maxHeartbeats 8000000 in
theorem implSql (ys : List (List Int)) : ∀ (v : Value) (w : World), RdL w v ys → allN ys = true →
    Calls Try.prog 26 #[v] w fun e w' => ∃ r, e = .returned (.tuple #[r, .int .i64 (sqO ys).2]) ∧ Ow w' w.heap.size w'.heap.size r (sqO ys).1 ∧ Below w.heap.size w w' := by
  induction ys with
  | nil =>
    intro v w hv ha
    obtain ⟨_, a, c, rfl, _, _⟩ := hv
    have E : Hid (sqO [] = ([], 0)) := Lib.hid rfl
    clear ha
    go_enter Try.func26, Try.ntmps26
    go_wp2
    go_ret2
    exact ⟨_, by rw [E.out] <;> rfl, by rw [E.out]; exact Ow.empty w, Below.refl _ _⟩
  | cons x ys ih =>
    intro v w hv ha
    obtain ⟨hx, hys⟩ := allN_cons ha
    obtain ⟨a, c, rfl⟩ : ∃ a c, v = .slice a (ys.length + 1) c := by obtain ⟨_, a, c, e, _⟩ := hv; exact ⟨a, c, e⟩
    obtain ⟨b, o, ax, cx, rfl, hb, hc, hy, hcap⟩ := rdl_head hv
    have HTL0 := rdl_tail hv
    have HY := Lib.hid (rd_can hy hx)
    have HAY := Lib.hid hys
    have HNX := Lib.hid (nn_of (natB_can hx).1 (natB_can hx).2)
    have HSTP : Hid (∀ z, sqF ys = some z → sqO (x :: ys) = (fitL (canOf (pairV (val x) (val z) + 1)), fitC (canOf (pairV (val x) (val z) + 1)))) := Lib.hid (fun z hz => by
      rw [sqO, sqF, hz]
      simp only [Option.bind_some]
      by_cases h40 : (canOf (pairV (val x) (val z) + 1)).length ≤ 40
      · rw [if_pos h40]; simp [optF, fitL, fitC, h40]
      · rw [if_neg h40]; simp [optF, fitL, fitC, h40])
    have HNON : Hid (sqF ys = none → sqO (x :: ys) = ([], 5)) := Lib.hid (fun hz => by rw [sqO, sqF, hz]; rfl)
    have hzl : ((ys.length : Int) + 1 == 0) = false := by rw [beq_eq_false_iff_ne]; omega
    have hzl2 : ¬ ((ys.length : Int) + 1 = 0) := by omega
    have j1 : (0 : Int) < (ys.length : Int) + 1 := by omega
    have j2 : 1 ≤ ys.length + 1 := by omega
    have j3 : 1 ≤ c := by omega
    have j4 : (1 : Int) ≤ (ys.length : Int) + 1 := by omega
    have j5 : (1 : Int) ≤ (c : Int) := by omega
    obtain ⟨ad, had⟩ : ∃ ad, ad = (if c = 1 then some (⟨b, o, none⟩ : Addr) else some (⟨b, o + 1, none⟩ : Addr)) := ⟨_, rfl⟩
    simp only [Option.map_some, Addr.add_lit] at HTL0
    rw [← had] at HTL0
    have HTL := Lib.hid HTL0
    clear HTL0
    have HAD := Lib.hid had
    have HCALL : Hid (Calls Try.prog 26 #[.slice ad ys.length (c - 1)] w fun e w' => ∃ r, e = .returned (.tuple #[r, .int .i64 (sqO ys).2]) ∧ Ow w' w.heap.size w'.heap.size r (sqO ys).1 ∧ Below w.heap.size w w') := Lib.hid (ih _ w HTL.out HAY.out)
    have HCL : Hid (∀ W, Below w.heap.size w W → W.cell? ⟨b, o, none⟩ = some (.slice ax x.length cx)) := Lib.hid (fun W hW => (hW.cell (p := ⟨b, o, none⟩) hb).trans hc)
    rcases sqO_cases ys hys with ⟨z, hz1, hz2, hz3⟩ | ⟨hz1, hz3⟩
    · have E := Lib.hid (HSTP.out z hz1)
      have HNZ := Lib.hid (nn_of (natB_can hz2).1 (natB_can hz2).2)
      have HZN := Lib.hid hz2
      have HNP := Lib.hid (nn_pair HNX.out HNZ.out (by omega))
      rw [hz3] at HCALL
      clear ih hv ha hx hys hy had hz1 hz2 hz3 HSTP HNON
      have hcc : (c = 1 ∧ ad = some ⟨b, o, none⟩) ∨ (c ≠ 1 ∧ ad = some ⟨b, o + 1, none⟩) := by
        by_cases hc1 : c = 1
        · exact .inl ⟨hc1, by rw [HAD.out, if_pos hc1]⟩
        · exact .inr ⟨hc1, by rw [HAD.out, if_neg hc1]⟩
      clear HAD HTL
      rcases hcc with ⟨hc1, hA⟩ | ⟨hc1, hA⟩
      · have h0 : c - 1 = 0 := by omega
        have h1 : ys.length = 0 := by omega
        rw [h0, h1] at HCALL
        subst hA hc1
        clear h0 h1
        go_enter Try.func26, Try.ntmps26
        go_wp2_with fail
        with_reducible refine HCALL.out.mono ?_
        rintro e3 w3 ⟨r3, rfl, ho3, hb3⟩
        have HO3 := Lib.hid (rd_can ho3.rd HZN.out)
        have HB3 := Lib.hid hb3
        have hc3 := HCL.out _ HB3.out
        clear ho3 hb3 hc
        go_wp2_with fail
        refine (iPair _ _ (val x) (val z) 40 _ (HY.out.below HB3.out (Nat.le_refl _)) HO3.out HNX.out HNZ.out (by omega) (by omega)).mono ?_
        rintro e5 w5 ⟨r5, rfl, ho5, hb5⟩
        have HB5 := Lib.hid (HB3.out.trans (hb5.mono HB3.out.size))
        have HO5 := Lib.hid ho5
        clear ho5 hb5 hc3
        go_wp2_with fail
        refine (iMore _ (pairV (val x) (val z)) 84 _ HO5.out.rd HNP.out (by omega) (by omega)).mono ?_
        rintro e6 w6 ⟨r6, rfl, ho6, hb6⟩
        have HB6 := Lib.hid (HB5.out.trans (hb6.mono HB5.out.size))
        have HO6 := Lib.hid (ho6.mono HB5.out.size (Nat.le_refl _) (Nat.le_refl _))
        clear ho6 hb6
        go_wp2_with fail
        refine (implFit _ _ _ _ _ HO6.out).mono ?_
        rintro e7 w7 ⟨r7, rfl, ho7, rfl⟩
        have HO7 := Lib.hid ho7
        clear ho7
        go_wp2
        go_ret2
        exact ⟨_, by rw [E.out] <;> rfl, by rw [E.out]; exact HO7.out, HB6.out⟩
      · subst hA
        go_enter Try.func26, Try.ntmps26
        go_wp2_with fail
        with_reducible refine HCALL.out.mono ?_
        rintro e3 w3 ⟨r3, rfl, ho3, hb3⟩
        have HO3 := Lib.hid (rd_can ho3.rd HZN.out)
        have HB3 := Lib.hid hb3
        have hc3 := HCL.out _ HB3.out
        clear ho3 hb3 hc
        go_wp2_with fail
        refine (iPair _ _ (val x) (val z) 40 _ (HY.out.below HB3.out (Nat.le_refl _)) HO3.out HNX.out HNZ.out (by omega) (by omega)).mono ?_
        rintro e5 w5 ⟨r5, rfl, ho5, hb5⟩
        have HB5 := Lib.hid (HB3.out.trans (hb5.mono HB3.out.size))
        have HO5 := Lib.hid ho5
        clear ho5 hb5 hc3
        go_wp2_with fail
        refine (iMore _ (pairV (val x) (val z)) 84 _ HO5.out.rd HNP.out (by omega) (by omega)).mono ?_
        rintro e6 w6 ⟨r6, rfl, ho6, hb6⟩
        have HB6 := Lib.hid (HB5.out.trans (hb6.mono HB5.out.size))
        have HO6 := Lib.hid (ho6.mono HB5.out.size (Nat.le_refl _) (Nat.le_refl _))
        clear ho6 hb6
        go_wp2_with fail
        refine (implFit _ _ _ _ _ HO6.out).mono ?_
        rintro e7 w7 ⟨r7, rfl, ho7, rfl⟩
        have HO7 := Lib.hid ho7
        clear ho7
        go_wp2
        go_ret2
        exact ⟨_, by rw [E.out] <;> rfl, by rw [E.out]; exact HO7.out, HB6.out⟩
    · have E := Lib.hid (HNON.out hz1)
      rw [hz3] at HCALL
      clear ih hv ha hx hys hy had hz1 hz3 HSTP HNON
      have hcc : (c = 1 ∧ ad = some ⟨b, o, none⟩) ∨ (c ≠ 1 ∧ ad = some ⟨b, o + 1, none⟩) := by
        by_cases hc1 : c = 1
        · exact .inl ⟨hc1, by rw [HAD.out, if_pos hc1]⟩
        · exact .inr ⟨hc1, by rw [HAD.out, if_neg hc1]⟩
      clear HAD HTL
      rcases hcc with ⟨hc1, hA⟩ | ⟨hc1, hA⟩
      · have h0 : c - 1 = 0 := by omega
        have h1 : ys.length = 0 := by omega
        rw [h0, h1] at HCALL
        subst hA hc1
        clear h0 h1
        go_enter Try.func26, Try.ntmps26
        go_wp2_with fail
        with_reducible refine HCALL.out.mono ?_
        rintro e3 w3 ⟨r3, rfl, ho3, hb3⟩
        have HB3 := Lib.hid hb3
        clear ho3 hb3 hc
        go_wp2
        go_ret2
        exact ⟨_, by rw [E.out] <;> rfl, by rw [E.out]; exact Ow.emptyUp HB3.out.size, HB3.out⟩
      · subst hA
        go_enter Try.func26, Try.ntmps26
        go_wp2_with fail
        with_reducible refine HCALL.out.mono ?_
        rintro e3 w3 ⟨r3, rfl, ho3, hb3⟩
        have HB3 := Lib.hid hb3
        clear ho3 hb3 hc
        go_wp2
        go_ret2
        exact ⟨_, by rw [E.out] <;> rfl, by rw [E.out]; exact Ow.emptyUp HB3.out.size, HB3.out⟩
set_option maxHeartbeats 4000000 in
theorem implSeq (v : Value) (ss : List (List Int)) (w : World) (h : RdL w v ss) :
    Calls Try.prog 15 #[v] w fun e w' => ∃ r, e = .returned (.tuple #[r, .int .i64 (sqR ss).2]) ∧ Ow w' w.heap.size w'.heap.size r (sqR ss).1 ∧ Below w.heap.size w w' := by
  have HV := Lib.hid h
  obtain ⟨a, c, rfl⟩ : ∃ a c, v = .slice a ss.length c := by obtain ⟨_, a, c, e, _⟩ := h; exact ⟨a, c, e⟩
  clear h
  rcases eqOr (allN ss) with hn | hn
  · have HN := Lib.hid hn
    have e0 : Hid (sqR ss = ([], 1)) := Lib.hid (by rw [sqR, if_pos hn])
    clear hn
    go_enter Try.func15, Try.ntmps15
    go_wp2_with fail
    refine (areNats_any _ ss _ HV.out).mono ?_
    rintro e w1 ⟨rfl, hb1⟩
    rw [HN.out]
    have HB := Lib.hid hb1
    clear hb1
    go_wp2
    go_ret2
    exact ⟨_, by rw [e0.out] <;> rfl, by rw [e0.out]; exact Ow.emptyUp HB.out.size, HB.out⟩
  have HN := Lib.hid hn
  have hn1 : ¬ allN ss = false := by rw [hn]; simp
  by_cases h8 : ss.length ≤ 8
  rotate_left
  · have e0 : Hid (sqR ss = ([], 2)) := Lib.hid (by rw [sqR, if_neg hn1, if_pos h8])
    have k1 : (8 : Int) < (ss.length : Int) := by omega
    clear hn hn1 h8
    go_enter Try.func15, Try.ntmps15
    go_wp2_with fail
    refine (areNats_any _ ss _ HV.out).mono ?_
    rintro e w1 ⟨rfl, hb1⟩
    rw [HN.out]
    have HB := Lib.hid hb1
    clear hb1
    go_wp2
    go_ret2
    exact ⟨_, by rw [e0.out] <;> rfl, by rw [e0.out]; exact Ow.emptyUp HB.out.size, HB.out⟩
  have E : Hid (sqR ss = sqO ss) := Lib.hid (by rw [sqR, if_neg hn1, if_neg (by omega)]; rfl)
  have k1 : ¬ (8 : Int) < (ss.length : Int) := by omega
  clear hn hn1
  go_enter Try.func15, Try.ntmps15
  go_wp2_with fail
  refine (areNats_any _ ss _ HV.out).mono ?_
  rintro e w1 ⟨rfl, hb1⟩
  rw [HN.out]
  have HB := Lib.hid hb1
  clear hb1
  go_wp2_with fail
  refine (implSql ss _ _ (HV.out.below HB.out (Nat.le_refl _)) HN.out).mono ?_
  rintro e2 w2 ⟨r2, rfl, ho2, hb2⟩
  have HB2 := Lib.hid (HB.out.trans (hb2.mono HB.out.size))
  have HO2 := Lib.hid (ho2.mono HB.out.size (Nat.le_refl _) (Nat.le_refl _))
  clear ho2 hb2
  go_wp2
  go_ret2
  exact ⟨_, by rw [E.out] <;> rfl, by rw [E.out]; exact HO2.out, HB2.out⟩
end Go.Proofs.Ytamhahemfcajcaa.Ints
