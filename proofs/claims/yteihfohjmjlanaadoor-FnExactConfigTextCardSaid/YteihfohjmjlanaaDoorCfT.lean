/- The text of a configuration, of the model and of the program. -/
import Derived.Test.YteihfohjmjlanaaDoorLetS
import Derived.Test.YteihfohjmjlanaaDoorLetI
import Derived.Test.YteihfohjmjlanaaDoorCtT
import Derived.Test.YteihfohjmjlanaaDoorSideV
import Derived.Test.YteihfohjmjlanaaDoorRev
import Derived.Test.YteihfohjmjlanaaDoorRevI
import Derived.Deep.RegionHeld3
namespace Go.Proofs.YteihfohjmjlanaaDoor.Ints
open Go.RowKit
set_option linter.unusedVariables false
set_option linter.unusedSimpArgs false
def cfX (cst : Int) (ls rs : List Int) : List UInt8 := dgT ls.reverse ++ [40] ++ Lib.itoa cst ++ [41] ++ dgT rs
noncomputable def cfV (sy st : Int) (ms : List Ru) (cst : Int) (ls rs : List Int) : List UInt8 := if vcB sy st ms cst ls rs = true then cfX cst ls rs else []
theorem dig_rev {b : Int} {zs : List Int} (h : Dig b zs) : Dig b zs.reverse := fun i hi => by
  rw [List.length_reverse] at hi
  have := h (zs.length - 1 - i) (by omega)
  rw [List.getD_eq_getElem?_getD, List.getElem?_reverse hi, ← List.getD_eq_getElem?_getD]
  exact this
theorem side_dig {sy : Int} {zs : List Int} (h : sideB sy zs = true) : Dig sy zs := by
  have h1 : SideOk sy zs := by simpa [sideB] using h
  first | exact h1.dig | exact h1.2.1 | exact h1.1 | exact fun i hi => h1.all i hi
theorem vc_fit {sy st : Int} {ms : List Ru} {cst : Int} {ls rs : List Int} (h : vcB sy st ms cst ls rs = true) : (0 ≤ cst ∧ cst < 1000000) ∧ Dig 10 ls ∧ Dig 10 rs ∧ ls.length ≤ 200 ∧ rs.length ≤ 200 := by
  have hs := vc_small h
  simp only [vcB, goodB, Bool.and_eq_true, decide_eq_true_eq] at h
  have hm := machB_ok h.1
  have h1 := hm.s1
  have h2 := hm.t1
  have d1 := side_dig h.2.2.1
  have d2 := side_dig h.2.2.2
  exact ⟨by omega, fun i hi => by have := d1 i hi; omega, fun i hi => by have := d2 i hi; omega, hs.1, hs.2⟩
set_option maxHeartbeats 8000000 in
theorem specCfShow (g : Nat) (sy st : Int) (ms : List Ru) (cst : Int) (u : Value) (ls : List Int) (u' : Value) (rs : List Int) (t : ByteArray) (w : World) (hu : Rd w u ls) (hu' : Rd w u' rs) (hc : Cels w g 42 [.int .i64 cst, u, u']) (hvc : vcB sy st ms cst ls rs = true) (ht : t = bs (cfX cst ls rs)) :
    Calls Tryd.prog 44 #[.pointer (some ⟨g, 0, none⟩)] w fun e w' => e = .returned (.string t) ∧ Below w.heap.size w w' := by
  have HU := Lib.hid hu
  have HU' := Lib.hid hu'
  have HK := Lib.hid hc
  obtain ⟨⟨x0, x1⟩, hdl, hdr, hll, hlr⟩ := vc_fit hvc
  obtain ⟨_, _, a1, c1, rfl, _, _⟩ := hu
  obtain ⟨_, _, a2, c2, rfl, _, _⟩ := hu'
  obtain ⟨tx, htx⟩ : ∃ t, t = bs (dgT ls.reverse) := ⟨_, rfl⟩
  obtain ⟨ty, hty⟩ : ∃ t, t = bs (Lib.itoa cst) := ⟨_, rfl⟩
  obtain ⟨tz, htz⟩ : ∃ t, t = bs (dgT rs) := ⟨_, rfl⟩
  have sx : tx.size ≤ 200 := by rw [htx, bs_size, dgT_length, List.length_reverse]; exact hll
  have sy' : ty.size ≤ 21 := by rw [hty, bs_size]; exact Lib.itoa_length_le cst (by omega) (by omega)
  have sz : tz.size ≤ 200 := by rw [htz, bs_size, dgT_length]; exact hlr
  have HX := Lib.hid htx
  have HY := Lib.hid hty
  have HZ := Lib.hid htz
  have HDl : Hid (Dig 10 ls.reverse) := Lib.hid (dig_rev hdl)
  have HDr := Lib.hid hdr
  have HE : Hid (tx ++ bs [40] ++ ty ++ bs [41] ++ tz = t) := Lib.hid (by rw [htx, hty, htz, bs_append, bs_append, bs_append, bs_append, ht]; rfl)
  have q1 : ¬ (9223372036854775807 < tx.size + 1) := by omega
  have q2 : ¬ (9223372036854775807 < tx.size + 1 + ty.size) := by omega
  have q3 : ¬ (9223372036854775807 < tx.size + 1 + ty.size + 1) := by omega
  have q4 : ¬ (9223372036854775807 < tx.size + 1 + ty.size + 1 + tz.size) := by omega
  have q5 : ¬ (9223372036854775807 ≤ tx.size) := by omega
  have q6 : ¬ (9223372036854775807 ≤ tx.size + 1 + ty.size) := by omega
  have HS : Hid (∀ W, Below w.heap.size w W → W.cell? ⟨g, 0, none⟩ = some (.int .i64 cst) ∧ W.cell? ⟨g, 1, none⟩ = some (.slice a1 ls.length c1) ∧ W.cell? ⟨g, 2, none⟩ = some (.slice a2 rs.length c2)) := Lib.hid (fun W hW => by
    have h := HK.out.below hW HK.out.lt
    exact ⟨h.cell 0 rfl, h.cell 1 rfl, h.cell 2 rfl⟩)
  have HD : Hid (Below w.heap.size w w.drew) := Lib.hid (Below.refl _ _).drew
  clear hc htx hty htz ht hvc hdl hdr hll hlr
  go_enter Tryd.func44, Tryd.ntmps44
  go_wp2
  go_region_held3 (fun W => W.cell? ⟨g, 0, none⟩ = some (.int .i64 cst) ∧ W.cell? ⟨g, 1, none⟩ = some (.slice a1 ls.length c1) ∧ W.cell? ⟨g, 2, none⟩ = some (.slice a2 rs.length c2))
    (exact HS.out _ HD.out)
    (first | (go_at_call 82; with_reducible refine (specRev _ ls _ (HU.out.below HD.out (Nat.le_refl _))).mono ?_; rintro e1 w4 ⟨r, rfl, ho, bq⟩; replace HD := Lib.hid (HD.out.trans (bq.mono HD.out.size)); have HRv := Lib.hid ho.rd; clear ho bq) | (go_at_call 81; (first | (with_reducible refine (specDigits5 _ ls.reverse tx _ HRv.out HDl.out HX.out).mono ?_) | (with_reducible refine (specDigits5 _ rs tz _ (HU'.out.below HD.out (Nat.le_refl _)) HDr.out HZ.out).mono ?_)); rintro e1 w4 ⟨rfl, bq⟩; replace HD := Lib.hid (HD.out.trans (bq.mono HD.out.size)); clear bq) | (go_at_call 73; with_reducible refine (specDecT _ ty (by omega) (by omega) HY.out _).mono ?_; rintro e1 w4 ⟨rfl, bq⟩; replace HD := Lib.hid (HD.out.trans (bq.mono HD.out.size)); clear bq))
  all_goals
    go_wp2
    go_ret
    exact ⟨by rw [← HE.out]; rfl, HD.out⟩
set_option maxHeartbeats 2000000 in
theorem specCfText (sy st : Int) (v : Value) (ms : List Ru) (cst : Int) (u : Value) (ls : List Int) (u' : Value) (rs : List Int) (w : World) (hv : RdR w v ms) (hu : Rd w u ls) (hu' : Rd w u' rs) (t : ByteArray) (ht : t = bs (cfV sy st ms cst ls rs)) :
    Calls Tryd.prog 15 #[.agg #[.int .i64 sy, .int .i64 st, v], .agg #[.int .i64 cst, u, u']] w fun e w' => e = .returned (.string t) ∧ Below w.heap.size w w' := by
  have HTx := Lib.hid ht
  clear ht
  have HV := Lib.hid hv
  have HU := Lib.hid hu
  have HU' := Lib.hid hu'
  obtain ⟨_, _, a, c, rfl, _, _⟩ := hv
  obtain ⟨_, _, a1, c1, rfl, _, _⟩ := hu
  obtain ⟨_, _, a2, c2, rfl, _, _⟩ := hu'
  obtain ⟨W0, hW0⟩ : ∃ W, W = (w.alloc (Obj.cells #[.int .i64 sy, .int .i64 st, .slice a ms.length c] 40)).alloc (Obj.cells #[.int .i64 cst, .slice a1 ls.length c1, .slice a2 rs.length c2] 42) := ⟨_, rfl⟩
  have HB : Hid (Below w.heap.size w W0) := Lib.hid (by rw [hW0]; exact ((Below.refl w.heap.size w).alloc (Nat.le_refl _) _).alloc (by simp) _)
  have K1 : Hid (Cels W0 w.heap.size 40 [.int .i64 sy, .int .i64 st, .slice a ms.length c]) := Lib.hid (by rw [hW0]; exact (Cels.new _ _ _).alloc _)
  have K2 : Hid (Cels W0 (w.heap.size + 1) 42 [.int .i64 cst, .slice a1 ls.length c1, .slice a2 rs.length c2]) := Lib.hid (by rw [hW0]; have h := Cels.new (w.alloc (Obj.cells #[.int .i64 sy, .int .i64 st, .slice a ms.length c] 40)) 42 [.int .i64 cst, .slice a1 ls.length c1, .slice a2 rs.length c2]; rw [World.size_alloc] at h; exact h)
  have HW0 := Lib.hid hW0.symm
  clear hW0
  obtain ⟨bm, hbm⟩ : ∃ b, b = machB sy st ms := ⟨_, rfl⟩
  have HM := Lib.hid hbm
  clear hbm
  go_enter Tryd.func15, Tryd.ntmps15
  go_wp2_with fail
  rw [HW0.out]
  refine (specIs w.heap.size sy st _ ms _ (HV.out.below HB.out (Nat.le_refl _)) (K1.out.cell 0 rfl) (K1.out.cell 1 rfl) (K1.out.cell 2 rfl)).mono ?_
  rintro e w1 ⟨rfl, hb1⟩
  rw [← HM.out]
  have K1' := Lib.hid (K1.out.below hb1 K1.out.lt)
  have K2' := Lib.hid (K2.out.below hb1 K2.out.lt)
  have HB1 := Lib.hid (HB.out.trans (hb1.mono HB.out.size))
  clear hb1
  rcases eqOr bm with hb | hb
  · subst hb
    have e := Lib.hid (show vcB sy st ms cst ls rs = false by rw [vcB, ← HM.out]; rfl)
    go_wp2_with fail
    go_ret
    exact ⟨by rw [HTx.out, cfV, e.out]; rfl, HB1.out⟩
  · subst hb
    have hmo := machB_ok HM.out.symm
    have e := Lib.hid (show vcB sy st ms cst ls rs = goodB sy st cst ls rs by rw [vcB, ← HM.out]; rfl)
    have q0 := hmo.s0
    have q1 := hmo.s1
    have q2 := hmo.t0
    have q3 := hmo.t1
    clear hmo
    go_wp2_with fail
    refine (specGood w.heap.size (w.heap.size + 1) sy st cst _ _ ls rs _ (HU.out.below HB1.out (Nat.le_refl _)) (HU'.out.below HB1.out (Nat.le_refl _)) (K1'.out.cell 0 rfl) (K1'.out.cell 1 rfl) (K2'.out.cell 0 rfl) (K2'.out.cell 1 rfl) (K2'.out.cell 2 rfl) (by omega) (by omega) (by omega) (by omega)).mono ?_
    rintro e2 w2 ⟨rfl, hb2⟩
    have HB2 := Lib.hid (HB1.out.trans (hb2.mono HB1.out.size))
    have hb2' := hb2
    clear hb2
    replace K2' := Lib.hid (K2'.out.below (B := w1.heap.size) hb2' K2'.out.lt)
    obtain ⟨ok, hok⟩ : ∃ b, b = goodB sy st cst ls rs := ⟨_, rfl⟩
    have HOK := Lib.hid hok
    rw [← hok]
    clear hok hb2'
    have HVC : Hid (vcB sy st ms cst ls rs = ok) := Lib.hid (by rw [e.out, HOK.out])
    rcases eqOr ok with hb | hb
    · subst hb
      go_wp2_with fail
      go_ret
      exact ⟨by rw [HTx.out, cfV, HVC.out]; rfl, HB2.out⟩
    subst hb
    go_wp2_with fail
    refine (specCfShow _ sy st ms cst _ ls _ rs t _ (HU.out.below HB2.out (Nat.le_refl _)) (HU'.out.below HB2.out (Nat.le_refl _)) K2'.out HVC.out (by rw [HTx.out, cfV, if_pos HVC.out])).mono ?_
    rintro e3 w3 ⟨rfl, hb3⟩
    have HB3 := Lib.hid (HB2.out.trans (hb3.mono HB2.out.size))
    clear hb3
    go_wp2
    go_ret
    exact ⟨rfl, HB3.out⟩
theorem implDecC (n : Int) (t : ByteArray) (w : World) (n0 : -9223372036854775808 ≤ n) (n1 : n ≤ 9223372036854775807) (htb : TabV w) (ht : t = bs (Lib.itoa n)) :
    Calls Tryd.prog 49 #[.int .i64 n] w fun e w' => e = .returned (.string t) ∧ Below w.heap.size w w' := by
  subst ht; exact implDec n n0 n1 w htb
set_option maxHeartbeats 8000000 in
theorem implCfText (sy st : Int) (v : Value) (ms : List Ru) (cst : Int) (u : Value) (ls : List Int) (u' : Value) (rs : List Int) (w : World) (hv : RdR w v ms) (hu : Rd w u ls) (hu' : Rd w u' rs) (hnr : NoR w) (htb : TabV w) :
    Calls Tryd.prog 18 #[.agg #[.int .i64 sy, .int .i64 st, v], .agg #[.int .i64 cst, u, u']] w fun e w' => e = .returned (.string (bs (cfV sy st ms cst ls rs))) ∧ Below w.heap.size w w' := by
  obtain ⟨t, ht⟩ : ∃ t, t = bs (cfV sy st ms cst ls rs) := ⟨_, rfl⟩
  rw [← ht]
  have HTx := Lib.hid ht
  have HV := Lib.hid hv
  have HU0 := Lib.hid hu
  have HU0' := Lib.hid hu'
  have HTb := Lib.hid htb
  obtain ⟨_, _, a, c, rfl, _, _⟩ := hv
  have hU := hu
  have hU' := hu'
  obtain ⟨_, _, a1, c1, rfl, _, _⟩ := hu
  obtain ⟨_, _, a2, c2, rfl, _, _⟩ := hu'
  obtain ⟨g, hg⟩ : ∃ g, g = w.heap.size + 1 := ⟨_, rfl⟩
  obtain ⟨W0, hW0⟩ : ∃ W, W = (w.alloc (Obj.cells #[.int .i64 sy, .int .i64 st, .slice a ms.length c] 40)).alloc (Obj.cells #[.int .i64 cst, .slice a1 ls.length c1, .slice a2 rs.length c2] 42) := ⟨_, rfl⟩
  have HB : Hid (Below w.heap.size w W0) := Lib.hid (by rw [hW0]; exact ((Below.refl w.heap.size w).alloc (Nat.le_refl _) _).alloc (by simp) _)
  have K1 : Hid (Cels W0 w.heap.size 40 [.int .i64 sy, .int .i64 st, .slice a ms.length c]) := Lib.hid (by rw [hW0]; exact (Cels.new _ _ _).alloc _)
  have K2 : Hid (Cels W0 g 42 [.int .i64 cst, .slice a1 ls.length c1, .slice a2 rs.length c2]) := Lib.hid (by rw [hW0, hg]; have h := Cels.new (w.alloc (Obj.cells #[.int .i64 sy, .int .i64 st, .slice a ms.length c] 40)) 42 [.int .i64 cst, .slice a1 ls.length c1, .slice a2 rs.length c2]; rw [World.size_alloc] at h; exact h)
  have HW0 := Lib.hid hW0.symm
  have HN := Lib.hid (hnr.below HB.out (Nat.le_refl _))
  have HGg := Lib.hid hg.symm
  obtain ⟨ok, hok⟩ : ∃ b, b = vcB sy st ms cst ls rs := ⟨_, rfl⟩
  have HOK := Lib.hid hok
  have k0 := K1.out.cell 0 rfl
  have k1 := K1.out.cell 1 rfl
  have k2 := K1.out.cell 2 rfl
  have x0' := K2.out.cell 0 rfl
  have x1' := K2.out.cell 1 rfl
  have x2' := K2.out.cell 2 rfl
  rw [hg] at x0' x1' x2'
  clear hW0 hnr htb hok ht hg hU hU'
  go_enter Tryd.func18, Tryd.ntmps18
  go_wp2_with fail
  rw [HW0.out]
  go_wp2_with fail
  refine (implValidConfig sy st _ ms cst _ ls _ rs _ (HV.out.below HB.out (Nat.le_refl _)) (HU0.out.below HB.out (Nat.le_refl _)) (HU0'.out.below HB.out (Nat.le_refl _)) HN.out).mono ?_
  rintro e w1 ⟨rfl, hb1⟩
  rw [← HOK.out]
  replace K2 := Lib.hid (K2.out.below hb1 K2.out.lt)
  have HB1 := Lib.hid (HB.out.trans (hb1.mono HB.out.size))
  clear hb1 k0 k1 k2 x0' x1' x2'
  rcases eqOr ok with hb | hb
  · subst hb
    go_wp2_with fail
    go_ret
    exact ⟨by rw [HTx.out, cfV, ← HOK.out]; rfl, HB1.out⟩
  subst hb
  have hvc := HOK.out.symm
  have ht : t = bs (cfX cst ls rs) := by rw [HTx.out, cfV, if_pos hvc]
  have HU : Hid (Rd w1 (.slice a1 ls.length c1) ls) := Lib.hid (HU0.out.below HB1.out (Nat.le_refl _))
  have HU' : Hid (Rd w1 (.slice a2 rs.length c2) rs) := Lib.hid (HU0'.out.below HB1.out (Nat.le_refl _))
  replace HTb : Hid (TabV w1) := Lib.hid (HTb.out.below HB1.out (Nat.le_refl _))
  have HLT : Hid (w.heap.size ≤ w1.heap.size) := Lib.hid HB1.out.size
  obtain ⟨⟨x0, x1⟩, hdl, hdr, hll, hlr⟩ := vc_fit hvc
  obtain ⟨tx, htx⟩ : ∃ t, t = bs (dgT ls.reverse) := ⟨_, rfl⟩
  obtain ⟨ty, hty⟩ : ∃ t, t = bs (Lib.itoa cst) := ⟨_, rfl⟩
  obtain ⟨tz, htz⟩ : ∃ t, t = bs (dgT rs) := ⟨_, rfl⟩
  have sx : tx.size ≤ 200 := by rw [htx, bs_size, dgT_length, List.length_reverse]; exact hll
  have sy' : ty.size ≤ 21 := by rw [hty, bs_size]; exact Lib.itoa_length_le cst (by omega) (by omega)
  have sz : tz.size ≤ 200 := by rw [htz, bs_size, dgT_length]; exact hlr
  have HX := Lib.hid htx
  have HY := Lib.hid hty
  have HZ := Lib.hid htz
  have HDl : Hid (Dig 10 ls.reverse) := Lib.hid (dig_rev hdl)
  have HDr := Lib.hid hdr
  have HE : Hid (tx ++ bs [40] ++ ty ++ bs [41] ++ tz = t) := Lib.hid (by rw [htx, hty, htz, bs_append, bs_append, bs_append, bs_append, ht]; rfl)
  have q1 : ¬ (9223372036854775807 < tx.size + 1) := by omega
  have q2 : ¬ (9223372036854775807 < tx.size + 1 + ty.size) := by omega
  have q3 : ¬ (9223372036854775807 < tx.size + 1 + ty.size + 1) := by omega
  have q4 : ¬ (9223372036854775807 < tx.size + 1 + ty.size + 1 + tz.size) := by omega
  have q5 : ¬ (9223372036854775807 ≤ tx.size) := by omega
  have q6 : ¬ (9223372036854775807 ≤ tx.size + 1 + ty.size) := by omega
  have HS : Hid (∀ W, Below w1.heap.size w1 W → W.cell? ⟨g, 0, none⟩ = some (.int .i64 cst) ∧ W.cell? ⟨g, 1, none⟩ = some (.slice a1 ls.length c1) ∧ W.cell? ⟨g, 2, none⟩ = some (.slice a2 rs.length c2)) := Lib.hid (fun W hW => by
    have h := K2.out.below hW K2.out.lt
    exact ⟨h.cell 0 rfl, h.cell 1 rfl, h.cell 2 rfl⟩)
  have HD : Hid (Below w1.heap.size w1 w1.drew) := Lib.hid (Below.refl _ _).drew
  clear htx hty htz ht hvc hdl hdr hll hlr
  go_wp2
  try rw [HGg.out]
  go_region_held3 (fun W => W.cell? ⟨g, 0, none⟩ = some (.int .i64 cst) ∧ W.cell? ⟨g, 1, none⟩ = some (.slice a1 ls.length c1) ∧ W.cell? ⟨g, 2, none⟩ = some (.slice a2 rs.length c2))
    (exact HS.out _ HD.out)
    (first | (go_at_call 48; with_reducible refine (implReversed _ ls _ (HU.out.below HD.out (Nat.le_refl _))).mono ?_; rintro e1 w4 ⟨r, rfl, ho, bq⟩; replace HD := Lib.hid (HD.out.trans (bq.mono HD.out.size)); have HRv := Lib.hid ho.rd; clear ho bq) | (go_at_call 47; (first | (with_reducible refine (implLetText _ ls.reverse tx _ HRv.out HDl.out HX.out).mono ?_) | (with_reducible refine (implLetText _ rs tz _ (HU'.out.below HD.out (Nat.le_refl _)) HDr.out HZ.out).mono ?_)); rintro e1 w4 ⟨rfl, bq⟩; replace HD := Lib.hid (HD.out.trans (bq.mono HD.out.size)); clear bq) | (go_at_call 49; with_reducible refine (implDecC _ ty _ (by omega) (by omega) (HTb.out.below HD.out (Nat.le_refl _)) HY.out).mono ?_; rintro e1 w4 ⟨rfl, bq⟩; replace HD := Lib.hid (HD.out.trans (bq.mono HD.out.size)); clear bq))
  all_goals
    go_wp2
    go_ret
    exact ⟨by rw [← HE.out]; rfl, HB1.out.trans (HD.out.mono HLT.out)⟩
end Go.Proofs.YteihfohjmjlanaaDoor.Ints
