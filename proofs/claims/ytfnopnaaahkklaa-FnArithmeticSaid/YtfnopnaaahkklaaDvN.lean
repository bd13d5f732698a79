/- Contracts of DivideNaturals and GcdNaturals, of the model and of the program. -/
import Derived.Test.YtfnopnaaahkklaaDvS
import Derived.Test.YtfnopnaaahkklaaDvL
import Derived.Test.YtfnopnaaahkklaaCmpNat2
import Derived.Test.YtfnopnaaahkklaaNats
namespace Go.Proofs.Ytfnopnaaahkklaa.Ints
open Go.RowKit
set_option linter.unusedVariables false
set_option linter.unusedSimpArgs false
noncomputable def dvQ (ps qs : List Int) : List Int := if natB ps = true ∧ natB qs = true ∧ 0 < qs.length then canOf (val ps / val qs) else []
noncomputable def dvR (ps qs : List Int) : List Int := if natB ps = true ∧ natB qs = true ∧ 0 < qs.length then canOf (val ps % val qs) else []
noncomputable def dvC (ps qs : List Int) : Int := if natB ps = true ∧ natB qs = true then (if 0 < qs.length then 0 else 2) else 1
theorem dv_bad {ps qs : List Int} (h : ¬ (natB ps = true ∧ natB qs = true)) : dvQ ps qs = [] ∧ dvR ps qs = [] ∧ dvC ps qs = 1 :=
  ⟨by rw [dvQ, if_neg (fun g => h ⟨g.1, g.2.1⟩)], by rw [dvR, if_neg (fun g => h ⟨g.1, g.2.1⟩)], by rw [dvC, if_neg h]⟩
theorem dv_zero {ps qs : List Int} (h : natB ps = true) (k : natB qs = true) (hz : ¬ 0 < qs.length) : dvQ ps qs = [] ∧ dvR ps qs = [] ∧ dvC ps qs = 2 :=
  ⟨by rw [dvQ, if_neg (fun g => hz g.2.2)], by rw [dvR, if_neg (fun g => hz g.2.2)], by rw [dvC, if_pos ⟨h, k⟩, if_neg hz]⟩
theorem dv_good {ps qs : List Int} (h : natB ps = true) (k : natB qs = true) (hz : 0 < qs.length) : dvQ ps qs = canOf (val ps / val qs) ∧ dvR ps qs = canOf (val ps % val qs) ∧ dvC ps qs = 0 :=
  ⟨by rw [dvQ, if_pos ⟨h, k, hz⟩], by rw [dvR, if_pos ⟨h, k, hz⟩], by rw [dvC, if_pos ⟨h, k⟩, if_pos hz]⟩
theorem sep_nil (v : Value) : Sep (.slice none 0 0) v := ⟨.inl rfl, by by_cases h : v.ownBlock = none; exact .inl h; exact .inr h⟩
theorem nat_cases (ps qs : List Int) : (natB ps = true ∧ natB qs = true) ∨ ¬ (natB ps = true ∧ natB qs = true) := Classical.em _
set_option maxHeartbeats 2000000 in
theorem specDivideNaturals (u : Value) (ps : List Int) (v : Value) (qs : List Int) (w : World) (hu : Rd w u ps) (hv : Rd w v qs) :
    Calls Try.prog 10 #[u, v] w fun e w' => ∃ r q, e = .returned (.tuple #[r, q, .int .i64 (dvC ps qs)]) ∧ Ow w' w.heap.size w'.heap.size r (dvQ ps qs) ∧ Ow w' w.heap.size w'.heap.size q (dvR ps qs) ∧ Sep r q ∧ Below w.heap.size w w' := by
  have HU := Lib.hid hu
  have HV := Lib.hid hv
  obtain ⟨_, _, a, c, rfl, _, _⟩ := hu
  obtain ⟨_, _, a', c', rfl, _, _⟩ := hv
  rcases eq_or (natB ps) with hx | hx
  · have HX := Lib.hid hx
    have HR := Lib.hid (dv_bad (ps := ps) (qs := qs) (fun h => by rw [h.1] at hx; cases hx))
    clear hx
    go_enter Try.func10, Try.ntmps10
    go_wp2_with (go_at_call 36; refine (specNat _ ps _ HU.out).mono ?_; rintro e w' ⟨rfl, rfl⟩; rw [HX.out])
    go_ret3
    exact ⟨_, _, by rw [HR.out.2.2] <;> rfl, by rw [HR.out.1]; exact Ow.nilOf w, by rw [HR.out.2.1]; exact Ow.nilOf w, sep_nil _, Below.refl _ _⟩
  have HX := Lib.hid hx
  rcases eq_or (natB qs) with hy | hy
  · have HY := Lib.hid hy
    have HR := Lib.hid (dv_bad (ps := ps) (qs := qs) (fun h => by rw [h.2] at hy; cases hy))
    clear hx hy
    go_enter Try.func10, Try.ntmps10
    go_wp2_with fail
    refine (specNat _ ps _ HU.out).mono ?_
    rintro e w' ⟨rfl, rfl⟩
    rw [HX.out]
    go_wp2_with fail
    refine (specNat _ qs _ HV.out).mono ?_
    rintro e w' ⟨rfl, rfl⟩
    rw [HY.out]
    go_wp2
    go_ret3
    exact ⟨_, _, by rw [HR.out.2.2] <;> rfl, by rw [HR.out.1]; exact Ow.nilOf w, by rw [HR.out.2.1]; exact Ow.nilOf w, sep_nil _, Below.refl _ _⟩
  have HY := Lib.hid hy
  have HP := Lib.hid (natB_can hx)
  have HQ := Lib.hid (natB_can hy)
  by_cases hz : 0 < qs.length
  · have HR := Lib.hid (dv_good hx hy hz)
    have z1 : ((qs.length : Int) == 0) = false := by rw [beq_eq_false_iff_ne]; omega
    have z2 : ¬ (qs.length : Int) = 0 := by omega
    clear hx hy
    go_enter Try.func10, Try.ntmps10
    go_wp2_with fail
    refine (specNat _ ps _ HU.out).mono ?_
    rintro e w' ⟨rfl, rfl⟩
    rw [HX.out]
    go_wp2_with fail
    refine (specNat _ qs _ HV.out).mono ?_
    rintro e w' ⟨rfl, rfl⟩
    rw [HY.out]
    go_wp2_with fail
    refine (specDv _ _ ps qs _ HU.out HV.out HP.out.1 HQ.out.1 (by have := HP.out.2; omega) (by have := HQ.out.2; omega) hz).mono ?_
    rintro e w1 ⟨r0, r1, rfl, o0, o1, sp, hb⟩
    have H0 := Lib.hid o0
    have H1 := Lib.hid o1
    have HS := Lib.hid sp
    have HB := Lib.hid hb
    clear o0 o1 sp hb
    go_wp2
    go_ret3
    exact ⟨_, _, by rw [HR.out.2.2] <;> rfl, by rw [HR.out.1]; exact H0.out, by rw [HR.out.2.1]; exact H1.out, HS.out, HB.out⟩
  · have HR := Lib.hid (dv_zero hx hy hz)
    have z1 : ((qs.length : Int) == 0) = true := by rw [beq_iff_eq]; omega
    have z2 : (qs.length : Int) = 0 := by omega
    clear hx hy
    go_enter Try.func10, Try.ntmps10
    go_wp2_with fail
    refine (specNat _ ps _ HU.out).mono ?_
    rintro e w' ⟨rfl, rfl⟩
    rw [HX.out]
    go_wp2_with fail
    refine (specNat _ qs _ HV.out).mono ?_
    rintro e w' ⟨rfl, rfl⟩
    rw [HY.out]
    go_wp2
    go_ret3
    exact ⟨_, _, by rw [HR.out.2.2] <;> rfl, by rw [HR.out.1]; exact Ow.nilOf w, by rw [HR.out.2.1]; exact Ow.nilOf w, sep_nil _, Below.refl _ _⟩
set_option maxHeartbeats 2000000 in
theorem implDivideNaturals (u : Value) (ps : List Int) (v : Value) (qs : List Int) (w : World) (hu : Rd w u ps) (hv : Rd w v qs) :
    Calls Try.prog 12 #[u, v] w fun e w' => ∃ r q, e = .returned (.tuple #[r, q, .int .i64 (dvC ps qs)]) ∧ Ow w' w.heap.size w'.heap.size r (dvQ ps qs) ∧ Ow w' w.heap.size w'.heap.size q (dvR ps qs) ∧ Sep r q ∧ Below w.heap.size w w' := by
  have hb0 : Below w.heap.size w (w.alloc (Obj.cells #[u, v] 22)) := (Below.refl _ _).alloc (Nat.le_refl _) _
  have HL := Lib.hid (rdl_two hu hv)
  have HU := Lib.hid hu
  have HV := Lib.hid hv
  have HB0 := Lib.hid hb0
  obtain ⟨_, _, a, c, rfl, _, _⟩ := hu
  obtain ⟨_, _, a', c', rfl, _, _⟩ := hv
  clear hb0
  rcases eq_or (natB ps && natB qs) with hx | hx
  · have HX : Hid (allN [ps, qs] = false) := Lib.hid (by rw [allN_two]; exact hx)
    have HR := Lib.hid (dv_bad (ps := ps) (qs := qs) (fun h => by rw [h.1, h.2] at hx; cases hx))
    clear hx
    go_enter Try.func12, Try.ntmps12
    go_wp2_with (go_at_call 38; refine (areNats_any _ [ps, qs] _ HL.out).mono ?_; rintro e w1 ⟨rfl, hb⟩; rw [HX.out]; have HB := Lib.hid (HB0.out.trans (hb.mono (by simp))); clear hb)
    go_ret3
    exact ⟨_, _, by rw [HR.out.2.2] <;> rfl, by rw [HR.out.1]; exact Ow.nilUp HB.out.size, by rw [HR.out.2.1]; exact Ow.nilUp HB.out.size, sep_nil _, HB.out⟩
  have HX : Hid (allN [ps, qs] = true) := Lib.hid (by rw [allN_two]; exact hx)
  have hxy : natB ps = true ∧ natB qs = true := by simpa using hx
  have HP := Lib.hid (natB_can hxy.1)
  have HQ := Lib.hid (natB_can hxy.2)
  by_cases hz : 0 < qs.length
  · have HR := Lib.hid (dv_good hxy.1 hxy.2 hz)
    have z1 : ((qs.length : Int) == 0) = false := by rw [beq_eq_false_iff_ne]; omega
    have z2 : ¬ (qs.length : Int) = 0 := by omega
    clear hx hxy
    go_enter Try.func12, Try.ntmps12
    go_wp2_with fail
    refine (areNats_any _ [ps, qs] _ HL.out).mono ?_
    rintro e w1 ⟨rfl, hb⟩
    rw [HX.out]
    have HB := Lib.hid (HB0.out.trans (hb.mono (by simp)))
    clear hb
    go_wp2_with fail
    refine (implDv _ _ ps qs _ (HU.out.below HB.out (Nat.le_refl _)) (HV.out.below HB.out (Nat.le_refl _)) HP.out.1 HQ.out.1 (by have := HP.out.2; omega) hz).mono ?_
    rintro e w2 ⟨r0, r1, rfl, o0, o1, sp, hb⟩
    have H0 := Lib.hid (o0.mono HB.out.size (Nat.le_refl _) (Nat.le_refl _))
    have H1 := Lib.hid (o1.mono HB.out.size (Nat.le_refl _) (Nat.le_refl _))
    have HS := Lib.hid sp
    have HB2 := Lib.hid (HB.out.trans (hb.mono HB.out.size))
    clear o0 o1 sp hb
    go_wp2
    go_ret3
    exact ⟨_, _, by rw [HR.out.2.2] <;> rfl, by rw [HR.out.1]; exact H0.out, by rw [HR.out.2.1]; exact H1.out, HS.out, HB2.out⟩
  · have HR := Lib.hid (dv_zero hxy.1 hxy.2 hz)
    have z1 : ((qs.length : Int) == 0) = true := by rw [beq_iff_eq]; omega
    have z2 : (qs.length : Int) = 0 := by omega
    clear hx hxy
    go_enter Try.func12, Try.ntmps12
    go_wp2_with fail
    refine (areNats_any _ [ps, qs] _ HL.out).mono ?_
    rintro e w1 ⟨rfl, hb⟩
    rw [HX.out]
    have HB := Lib.hid (HB0.out.trans (hb.mono (by simp)))
    clear hb
    go_wp2
    go_ret3
    exact ⟨_, _, by rw [HR.out.2.2] <;> rfl, by rw [HR.out.1]; exact Ow.nilUp HB.out.size, by rw [HR.out.2.1]; exact Ow.nilUp HB.out.size, sep_nil _, HB.out⟩
noncomputable def gcN (ps qs : List Int) : Nat := Nat.gcd (val ps).toNat (val qs).toNat
noncomputable def gcV (ps qs : List Int) : List Int := if natB ps = true ∧ natB qs = true then canOf (gcN ps qs : Int) else []
noncomputable def gcC (ps qs : List Int) : Int := if natB ps = true ∧ natB qs = true then 0 else 1
theorem gc_bad {ps qs : List Int} (h : ¬ (natB ps = true ∧ natB qs = true)) : gcV ps qs = [] ∧ gcC ps qs = 1 := ⟨if_neg h, if_neg h⟩
theorem gc_good {ps qs : List Int} (h : natB ps = true ∧ natB qs = true) : gcV ps qs = canOf (gcN ps qs : Int) ∧ gcC ps qs = 0 := ⟨if_pos h, if_pos h⟩
/-- The state of Euclid's loop. -/
structure GcS (G : Nat) (xs ys : List Int) : Prop where
  x : Can xs
  y : Can ys
  lx : xs.length ≤ 40
  ly : ys.length ≤ 40
  g : gcN xs ys = G
theorem GcS.step {G : Nat} {xs ys : List Int} (h : GcS G xs ys) (hy : 0 < ys.length) : GcS G ys (canOf (val xs % val ys)) ∧ val (canOf (val xs % val ys)) < val ys := by
  have hv := val_pos h.y hy
  have h0 := val_nonneg h.x.1
  have m0 := Int.emod_nonneg (val xs) (show val ys ≠ 0 by omega)
  have m1 := Int.emod_lt_of_pos (val xs) hv
  obtain ⟨c1, c2⟩ := canOf_spec m0
  have hl : (canOf (val xs % val ys)).length ≤ ys.length := can_len c1 (by rw [c2]; have := val_lt h.y.1; omega)
  refine ⟨⟨h.y, c1, h.ly, by have := h.ly; omega, ?_⟩, by rw [c2]; exact m1⟩
  rw [← h.g, gcN, gcN, c2]
  have e : (val xs % val ys).toNat = (val xs).toNat % (val ys).toNat := by
    obtain ⟨X, hX⟩ : ∃ X : Nat, val xs = X := ⟨(val xs).toNat, by omega⟩
    obtain ⟨Y, hY⟩ : ∃ Y : Nat, val ys = Y := ⟨(val ys).toNat, by omega⟩
    rw [hX, hY]
    simp only [Int.toNat_natCast]
    rfl
  rw [e, Nat.gcd_comm (val xs).toNat, Nat.gcd_rec (val ys).toNat (val xs).toNat, Nat.gcd_comm]
theorem GcS.done {G : Nat} {xs ys : List Int} (h : GcS G xs ys) (hy : ¬ 0 < ys.length) : xs = canOf (G : Int) := by
  have hn : ys = [] := List.length_eq_zero_iff.1 (by omega)
  have hg := h.g
  rw [hn, gcN] at hg
  have h0 := val_nonneg h.x.1
  simp only [val, Int.toNat_zero, Nat.gcd_zero_right] at hg
  rw [← hg, Int.toNat_of_nonneg h0]
  exact (canOf_val h.x).symm
theorem Rd.uniq {w : World} {v : Value} {xs ys : List Int} (h : Rd w v xs) (k : Rd w v ys) : xs = ys := by
  obtain ⟨_, _, a, c, e, _, hr⟩ := h
  obtain ⟨_, _, a', c', e', _, hr'⟩ := k
  rw [e] at e'
  simp only [Value.slice.injEq] at e'
  obtain ⟨ea, el, _⟩ := e'
  by_cases h0 : xs = []
  · rw [h0] at el ⊢
    exact (List.length_eq_zero_iff.1 el.symm).symm
  · obtain ⟨b, o, ha, _, hc⟩ := hr h0
    have h1 : ys ≠ [] := by
      intro hy; rw [hy] at el
      exact h0 (List.length_eq_zero_iff.1 el)
    obtain ⟨b', o', ha', _, hc'⟩ := hr' h1
    rw [ea, ha'] at ha
    simp only [Option.some.injEq, Addr.mk.injEq, and_true] at ha
    obtain ⟨rfl, rfl⟩ := ha
    apply List.ext_getElem el
    intro i h2 h3
    have e1 := hc i h2
    have e2 := hc' i h3
    rw [e1] at e2
    simp only [Option.some.injEq, Value.int.injEq, true_and] at e2
    simpa [List.getD_eq_getElem?_getD, h2, h3] using e2
/-- The value of the natural that is read at a list: a measure for loops. -/
noncomputable def rdVal (w : World) (v : Value) : Nat := open Classical in if h : ∃ ys, Rd w v ys then (val h.choose).toNat else 0
theorem rdVal_eq {w : World} {v : Value} {ys : List Int} (h : Rd w v ys) : rdVal w v = (val ys).toNat := by
  have hex : ∃ ys, Rd w v ys := ⟨ys, h⟩
  unfold rdVal
  rw [dif_pos hex, (hex.choose_spec).uniq h]
set_option maxHeartbeats 2000000 in
theorem specGcd (u v : Value) (ps qs : List Int) (w : World) (hu : Rd w u ps) (hv : Rd w v qs) (hp : Can ps ∧ ps.length ≤ 40) (hq : Can qs ∧ qs.length ≤ 40) :
    Calls Try.prog 40 #[u, v] w fun e w' => ∃ r, e = .returned r ∧ Ow w' w.heap.size w'.heap.size r (canOf (gcN ps qs : Int)) ∧ Below w.heap.size w w' := by
  have HU := Lib.hid hu
  have HV := Lib.hid hv
  have H0 : Hid (GcS (gcN ps qs) ps qs) := Lib.hid ⟨hp.1, hq.1, hp.2, hq.2, rfl⟩
  obtain ⟨G, hG⟩ : ∃ G, G = gcN ps qs := ⟨_, rfl⟩
  rw [← hG] at H0 ⊢
  clear hu hv hp hq hG
  go_enter Try.func40, Try.ntmps40
  go_wp2
  go_loopw [0, 1] (fun x y wr => ∃ (xs ys : List Int) (xv yv : Value), x = xv ∧ y = yv ∧ GcS G xs ys ∧ Rd wr xv xs ∧ Rd wr yv ys ∧ Below w.heap.size w wr) (fun _ y wr => rdVal wr y)
  case atStart => exact ⟨ps, qs, _, _, rfl, rfl, H0.out, HU.out, HV.out, Below.refl _ _⟩
  case round =>
    obtain ⟨xs, ys, xv, yv, hxv, hyv, hg, hx, hy, hb⟩ := hrel
    obtain rfl := hxv.symm
    obtain rfl := hyv.symm
    have HG := Lib.hid hg
    have HXr := Lib.hid hx
    have HYr := Lib.hid hy
    have HB := Lib.hid hb
    obtain ⟨_, _, ay, cy, rfl, _, _⟩ := hy
    clear hg hx hb
    by_cases hpos : 0 < ys.length
    · have p1 : (0 : Int) < (ys.length : Int) := by omega
      go_wp2_with fail
      refine (specDv _ _ xs ys _ HXr.out HYr.out HG.out.x HG.out.y (by have := HG.out.lx; omega) (by have := HG.out.ly; omega) hpos).mono ?_
      rintro e w1 ⟨r0, r1, rfl, o0, o1, sp, hb⟩
      have HR1 := Lib.hid o1.rd
      have HY1 := Lib.hid (HYr.out.below hb (Nat.le_refl _))
      have HB1 := Lib.hid (HB.out.trans (hb.mono HB.out.size))
      have HS := Lib.hid (HG.out.step hpos)
      clear o0 o1 sp hb
      go_wp2
      go_roundw
      case rel => exact ⟨ys, _, _, _, rfl, rfl, HS.out.1, HY1.out, HR1.out, HB1.out⟩
      case measure =>
        rw [rdVal_eq HR1.out, rdVal_eq HYr.out]
        have h2 := HS.out.2
        have h3 := val_nonneg HS.out.1.y.1
        omega
    · have p1 : ¬ (0 : Int) < (ys.length : Int) := by omega
      have HE := Lib.hid (HG.out.done hpos)
      go_wp2_with fail
      refine (specOwn _ xs _ HXr.out).mono ?_
      rintro e w1 ⟨r, rfl, ho, hb⟩
      have HO := Lib.hid (ho.mono HB.out.size (Nat.le_refl _) (Nat.le_refl _))
      have HB1 := Lib.hid (HB.out.trans (hb.mono HB.out.size))
      clear ho hb
      go_wp2
      go_ret
      exact ⟨_, rfl, by rw [← HE.out]; exact HO.out, HB1.out⟩
set_option maxHeartbeats 2000000 in
theorem specGcdNaturals (u : Value) (ps : List Int) (v : Value) (qs : List Int) (w : World) (hu : Rd w u ps) (hv : Rd w v qs) :
    Calls Try.prog 16 #[u, v] w fun e w' => ∃ r, e = .returned (.tuple #[r, .int .i64 (gcC ps qs)]) ∧ Ow w' w.heap.size w'.heap.size r (gcV ps qs) ∧ Below w.heap.size w w' := by
  have HU := Lib.hid hu
  have HV := Lib.hid hv
  clear hu hv
  rcases eq_or (natB ps) with hx | hx
  · have HX := Lib.hid hx
    have HR := Lib.hid (gc_bad (ps := ps) (qs := qs) (fun h => by rw [h.1] at hx; cases hx))
    clear hx
    go_enter Try.func16, Try.ntmps16
    go_wp2_with (go_at_call 36; refine (specNat _ ps _ HU.out).mono ?_; rintro e w' ⟨rfl, rfl⟩; rw [HX.out])
    go_ret2
    exact ⟨_, by rw [HR.out.2] <;> rfl, by rw [HR.out.1]; exact Ow.nilOf w, Below.refl _ _⟩
  have HX := Lib.hid hx
  rcases eq_or (natB qs) with hy | hy
  · have HY := Lib.hid hy
    have HR := Lib.hid (gc_bad (ps := ps) (qs := qs) (fun h => by rw [h.2] at hy; cases hy))
    clear hx hy
    go_enter Try.func16, Try.ntmps16
    go_wp2_with fail
    refine (specNat _ ps _ HU.out).mono ?_
    rintro e w' ⟨rfl, rfl⟩
    rw [HX.out]
    go_wp2_with fail
    refine (specNat _ qs _ HV.out).mono ?_
    rintro e w' ⟨rfl, rfl⟩
    rw [HY.out]
    go_wp2
    go_ret2
    exact ⟨_, by rw [HR.out.2] <;> rfl, by rw [HR.out.1]; exact Ow.nilOf w, Below.refl _ _⟩
  have HY := Lib.hid hy
  have HP := Lib.hid (natB_can hx)
  have HQ := Lib.hid (natB_can hy)
  have HR := Lib.hid (gc_good ⟨hx, hy⟩)
  clear hx hy
  go_enter Try.func16, Try.ntmps16
  go_wp2_with fail
  refine (specNat _ ps _ HU.out).mono ?_
  rintro e w' ⟨rfl, rfl⟩
  rw [HX.out]
  go_wp2_with fail
  refine (specNat _ qs _ HV.out).mono ?_
  rintro e w' ⟨rfl, rfl⟩
  rw [HY.out]
  go_wp2_with fail
  refine (specGcd _ _ ps qs _ HU.out HV.out HP.out HQ.out).mono ?_
  rintro e w1 ⟨r, rfl, ho, hb⟩
  have HO := Lib.hid ho
  have HB := Lib.hid hb
  clear ho hb
  go_wp2
  go_ret2
  exact ⟨_, by rw [HR.out.2] <;> rfl, by rw [HR.out.1]; exact HO.out, HB.out⟩
set_option maxHeartbeats 2000000 in
theorem implGcdNaturals (u : Value) (ps : List Int) (v : Value) (qs : List Int) (w : World) (hu : Rd w u ps) (hv : Rd w v qs) :
    Calls Try.prog 17 #[u, v] w fun e w' => ∃ r, e = .returned (.tuple #[r, .int .i64 (gcC ps qs)]) ∧ Ow w' w.heap.size w'.heap.size r (gcV ps qs) ∧ Below w.heap.size w w' := by
  have hb0 : Below w.heap.size w (w.alloc (Obj.cells #[u, v] 22)) := (Below.refl _ _).alloc (Nat.le_refl _) _
  have HL := Lib.hid (rdl_two hu hv)
  have HU := Lib.hid hu
  have HV := Lib.hid hv
  have HB0 := Lib.hid hb0
  obtain ⟨_, _, a, c, rfl, _, _⟩ := hu
  obtain ⟨_, _, a', c', rfl, _, _⟩ := hv
  clear hb0
  rcases eq_or (natB ps && natB qs) with hx | hx
  · have HX : Hid (allN [ps, qs] = false) := Lib.hid (by rw [allN_two]; exact hx)
    have HR := Lib.hid (gc_bad (ps := ps) (qs := qs) (fun h => by rw [h.1, h.2] at hx; cases hx))
    clear hx
    go_enter Try.func17, Try.ntmps17
    go_wp2_with fail
    refine (areNats_any _ [ps, qs] _ HL.out).mono ?_
    rintro e w1 ⟨rfl, hb⟩
    rw [HX.out]
    have HB := Lib.hid (HB0.out.trans (hb.mono (by simp)))
    clear hb
    go_wp2
    go_ret2
    exact ⟨_, by rw [HR.out.2] <;> rfl, by rw [HR.out.1]; exact Ow.nilUp HB.out.size, HB.out⟩
  have HX : Hid (allN [ps, qs] = true) := Lib.hid (by rw [allN_two]; exact hx)
  have hxy : natB ps = true ∧ natB qs = true := by simpa using hx
  have hp := natB_can hxy.1
  have hq := natB_can hxy.2
  have HR := Lib.hid (gc_good hxy)
  have H0 : Hid (GcS (gcN ps qs) ps qs) := Lib.hid ⟨hp.1, hq.1, hp.2, hq.2, rfl⟩
  obtain ⟨G, hG⟩ : ∃ G, G = gcN ps qs := ⟨_, rfl⟩
  rw [← hG] at H0 HR
  clear hx hxy hp hq hG
  go_enter Try.func17, Try.ntmps17
  go_wp2_with fail
  refine (areNats_any _ [ps, qs] _ HL.out).mono ?_
  rintro e w1 ⟨rfl, hb⟩
  rw [HX.out]
  have HB9 := Lib.hid (HB0.out.trans (hb.mono (by simp)))
  clear hb
  go_wp2
  go_loopw [0, 1] (fun x y wr => ∃ (xs ys : List Int) (xv yv : Value), x = xv ∧ y = yv ∧ GcS G xs ys ∧ Rd wr xv xs ∧ Rd wr yv ys ∧ Below w.heap.size w wr) (fun _ y wr => rdVal wr y)
  case atStart => exact ⟨ps, qs, _, _, rfl, rfl, H0.out, HU.out.below HB9.out (Nat.le_refl _), HV.out.below HB9.out (Nat.le_refl _), HB9.out⟩
  case round =>
    obtain ⟨xs, ys, xv, yv, hxv, hyv, hg, hx, hy, hb⟩ := hrel
    obtain rfl := hxv.symm
    obtain rfl := hyv.symm
    have HG := Lib.hid hg
    have HXr := Lib.hid hx
    have HYr := Lib.hid hy
    have HB := Lib.hid hb
    obtain ⟨_, _, ay, cy, rfl, _, _⟩ := hy
    clear hg hx hb
    by_cases hpos : 0 < ys.length
    · have p1 : (0 : Int) < (ys.length : Int) := by omega
      go_wp2_with fail
      refine (implDv _ _ xs ys _ HXr.out HYr.out HG.out.x HG.out.y (by have := HG.out.lx; omega) hpos).mono ?_
      rintro e w1 ⟨r0, r1, rfl, o0, o1, sp, hb⟩
      have HR1 := Lib.hid o1.rd
      have HY1 := Lib.hid (HYr.out.below hb (Nat.le_refl _))
      have HB1 := Lib.hid (HB.out.trans (hb.mono HB.out.size))
      have HS := Lib.hid (HG.out.step hpos)
      clear o0 o1 sp hb
      go_wp2
      go_roundw
      case rel => exact ⟨ys, _, _, _, rfl, rfl, HS.out.1, HY1.out, HR1.out, HB1.out⟩
      case measure =>
        rw [rdVal_eq HR1.out, rdVal_eq HYr.out]
        have h2 := HS.out.2
        have h3 := val_nonneg HS.out.1.y.1
        omega
    · have p1 : ¬ (0 : Int) < (ys.length : Int) := by omega
      have HE := Lib.hid (HG.out.done hpos)
      go_wp2_with fail
      refine (libClone _ xs _ HXr.out).mono ?_
      rintro e w1 ⟨r, rfl, ho, hb⟩
      have HO := Lib.hid (ho.mono HB.out.size (Nat.le_refl _) (Nat.le_refl _))
      have HB1 := Lib.hid (HB.out.trans (hb.mono HB.out.size))
      clear ho hb
      go_wp2
      go_ret2
      exact ⟨_, by rw [HR.out.2] <;> rfl, by rw [HR.out.1, ← HE.out]; exact HO.out, HB1.out⟩
end Go.Proofs.Ytfnopnaaahkklaa.Ints
