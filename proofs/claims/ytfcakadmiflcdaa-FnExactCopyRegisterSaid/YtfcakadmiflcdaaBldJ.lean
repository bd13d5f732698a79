/- JoinPrograms, LoopProgram, BranchProgram: the program's. -/
import Derived.Test.YtfcakadmiflcdaaPartL
namespace Go.Proofs.Ytfcakadmiflcdaa.Ints
open Go.RowKit
set_option linter.unusedVariables false
set_option linter.unusedSimpArgs false
theorem bResult (g B : Nat) (v : Value) (xs : List Ins) (w : World) (hk : Cels w g 95 [v]) (ho : OwIns w B w.heap.size v xs) :
    Calls Try.prog 87 #[.pointer (some ⟨g, 0, none⟩)] w fun e w' => ∃ r, e = .returned (.tuple #[r, .int .i64 (fitC xs)]) ∧ OwIns w' B w'.heap.size r (fitL xs) ∧ Below w.heap.size w w' := by
  obtain ⟨a, c, hv⟩ := ho.shape
  subst hv
  have k0 := hk.cell 0 rfl
  have HO := Lib.hid ho
  have hl := ho.len
  clear hk ho
  by_cases h : xs.length ≤ 400
  · have e := Lib.hid (fit_yes h)
    have hd : decide (400 < (xs.length : Int)) = false := decide_eq_false (by omega)
    clear h
    go_enter Try.func87, Try.ntmps87
    go_wp2
    go_ret2
    exact ⟨_, by rw [e.out.2] <;> rfl, by rw [e.out.1]; exact HO.out, Below.refl _ _⟩
  · have e := Lib.hid (fit_no h)
    have hd : decide (400 < (xs.length : Int)) = true := decide_eq_true (by omega)
    clear h
    go_enter Try.func87, Try.ntmps87
    go_wp2
    go_ret2
    exact ⟨_, by rw [e.out.2] <;> rfl, by rw [e.out.1]; exact OwIns.emptyUp HO.out.base, Below.refl _ _⟩
set_option maxHeartbeats 4000000 in
theorem implJoin (p1 : Value) (xa : List Ins) (p2 : Value) (xb : List Ins) (w : World) (h1 : RdIns w p1 xa) (h2 : RdIns w p2 xb) :
    Calls Try.prog 42 #[p1, p2] w fun e w' => ∃ r, e = .returned (.tuple #[r, .int .i64 (joinC xa xb)]) ∧ OwIns w' w.heap.size w'.heap.size r (joinR xa xb) ∧ Below w.heap.size w w' := by
  have H1 := Lib.hid h1
  have H2 := Lib.hid h2
  obtain ⟨_, _, a1, c1, rfl, _, _⟩ := h1
  obtain ⟨_, _, a2, c2, rfl, _, _⟩ := h2
  obtain ⟨ba, hba⟩ : ∃ b, b = progB xa := ⟨_, rfl⟩
  obtain ⟨bb, hbb⟩ : ∃ b, b = progB xb := ⟨_, rfl⟩
  have HA := Lib.hid hba
  have HBB := Lib.hid hbb
  clear hba hbb
  go_enter Try.func42, Try.ntmps42
  go_wp2_with fail
  refine (implValidProgram _ xa _ H1.out).mono ?_
  rintro e w1 ⟨rfl, hb1⟩
  rw [← HA.out]
  have HB1 := Lib.hid hb1
  clear hb1
  rcases eqOr ba with hb | hb
  · subst hb
    have e := Lib.hid (join_bad1 (b := xb) HA.out.symm)
    go_wp2_with fail
    go_ret2
    exact ⟨_, by rw [e.out.2] <;> rfl, by rw [e.out.1]; exact OwIns.emptyUp HB1.out.size, HB1.out⟩
  subst hb
  go_wp2_with fail
  refine (implValidProgram _ xb _ (H2.out.below HB1.out (Nat.le_refl _))).mono ?_
  rintro e w2 ⟨rfl, hb2⟩
  rw [← HBB.out]
  have HB2 := Lib.hid (HB1.out.trans (hb2.mono HB1.out.size))
  clear hb2
  rcases eqOr bb with hb | hb
  · subst hb
    have e := Lib.hid (join_bad2 (a := xa) HBB.out.symm)
    go_wp2_with fail
    go_ret2
    exact ⟨_, by rw [e.out.2] <;> rfl, by rw [e.out.1]; exact OwIns.emptyUp HB2.out.size, HB2.out⟩
  subst hb
  have e := Lib.hid (join_good HA.out.symm HBB.out.symm)
  have PA := Lib.hid (progB_ok HA.out.symm)
  have PB := Lib.hid (progB_ok HBB.out.symm)
  have l1 := PA.out.len
  have l2 := PB.out.len
  have ew : IntKind.i64.wrap ((xa.length : Int) + (xb.length : Int)) = (xa.length : Int) + (xb.length : Int) := by rw [IntKind.wrap_i64]; omega
  have HID : Hid (([] : List Ins) ++ shL (([] : List Ins).length : Int) (xa.length : Int) xa = xa) := Lib.hid (by
    simpa using shL_id xa (fun r hr => by rcases (PA.out.mem r hr).2.2 with h | h <;> omega))
  obtain ⟨W0, hW0⟩ : ∃ W, W = w2.alloc (Obj.cells #[.slice none 0 0] 95) := ⟨_, rfl⟩
  have KG : Hid (Cels W0 w2.heap.size 95 [.slice none 0 0]) := Lib.hid (by rw [hW0]; exact Cels.new _ _ _)
  have HB3 : Hid (Below w.heap.size w W0) := Lib.hid (by rw [hW0]; exact HB2.out.alloc HB2.out.size _)
  have HW0 := Lib.hid hW0.symm
  clear hW0
  go_wp2_with fail
  rw [HW0.out]
  refine (bPart w w2.heap.size _ _ [] xa (xa.length : Int) _ KG.out (OwIns.emptyUp HB3.out.size) H1.out PA.out HB3.out HB2.out.size (by simp) (by omega)).mono ?_
  rintro e v1 ⟨u1, rfl, k1, o1, b1⟩
  rw [HID.out] at o1
  have K1 := Lib.hid k1
  have O1 := Lib.hid o1
  have B1 := Lib.hid b1
  clear k1 o1 b1
  go_wp2_with fail
  refine (bPart w w2.heap.size _ _ xa xb ((xa.length : Int) + (xb.length : Int)) _ K1.out O1.out H2.out PB.out B1.out HB2.out.size (by omega) (by omega)).mono ?_
  rintro e v2 ⟨u2, rfl, k2, o2, b2⟩
  have K2 := Lib.hid k2
  have O2 := Lib.hid o2
  have B2 := Lib.hid b2
  clear k2 o2 b2
  go_wp2_with fail
  refine (bResult w2.heap.size w.heap.size _ _ _ K2.out O2.out).mono ?_
  rintro e v3 ⟨u3, rfl, o3, b3⟩
  have O3 := Lib.hid o3
  have B3 := Lib.hid (B2.out.trans (b3.mono B2.out.size))
  clear o3 b3
  go_wp2_with fail
  go_ret2
  exact ⟨_, by rw [e.out.2] <;> rfl, by rw [e.out.1]; exact O3.out, B3.out⟩
theorem mvT_zero (ps : List Ins) (exit : Int) : mvT ps.length 2 exit 0 = if ps = [] then exit else 2 := by
  cases ps with
  | nil => simp [mvT]
  | cons x xs => simp [mvT]; intro h; omega
theorem implLen0 (g : Nat) (w : World) (k : w.cell? ⟨g, 0, none⟩ = some (.slice none 0 0)) :
    Calls Try.prog 112 #[.pointer (some ⟨g, 0, none⟩)] w fun e w' => e = .returned (.int .i64 0) ∧ w = w' := by
  go_enter Try.func112, Try.ntmps112
  go_wp2
  go_ret
  exact ⟨rfl, rfl⟩
set_option maxHeartbeats 4000000 in
theorem bUnless (w0 : World) (g : Nat) (p : Value) (ps : List Ins) (r other exit be : Int) (hbe : be = if ps = [] then exit else 2) (w : World) (hk : Cels w g 95 [.slice none 0 0]) (hp : RdIns w0 p ps) (hok : Pok ps)
    (hw : Below w0.heap.size w0 w) (hg : w0.heap.size ≤ g) (he : 0 ≤ exit ∧ exit ≤ 2000) (hr : 0 ≤ r ∧ r ≤ 23) (ho : 0 ≤ other ∧ other ≤ 2000) :
    Calls Try.prog 91 #[.pointer (some ⟨g, 0, none⟩), .int .i64 r, .int .i64 other, p, .int .i64 exit] w fun e w' => ∃ v', e = .returned (.pointer (some ⟨g, 0, none⟩)) ∧ Cels w' g 95 [v'] ∧
      OwIns w' w0.heap.size w'.heap.size v' ([⟨1, r, 1, other⟩, ⟨0, r, be, 0⟩] ++ shL 2 exit ps) ∧ Below w0.heap.size w0 w' := by
  have HK := Lib.hid hk
  have HP := Lib.hid hp
  have HPW := Lib.hid (hp.below hw (Nat.le_refl _))
  have HW := Lib.hid hw
  have HOK := Lib.hid hok
  have hl4 := hok.len
  obtain ⟨_, _, a', c', rfl, _, _⟩ := hp
  obtain ⟨m, hm⟩ : ∃ m, m = mvT ps.length 2 exit 0 := ⟨_, rfl⟩
  have HM := Lib.hid hm
  obtain rfl : be = m := by rw [hbe, hm, mvT_zero]
  have hmb : 0 ≤ be ∧ be ≤ 2000 := by rw [hm]; unfold mvT; split <;> omega
  have k0 := hk.cell 0 rfl
  clear hk hw hok hm hbe
  go_enter Try.func91, Try.ntmps91
  go_wp2_with fail
  refine (implLen0 g _ k0).mono ?_
  rintro e w1 ⟨rfl, rfl⟩
  go_wp2_with fail
  refine (implPlacing _ 2 exit _ ps HPW.out).mono ?_
  rintro e W ⟨rfl, hW⟩
  obtain ⟨kp, kf, ke, hb⟩ := place_world w _ _ _ hW
  have q0 := kp.cell 0 rfl
  have q1 := kf.cell 0 rfl
  have q2 := ke.cell 0 rfl
  have HKW := Lib.hid (HK.out.below hb HK.out.lt)
  have HBW := Lib.hid (HW.out.trans (hb.mono HW.out.size))
  clear k0 kp kf ke hb hW
  go_wp2_with fail
  refine (implPlc 0 2 exit _ _ _ _ _ _ _ q0 q2 q1 (by omega) (by omega) (by omega) (by omega) (by omega)).mono ?_
  rintro e w1 ⟨rfl, rfl⟩
  rw [← HM.out]
  clear q0 q1 q2
  go_wp2_with fail
  refine (bDec g w0.heap.size _ [] r 1 other _ HKW.out (OwIns.emptyUp HBW.out.size) hg (by simp) (by unfold fit64; omega) (by unfold fit64; omega) (by unfold fit64; omega)).mono ?_
  rintro e v1 ⟨u1, rfl, k1, o1, b1⟩
  have K1 := Lib.hid k1
  have O1 := Lib.hid o1
  have B1 := Lib.hid (HBW.out.trans b1)
  clear k1 o1 b1
  go_wp2_with fail
  refine (bInc g w0.heap.size _ _ r be _ K1.out O1.out hg (by simp) (by unfold fit64; omega) (by unfold fit64; omega)).mono ?_
  rintro e v2 ⟨u2, rfl, k2, o2, b2⟩
  have K2 := Lib.hid k2
  have O2 := Lib.hid o2
  have B2 := Lib.hid (B1.out.trans b2)
  clear k2 o2 b2
  go_wp2_with fail
  refine (bPart w0 g _ _ _ ps exit _ K2.out O2.out HP.out HOK.out B2.out hg (by simp) he).mono ?_
  rintro e v3 ⟨u3, rfl, k3, o3, b3⟩
  have K3 := Lib.hid k3
  have O3 := Lib.hid o3
  have B3 := Lib.hid b3
  clear k3 o3 b3
  go_wp2_with fail
  go_ret
  exact ⟨_, rfl, K3.out, by have := O3.out; simpa using this, B3.out⟩
end Go.Proofs.Ytfcakadmiflcdaa.Ints
