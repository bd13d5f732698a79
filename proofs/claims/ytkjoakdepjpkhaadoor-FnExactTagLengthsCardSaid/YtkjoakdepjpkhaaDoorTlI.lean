/- TagLengths: the program's. (gen_tl.py) -/
import Derived.Laws.Small
import Derived.Test.YtkjoakdepjpkhaaDoorEnT
import Derived.Test.YtkjoakdepjpkhaaDoorTlC
import Derived.Test.YtkjoakdepjpkhaaDoorRrd
import Derived.Deep.DeepCutAuto
namespace Go.Proofs.YtkjoakdepjpkhaaDoor.Ints
open Go.RowKit Go.Shelf
set_option linter.unusedVariables false
set_option linter.unusedSimpArgs false
attribute [local go_sem] Oper.semAt_some
attribute [local go_sem, local simp] wide_fnT
/-- Three stores into three results. -/
theorem put3T {w : World} {g : Nat} {t t1 t2 : TypeId} {a0 c d : Value} (h : Cels w g t [a0]) (h1 : Cels w (g + 1) t1 [c]) (h2 : Cels w (g + 1 + 1) t2 [d]) (b0 c' d' : Value) :
    (w.cell? ⟨g, 0, none⟩ = some a0 ∧ w.frozen? ⟨g, 0, none⟩ = false ∧
    (w.setCell ⟨g, 0, none⟩ b0).cell? ⟨g + 1, 0, none⟩ = some c ∧ (w.setCell ⟨g, 0, none⟩ b0).frozen? ⟨g + 1, 0, none⟩ = false ∧
    ((w.setCell ⟨g, 0, none⟩ b0).setCell ⟨g + 1, 0, none⟩ c').cell? ⟨g + 1 + 1, 0, none⟩ = some d ∧ ((w.setCell ⟨g, 0, none⟩ b0).setCell ⟨g + 1, 0, none⟩ c').frozen? ⟨g + 1 + 1, 0, none⟩ = false) ∧
    ∀ W, W = ((w.setCell ⟨g, 0, none⟩ b0).setCell ⟨g + 1, 0, none⟩ c').setCell ⟨g + 1 + 1, 0, none⟩ d' →
      (Cels W g t [b0] ∧ Cels W (g + 1) t1 [c'] ∧ Cels W (g + 1 + 1) t2 [d']) ∧ (∀ B, B ≤ g → Below B w W) ∧ KeepsOthers w W := by
  have r1 := h.set 0 b0
  have o1 := h1.other (p := ⟨g, 0, none⟩) (by show g + 1 ≠ g; omega) b0
  have o2 := (h2.other (p := ⟨g, 0, none⟩) (by show g + 1 + 1 ≠ g; omega) b0).other (p := ⟨g + 1, 0, none⟩) (by show g + 1 + 1 ≠ g + 1; omega) c'
  refine ⟨⟨h.cell 0 rfl, h.frozen 0, o1.cell 0 rfl, o1.frozen 0, o2.cell 0 rfl, o2.frozen 0⟩, ?_⟩
  rintro W rfl
  refine ⟨⟨?_, ?_, ?_⟩, fun B hB => ?_, ?_⟩
  · exact (r1.other (p := ⟨g + 1, 0, none⟩) (by show g ≠ g + 1; omega) c').other (p := ⟨g + 1 + 1, 0, none⟩) (by show g ≠ g + 1 + 1; omega) d'
  · exact (o1.set 0 c').other (p := ⟨g + 1 + 1, 0, none⟩) (by show g + 1 ≠ g + 1 + 1; omega) d'
  · exact o2.set 0 d'
  · exact below_set (below_set (below_set (Below.refl _ _) (by omega) _ _) (by omega) _ _) (by omega) _ _
  · exact ((KeepsOthers.setCell _ _ _).trans (KeepsOthers.setCell _ _ _)).trans (KeepsOthers.setCell _ _ _)
theorem cels_two (W : World) (t : TypeId) (v : Value) : Cels ((W.alloc (Obj.cells #[v] t)).alloc (Obj.cells #[v] t)).drew W.heap.size t [v] ∧ Cels ((W.alloc (Obj.cells #[v] t)).alloc (Obj.cells #[v] t)).drew (W.heap.size + 1) t [v] := by
  have h1 : Cels ((W.alloc (Obj.cells #[v] t)).alloc (Obj.cells #[v] t)) W.heap.size t [v] := (Cels.new W t [v]).alloc _
  have h2 : Cels ((W.alloc (Obj.cells #[v] t)).alloc (Obj.cells #[v] t)) (W.heap.size + 1) t [v] := by
    have := Cels.new (W.alloc (Obj.cells #[v] t)) t [v]
    rwa [World.size_alloc] at this
  exact ⟨h1.below (Below.refl _ _).drew h1.lt, h2.below (Below.refl _ _).drew h2.lt⟩
set_option maxRecDepth 100000 in
set_option maxHeartbeats 8000000 in
theorem implTagLengths_in (d : Int) (vz vh x : Value) (zss : List (List Int)) (hs xs : List Int) (bu : Int) (w : World) (hz : RdL w vz zss) (hh : Rd w vh hs) (hx : Rd w x xs) (he : EtV w) :
    CallsIn Fence.wide 6 Tryd.prog 14 #[.agg #[.int .i64 d, vz, vh], x, .int .i64 bu] w fun e w' => e = .returned (.tuple #[.int .i64 (tlR d zss hs xs bu).lo, .int .i64 (tlR d zss hs xs bu).hi, .int .i64 (tlR d zss hs xs bu).code]) ∧ Below w.heap.size w w' := by
  have HZ := Lib.hid hz
  have HH := Lib.hid hh
  have HX := Lib.hid hx
  have HE := Lib.hid he
  obtain ⟨_, az, cz, rfl, _, _⟩ := hz
  obtain ⟨_, _, ah, ch, rfl, _, _⟩ := hh
  obtain ⟨_, _, ax, cx, rfl, _, _⟩ := hx
  obtain ⟨R, hR⟩ : ∃ R, R = tlR d zss hs xs bu := ⟨_, rfl⟩
  rw [← hR]
  have HR := Lib.hid hR
  obtain ⟨W0, hW0⟩ : ∃ W, W = (((w.alloc (Obj.cells #[.int .i64 d, .slice az zss.length cz, .slice ah hs.length ch] 29)).alloc (Obj.cells #[.int .i64 0] 2)).alloc (Obj.cells #[.int .i64 0] 2)).alloc (Obj.cells #[.int .i64 0] 2) := ⟨_, rfl⟩
  have HB : Hid (Below w.heap.size w W0) := Lib.hid (by rw [hW0]; exact ((((Below.refl _ _).alloc (Nat.le_refl _) _).alloc (by simp) _).alloc (by simp; omega) _).alloc (by simp; omega) _)
  have hsz : W0.heap.size = w.heap.size + 4 := by rw [hW0]; simp
  have HKK : Hid (Cels W0 w.heap.size 29 [.int .i64 d, .slice az zss.length cz, .slice ah hs.length ch]) := Lib.hid (by rw [hW0]; exact (((Cels.new _ _ _).alloc _).alloc _).alloc _)
  have k0 : Cels W0 (w.heap.size + 1) 2 [.int .i64 0] := by
    rw [hW0]
    have := Cels.new (w.alloc (Obj.cells #[.int .i64 d, .slice az zss.length cz, .slice ah hs.length ch] 29)) 2 [.int .i64 0]
    rw [World.size_alloc] at this
    exact (this.alloc _).alloc _
  have k1 : Cels W0 (w.heap.size + 1 + 1) 2 [.int .i64 0] := by
    rw [hW0]
    have := Cels.new ((w.alloc (Obj.cells #[.int .i64 d, .slice az zss.length cz, .slice ah hs.length ch] 29)).alloc (Obj.cells #[.int .i64 0] 2)) 2 [.int .i64 0]
    rw [World.size_alloc, World.size_alloc] at this
    exact this.alloc _
  have k2 : Cels W0 (w.heap.size + 1 + 1 + 1) 2 [.int .i64 0] := by
    rw [hW0]
    have := Cels.new (((w.alloc (Obj.cells #[.int .i64 d, .slice az zss.length cz, .slice ah hs.length ch] 29)).alloc (Obj.cells #[.int .i64 0] 2)).alloc (Obj.cells #[.int .i64 0] 2)) 2 [.int .i64 0]
    rwa [World.size_alloc, World.size_alloc, World.size_alloc] at this
  have HSZ := Lib.hid hsz
  have HW0 := Lib.hid hW0.symm
  have K0 := Lib.hid k0
  have K1 := Lib.hid k1
  have K2 := Lib.hid k2
  have ret : ∀ (R' : TlE) (W : World), (Cels W (w.heap.size + 1) 2 [.int .i64 R'.lo] ∧ Cels W (w.heap.size + 1 + 1) 2 [.int .i64 R'.hi] ∧ Cels W (w.heap.size + 1 + 1 + 1) 2 [.int .i64 R'.code]) →
      W.cell? ⟨w.heap.size + 1, 0, none⟩ = some (.int .i64 R'.lo) ∧ W.cell? ⟨w.heap.size + 1 + 1, 0, none⟩ = some (.int .i64 R'.hi) ∧ W.cell? ⟨w.heap.size + 1 + 1 + 1, 0, none⟩ = some (.int .i64 R'.code) := fun R' W q =>
    ⟨q.1.cell 0 rfl, q.2.1.cell 0 rfl, q.2.2.cell 0 rfl⟩
  have RET := Lib.hid ret
  clear hR hsz hW0 k0 k1 k2 ret he
  refine callsIn_of_wp_marks Tryd.func14 rfl trivial ?_ rfl
  simp only [Tryd.ntmps14, List.size_toArray, List.length_cons, List.length_nil, Nat.reduceAdd, Nat.reduceSub, Array.replicate_succ, Array.replicate_zero, List.push_toArray, List.append_toArray, List.nil_append, List.cons_append]
  gi_wp2_with fail
  rw [HW0.out]
  gi_at_call 71
  refine (callsIn_wide.2 (implNewTag d _ _ _ zss hs xs _ (HZ.out.below HB.out (Nat.le_refl _)) (HH.out.below HB.out (Nat.le_refl _)) (HX.out.below HB.out (Nat.le_refl _)))).mono ?_
  rintro e w1 ⟨g, q, n0, rfl, hr, hn, hb1⟩
  obtain ⟨bv, hbv⟩ : ∃ x, x = (tagB d zss hs && overB zss.length xs) := ⟨_, rfl⟩
  rw [← hbv] at hr
  have HV := Lib.hid hbv
  obtain ⟨W1, hW1⟩ : ∃ W, W = w1.alloc (Obj.cells #[.pointer (some ⟨g, 0, none⟩)] 103) := ⟨_, rfl⟩
  have hb2 : Below w1.heap.size w1 W1 := by rw [hW1]; exact (Below.refl _ _).alloc (Nat.le_refl _) _
  have HB01 := Lib.hid (hb1.trans (hb2.mono hb1.size))
  have HTR := Lib.hid (hr.below hb2)
  have HN := Lib.hid hn
  have HP : Hid (Cels W1 w1.heap.size 103 [.pointer (some ⟨g, 0, none⟩)]) := Lib.hid (by rw [hW1]; exact Cels.new _ _ _)
  have HS1 : Hid (W0.heap.size ≤ w1.heap.size ∧ W1.heap.size = w1.heap.size + 1 ∧ g < w1.heap.size ∧ q < w1.heap.size) := Lib.hid ⟨hb1.size, by rw [hW1]; simp, hr.head.lt, hr.ring.lt⟩
  have L0 := Lib.hid (K0.out.below HB01.out K0.out.lt)
  have L1 := Lib.hid (K1.out.below HB01.out K1.out.lt)
  have L2 := Lib.hid (K2.out.below HB01.out K2.out.lt)
  have HBW := Lib.hid (HB.out.trans (HB01.out.mono HB.out.size))
  have n1 := nlT g
  have m1 := mtT g
  have HW1 := Lib.hid hW1.symm
  have y9 := HP.out.cell 0 rfl
  clear hbv hW1 hb2 hr hn hb1 K0 K1 K2
  gi_wp2_with fail
  try rw [HW1.out]
  rcases eqOr bv with hb | hb
  · subst hb
    gi_at_call 72
    refine (callsIn_wide.2 (startT g false bu 1 W1 (tgValid HTR.out.head) (by simp))).mono ?_
    rintro e w2 ⟨rfl, rfl⟩
    have e := Lib.hid (HR.out.trans (tl_bad (bu := bu) HV.out.symm))
    obtain ⟨⟨f1, f2, f3, f4, f5, f6⟩, hf⟩ := put3T L0.out L1.out L2.out (.int .i64 0) (.int .i64 0) (.int .i64 1)
    have HF := Lib.hid hf
    clear hf y9
    gi_wp2_with fail
    obtain ⟨W, hW⟩ : ∃ W, W = ((W1.setCell ⟨w.heap.size + 1, 0, none⟩ (.int .i64 0)).setCell ⟨w.heap.size + 1 + 1, 0, none⟩ (.int .i64 0)).setCell ⟨w.heap.size + 1 + 1 + 1, 0, none⟩ (.int .i64 1) := ⟨_, rfl⟩
    obtain ⟨q1, q2, q3⟩ := HF.out W hW
    rw [← hW]
    obtain ⟨x0, x1, x2⟩ := RET.out ⟨0, 0, 1⟩ W q1
    clear f1 f2 f3 f4 f5 f6 hW
    exact ⟨.tuple #[.int .i64 0, .int .i64 0, .int .i64 1], by simp [results, Tryd.f14, go_sem, x0, x1, x2], by rw [e.out], HBW.out.trans (q2 _ (by omega))⟩
  subst hb
  by_cases hq : 1 ≤ bu ∧ bu ≤ 20000
  rotate_left
  · have HQ := Lib.hid hq
    clear hq
    gi_at_call 72
    refine (callsIn_wide.2 (startT g true bu 2 W1 (tgValid HTR.out.head) (by rw [if_pos rfl, if_neg HQ.out]))).mono ?_
    rintro e w2 ⟨rfl, rfl⟩
    have e := Lib.hid (HR.out.trans (tl_range (bu := bu) HV.out.symm HQ.out))
    obtain ⟨⟨f1, f2, f3, f4, f5, f6⟩, hf⟩ := put3T L0.out L1.out L2.out (.int .i64 0) (.int .i64 0) (.int .i64 2)
    have HF := Lib.hid hf
    clear hf y9
    gi_wp2_with fail
    obtain ⟨W, hW⟩ : ∃ W, W = ((W1.setCell ⟨w.heap.size + 1, 0, none⟩ (.int .i64 0)).setCell ⟨w.heap.size + 1 + 1, 0, none⟩ (.int .i64 0)).setCell ⟨w.heap.size + 1 + 1 + 1, 0, none⟩ (.int .i64 2) := ⟨_, rfl⟩
    obtain ⟨q1, q2, q3⟩ := HF.out W hW
    rw [← hW]
    obtain ⟨x0, x1, x2⟩ := RET.out ⟨0, 0, 2⟩ W q1
    clear f1 f2 f3 f4 f5 f6 hW
    exact ⟨.tuple #[.int .i64 0, .int .i64 0, .int .i64 2], by simp [results, Tryd.f14, go_sem, x0, x1, x2], by rw [e.out], HBW.out.trans (q2 _ (by omega))⟩
  have HBU : Hid (1 ≤ bu ∧ bu ≤ 20000) := Lib.hid hq
  clear hq
  gi_at_call 72
  refine (callsIn_wide.2 (startT g true bu 0 W1 (tgValid HTR.out.head) (by rw [if_pos rfl, if_pos HBU.out]))).mono ?_
  rintro e w2 ⟨rfl, rfl⟩
  have EG := Lib.hid (HR.out.trans (tl_good (bu := bu) HV.out.symm HBU.out))
  have HPH := Lib.hid (tg_both HV.out.symm)
  have hxl := (overB_ok HPH.out.2).1
  have HRX : Hid (rg (nq xs) 0 n0 = xs) := Lib.hid (by rw [HN.out, Nat.min_eq_left hxl]; exact nq_rg hxl)
  have HNL : Hid (n0 = xs.length) := Lib.hid (by rw [HN.out]; omega)
  obtain ⟨B, rfl⟩ : ∃ B : Nat, bu = (B : Int) := ⟨bu.toNat, by have := HBU.out.1; omega⟩
  have hB : B ≤ 20000 := by have := HBU.out.2; omega
  have y5 := HTR.out.head.cell 5 rfl
  clear hxl
  gi_wp2_with fail
  refine wpIn_wide.2 ?_
  go_cut [11, 12] from 24 to 33 (fun s11 s12 wx => ∃ p1 p2 : Nat, s11 = .pointer (some ⟨p1, 0, none⟩) ∧ s12 = .pointer (some ⟨p2, 0, none⟩) ∧ W1.heap.size ≤ p1 ∧ W1.heap.size ≤ p2 ∧ p1 ≠ p2 ∧ Cels wx p1 3 [.int .i64 (n0 : Int)] ∧ Cels wx p2 3 [.int .i64 (n0 : Int)] ∧ Below W1.heap.size W1 wx)
  case first =>
    have HAA : Hid (∀ o1 o2 : Obj, Below W1.heap.size W1 (W1.alloc o1) ∧ Below W1.heap.size W1 ((W1.alloc o1).alloc o2)) := Lib.hid (fun o1 o2 => ⟨(Below.refl _ _).alloc (Nat.le_refl _) _, ((Below.refl _ _).alloc (Nat.le_refl _) _).alloc (by simp) _⟩)
    have z1 := (HP.out.below (HAA.out (Obj.cells #[.int .i64 0] 3) (Obj.cells #[.int .i64 0] 3)).1 HP.out.lt).cell 0 rfl
    have z2 := (HTR.out.head.below (HAA.out (Obj.cells #[.int .i64 0] 3) (Obj.cells #[.int .i64 0] 3)).1 HTR.out.head.lt).cell 5 rfl
    have z3 := (HP.out.below (HAA.out (Obj.cells #[.int .i64 0] 3) (Obj.cells #[.int .i64 0] 3)).2 HP.out.lt).cell 0 rfl
    have z4 := (HTR.out.head.below (HAA.out (Obj.cells #[.int .i64 0] 3) (Obj.cells #[.int .i64 0] 3)).2 HTR.out.head.lt).cell 5 rfl
    have z5 := (HP.out.below (HAA.out (Obj.cells #[.int .i64 0] 3) (Obj.cells #[.int .i64 (n0 : Int)] 3)).2 HP.out.lt).cell 0 rfl
    have z6 := (HTR.out.head.below (HAA.out (Obj.cells #[.int .i64 0] 3) (Obj.cells #[.int .i64 (n0 : Int)] 3)).2 HTR.out.head.lt).cell 5 rfl
    have z7 := (HP.out.below (HAA.out (Obj.cells #[.int .i64 (n0 : Int)] 3) (Obj.cells #[.int .i64 0] 3)).1 HP.out.lt).cell 0 rfl
    have z8 := (HTR.out.head.below (HAA.out (Obj.cells #[.int .i64 (n0 : Int)] 3) (Obj.cells #[.int .i64 0] 3)).1 HTR.out.head.lt).cell 5 rfl
    have z9 := (HP.out.below (HAA.out (Obj.cells #[.int .i64 (n0 : Int)] 3) (Obj.cells #[.int .i64 0] 3)).2 HP.out.lt).cell 0 rfl
    have z10 := (HTR.out.head.below (HAA.out (Obj.cells #[.int .i64 (n0 : Int)] 3) (Obj.cells #[.int .i64 0] 3)).2 HTR.out.head.lt).cell 5 rfl
    have z11 := (HP.out.below (HAA.out (Obj.cells #[.int .i64 (n0 : Int)] 3) (Obj.cells #[.int .i64 (n0 : Int)] 3)).2 HP.out.lt).cell 0 rfl
    have z12 := (HTR.out.head.below (HAA.out (Obj.cells #[.int .i64 (n0 : Int)] 3) (Obj.cells #[.int .i64 (n0 : Int)] 3)).2 HTR.out.head.lt).cell 5 rfl
    refine wp_region_noPanic ?_
    go_region
    all_goals (refine NoPanic.normal ?_)
    all_goals (go_wp2_with fail; go_meet)
    all_goals first
      | exact ⟨W1.heap.size, W1.heap.size + 1, rfl, rfl, Nat.le_refl _, Nat.le_succ _, by omega, (cels_two _ _ _).1, (cels_two _ _ _).2, (HAA.out _ _).2.drew⟩
      | exact ⟨W1.heap.size + 1, W1.heap.size, rfl, rfl, Nat.le_succ _, Nat.le_refl _, by omega, (cels_two _ _ _).2, (cels_two _ _ _).1, (HAA.out _ _).2.drew⟩
  obtain ⟨p1, p2, rfl, rfl, hp1, hp2, hpne, c1, c2, hb3⟩ := hcut
  obtain ⟨W3, hW3⟩ : ∃ x, x = wc := ⟨_, rfl⟩
  subst hW3
  have C1 := Lib.hid c1
  have C2 := Lib.hid c2
  have HPP : Hid (W1.heap.size ≤ p1 ∧ W1.heap.size ≤ p2 ∧ p1 ≠ p2) := Lib.hid ⟨hp1, hp2, hpne⟩
  have T3 := Lib.hid (HTR.out.below hb3)
  have P3 := Lib.hid (HP.out.below hb3 HP.out.lt)
  have M0 := Lib.hid (L0.out.below hb3 L0.out.lt)
  have M1 := Lib.hid (L1.out.below hb3 L1.out.lt)
  have M2 := Lib.hid (L2.out.below hb3 L2.out.lt)
  have HB3 := Lib.hid (HBW.out.trans (hb3.mono HBW.out.size))
  have HS3 : Hid (W1.heap.size ≤ W3.heap.size) := Lib.hid hb3.size
  clear hp1 hp2 hpne c1 c2 hb3 y5 y9
  have y9 := P3.out.cell 0 rfl
  gi_wp2_with fail
  gi_at_call 73
  refine (callsIn_wide.2 (stepsMkT _ (B : Int) W3 ⟨_, _, rfl⟩)).mono ?_
  rintro e w4 ⟨rfl, hw4⟩
  obtain ⟨W4, hW4⟩ : ∃ W, W = (W3.alloc (.cells #[.iface 103 (.pointer (some ⟨g, 0, none⟩))] 158)).alloc (.cells #[.int .i64 (B : Int)] 2) := ⟨_, rfl⟩
  rw [← hW4] at hw4
  obtain rfl : W4 = w4 := hw4.symm
  clear hw4
  have hb4 : Below W3.heap.size W3 W4 := by rw [hW4]; exact ((Below.refl _ _).alloc (Nat.le_refl _) _).alloc (by simp) _
  have krb : Cels W4 W3.heap.size 158 [.iface 103 (.pointer (some ⟨g, 0, none⟩))] := by rw [hW4]; exact (Cels.new _ _ _).alloc _
  have klb : Cels W4 (W3.heap.size + 1) 2 [.int .i64 (B : Int)] := by
    rw [hW4]
    have := Cels.new (W3.alloc (.cells #[.iface 103 (.pointer (some ⟨g, 0, none⟩))] 158)) 2 [.int .i64 (B : Int)]
    rwa [World.size_alloc] at this
  have HS4 : Hid (W4.heap.size = W3.heap.size + 2) := Lib.hid (by rw [hW4]; simp)
  have HAT : Hid (AtG W0 g q d (.slice az zss.length cz) (.slice ah hs.length ch) zss hs xs B (W3.heap.size + 1) W3.heap.size 0 W4) := Lib.hid
    ⟨Nat.zero_le _, HPH.out.2, fun j hj => absurd hj (by omega), ⟨nq xs, 0, n0, T3.out.below hb4, HRX.out⟩, klb, krb⟩
  have D0 := Lib.hid (M0.out.below hb4 M0.out.lt)
  have D1 := Lib.hid (M1.out.below hb4 M1.out.lt)
  have D2 := Lib.hid (M2.out.below hb4 M2.out.lt)
  have DP := Lib.hid (P3.out.below hb4 P3.out.lt)
  have DC1 := Lib.hid (C1.out.below hb4 C1.out.lt)
  have DC2 := Lib.hid (C2.out.below hb4 C2.out.lt)
  have HB4 := Lib.hid (HB3.out.trans (hb4.mono HB3.out.size))
  have HG : Hid (W0.heap.size = w.heap.size + 4 ∧ W0.heap.size ≤ g ∧ W0.heap.size ≤ q ∧ W0.heap.size ≤ w1.heap.size ∧ g < w1.heap.size ∧ q < w1.heap.size ∧ W1.heap.size = w1.heap.size + 1 ∧ W1.heap.size ≤ p1 ∧ W1.heap.size ≤ p2 ∧ p1 ≠ p2 ∧ p1 < W3.heap.size ∧ p2 < W3.heap.size ∧ W4.heap.size = W3.heap.size + 2) := Lib.hid
    ⟨HSZ.out, T3.out.bg, T3.out.bq, HS1.out.1, HS1.out.2.2.1, HS1.out.2.2.2, HS1.out.2.1, HPP.out.1, HPP.out.2.1, HPP.out.2.2, C1.out.lt, C2.out.lt, HS4.out⟩
  have HTL : Hid (TlAt d zss hs xs B R 0 (n0 : Int) (n0 : Int)) := Lib.hid (fun _ _ => by rw [HNL.out, EG.out]; simp [itT])
  clear krb klb hb4 hW4 y9
  gi_wp2_with fail
  refine range_run rfl (by omega) (gf := 105) (lb := #[.pointer (some ⟨W3.heap.size + 1, 0, none⟩), .pointer (some ⟨W3.heap.size, 0, none⟩)]) rfl trivial (enters_of Tryd.func105 (by kernel_rfl) rfl)
    (stepsG 5 (by omega) W0 g q d (.slice az zss.length cz) (.slice ah hs.length ch) zss hs xs B (W3.heap.size + 1) W3.heap.size HPH.out.1 hB (by have := HG.out; refine ⟨?_, ?_, ?_, ?_⟩ <;> omega))
    (by have := HG.out; rintro k (rfl | rfl) <;> omega) (by have := HG.out; rintro k (h | rfl | rfl | rfl | rfl) <;> omega)
    StG.kept DnG.kept (.inl ⟨0, rfl, HAT.out⟩) (fun _ => rfl)
    (fun pre W => (∃ (k : Nat) (lo hi : Int), pre = List.replicate k none ∧ Cels W p1 3 [.int .i64 lo] ∧ Cels W p2 3 [.int .i64 hi] ∧ TlAt d zss hs xs B R k lo hi) ∧ Cels W (w.heap.size + 1) 2 [.int .i64 0] ∧ Cels W (w.heap.size + 1 + 1) 2 [.int .i64 0] ∧ Cels W (w.heap.size + 1 + 1 + 1) 2 [.int .i64 0] ∧ Cels W w1.heap.size 103 [.pointer (some ⟨g, 0, none⟩)] ∧ Below w.heap.size w W)
    (fun c pre W => (c = .ret ∧ R = ⟨0, 0, 5⟩) ∧ Cels W (w.heap.size + 1) 2 [.int .i64 0] ∧ Cels W (w.heap.size + 1 + 1) 2 [.int .i64 0] ∧ Cels W (w.heap.size + 1 + 1 + 1) 2 [.int .i64 5] ∧ Below w.heap.size w W)
    (OwnFrom.and (fun s X Y row hs hg hr => by
        obtain ⟨k, lo, hi, e1, e2, e3, e4⟩ := hs
        exact ⟨k, lo, hi, e1, cels_own (β := Unit) _ _ _ (fun _ => _) () X Y row e2 hg hr, cels_own (β := Unit) _ _ _ (fun _ => _) () X Y row e3 hg hr, e4⟩)
      (OwnFrom.and (cels_own _ _ _ _) (OwnFrom.and (cels_own _ _ _ _) (OwnFrom.and (cels_own _ _ _ _) (OwnFrom.and (cels_own _ _ _ _) (ownFrom_below (Nat.le_refl _) (by have := HG.out; omega)))))))
    (fun c => OwnFrom.and (ownFrom_pure _ _) (OwnFrom.and (cels_own _ _ _ _) (OwnFrom.and (cels_own _ _ _ _) (OwnFrom.and (cels_own _ _ _ _) (ownFrom_below (Nat.le_refl _) (by have := HG.out; omega))))))
    (fun pre X Y hs ho => by
      have hg := HG.out
      obtain ⟨⟨k, lo, hi, e1, e2, e3, e4⟩, c0', c1', c2', c3', hb⟩ := hs
      refine ⟨⟨k, lo, hi, e1, ho.cels e2 ?_, ho.cels e3 ?_, e4⟩, ho.cels c0' ?_, ho.cels c1' ?_, ho.cels c2' ?_, ho.cels c3' ?_, hb.trans (ho.below ?_ hb.size)⟩
      all_goals (first | (rintro (h | h) <;> omega) | (rintro k (rfl | rfl) <;> omega)))
    ⟨⟨0, (n0 : Int), (n0 : Int), rfl, DC1.out, DC2.out, HTL.out⟩, D0.out, D1.out, D2.out, DP.out, HB4.out⟩
    (fun x => { tmps := #[.agg #[.int .i64 d, .slice az zss.length cz, .slice ah hs.length ch], .slice ax xs.length cx, .int .i64 (B : Int),
          .pointer (some ⟨w.heap.size, 0, none⟩), undef, undef, .pointer (some ⟨w.heap.size + 1, 0, none⟩), .pointer (some ⟨w.heap.size + 1 + 1, 0, none⟩), .pointer (some ⟨w.heap.size + 1 + 1 + 1, 0, none⟩),
          .pointer (some ⟨w1.heap.size, 0, none⟩), .int .i64 0, .pointer (some ⟨p1, 0, none⟩), .pointer (some ⟨p2, 0, none⟩), errG x,
          .agg #[.int .i64 d, .slice az zss.length cz, .slice ah hs.length ch], .slice ax xs.length cx, .pointer (some ⟨g, 0, none⟩), .pointer (some ⟨g, 0, none⟩),
          .iface 103 (.pointer (some ⟨g, 0, none⟩)), .int .i64 (B : Int), .int .i64 0, .int .i64 0, .bool false, undef,
          u24, u25, u26, u27, u28, u29, u30, u31, u32, u33,
          .pointer (some ⟨g, 0, none⟩), .iface 103 (.pointer (some ⟨g, 0, none⟩)), .int .i64 (B : Int), .func (Fn.func 105) #[] #[.pointer (some ⟨W3.heap.size + 1, 0, none⟩), .pointer (some ⟨W3.heap.size, 0, none⟩)], errG x,
          undef, undef, undef, undef, undef, undef, undef, undef, undef, undef, undef, undef, undef, undef, undef, undef, undef, undef, undef, undef], defers := [] }) ?assign ?body ?done ?stop
  case assign =>
    intro l x W K hK
    unfold encG
    gi_wp2
    exact hK
  case body =>
    rintro l pre x W ⟨⟨k, lo, hi, e1, k1, k2, htl⟩, c0', c1', c2', c3', hb⟩ hst
    cases x with
    | none =>
      obtain ⟨hat, _⟩ : AtG W0 g q d (.slice az zss.length cz) (.slice ah hs.length ch) zss hs xs B (W3.heap.size + 1) W3.heap.size (k + 1) W ∧ True := by
        rcases hst with ⟨k', e, ha⟩ | ⟨k', e, hr⟩
        · have h1 := congrArg List.length e
          rw [e1] at h1
          simp at h1
          subst h1
          exact ⟨ha, trivial⟩
        · have := List.append_inj_right' e rfl
          simp at this
      have e2 : pre ++ [none] = List.replicate (k + 1) none := by rw [e1]; exact List.replicate_succ'.symm
      have E2 := Lib.hid e2
      obtain ⟨zs2, f2, l2, hst2, hrx2⟩ := hat.st
      have hl2 : l2 = (itT d zss xs (k + 1)).length := by rw [← hrx2, rg_len]
      obtain ⟨m1, hm1⟩ : ∃ m, m = mnT lo (l2 : Int) := ⟨_, rfl⟩
      obtain ⟨m2, hm2⟩ : ∃ m, m = mxT hi (l2 : Int) := ⟨_, rfl⟩
      have HTN : Hid (TlAt d zss hs xs B R (k + 1) m1 m2) := Lib.hid (by rw [hm1, hm2, hl2]; exact htl.next)
      have hx1 : (if (l2 : Int) < lo then (l2 : Int) else lo) = m1 := by rw [hm1]; rfl
      have hx2 : (if hi < (l2 : Int) then (l2 : Int) else hi) = m2 := by rw [hm2]; rfl
      have hg := HG.out
      have v0 := c3'.cell 0 rfl
      have v1 := (c3'.other (p := ⟨p1, 0, none⟩) (by show w1.heap.size ≠ p1; omega) (.int .i64 m1)).cell 0 rfl
      have v2 := (c3'.other (p := ⟨p2, 0, none⟩) (by show w1.heap.size ≠ p2; omega) (.int .i64 m2)).cell 0 rfl
      have v3 := hst2.head.cell 5 rfl
      have v4 := (hst2.head.other (p := ⟨p1, 0, none⟩) (by show g ≠ p1; omega) (.int .i64 m1)).cell 5 rfl
      have v5 := (hst2.head.other (p := ⟨p2, 0, none⟩) (by show g ≠ p2; omega) (.int .i64 m2)).cell 5 rfl
      have v6 := k1.cell 0 rfl
      have v7 := k2.cell 0 rfl
      have v8 := k1.frozen 0
      have v9 := k2.frozen 0
      have va := (k1.other (p := ⟨p2, 0, none⟩) (by show p1 ≠ p2; omega) (.int .i64 m2)).cell 0 rfl
      have vb := (k1.other (p := ⟨p2, 0, none⟩) (by show p1 ≠ p2; omega) (.int .i64 m2)).frozen 0
      have vc := (k2.other (p := ⟨p1, 0, none⟩) (by show p2 ≠ p1; omega) (.int .i64 m1)).cell 0 rfl
      have vd := (k2.other (p := ⟨p1, 0, none⟩) (by show p2 ≠ p1; omega) (.int .i64 m1)).frozen 0
      have KM1 := Lib.hid k1
      have KM2 := Lib.hid k2
      have C0 := Lib.hid c0'
      have C1' := Lib.hid c1'
      have C2' := Lib.hid c2'
      have C3 := Lib.hid c3'
      have HBr := Lib.hid hb
      have HG5 := Lib.hid hst2.head
      have HAX := Lib.hid hat
      simp only [errG]
      clear e1 e2 hst c0' c1' c2' c3' hb k1 k2 hat hst2 hrx2 hl2 hm1 hm2 htl hg
      have HSS : Hid (∀ W', (W' = W.drew ∨ W' = (W.setCell ⟨p1, 0, none⟩ (.int .i64 m1)).drew ∨ W' = ((W.setCell ⟨p1, 0, none⟩ (.int .i64 m1)).setCell ⟨p2, 0, none⟩ (.int .i64 m2)).drew) → W'.cell? ⟨w1.heap.size, 0, none⟩ = some (.pointer (some ⟨g, 0, none⟩)) ∧ W'.cell? ⟨g, 5, none⟩ = some (.int .i64 (l2 : Int))) := Lib.hid (by
        rintro W' (rfl | rfl | rfl)
        · exact ⟨v0, v3⟩
        · exact ⟨v1, v4⟩
        · have hg := HG.out
          exact ⟨((C3.out.other (p := ⟨p1, 0, none⟩) (by show w1.heap.size ≠ p1; omega) (.int .i64 m1)).other (p := ⟨p2, 0, none⟩) (by show w1.heap.size ≠ p2; omega) (.int .i64 m2)).cell 0 rfl, ((HG5.out.other (p := ⟨p1, 0, none⟩) (by show g ≠ p1; omega) (.int .i64 m1)).other (p := ⟨p2, 0, none⟩) (by show g ≠ p2; omega) (.int .i64 m2)).cell 5 rfl⟩)
      have HEND : Hid (∀ Wf, Wf = (W.setCell ⟨p1, 0, none⟩ (.int .i64 m1)).setCell ⟨p2, 0, none⟩ (.int .i64 m2) → KeepsOthers W Wf.drew ∧ Kept (TG W0 g q (W3.heap.size + 1) W3.heap.size) W Wf.drew ∧ Cels Wf.drew p1 3 [.int .i64 m1] ∧ Cels Wf.drew p2 3 [.int .i64 m2] ∧ Cels Wf.drew (w.heap.size + 1) 2 [.int .i64 0] ∧ Cels Wf.drew (w.heap.size + 1 + 1) 2 [.int .i64 0] ∧ Cels Wf.drew (w.heap.size + 1 + 1 + 1) 2 [.int .i64 0] ∧ Cels Wf.drew w1.heap.size 103 [.pointer (some ⟨g, 0, none⟩)] ∧ Below w.heap.size w Wf.drew) := Lib.hid (by
        rintro Wf rfl
        have hg := HG.out
        have dr : ∀ X : World, Below X.heap.size X X.drew := fun X => (Below.refl _ _).drew
        have dc : ∀ (X : World) (b : Nat) (t : TypeId) (cs : List Value), Cels X b t cs → Cels X.drew b t cs := fun X b t cs h => h.below (dr X) h.lt
        refine ⟨((KeepsOthers.setCell _ _ _).trans (KeepsOthers.setCell _ _ _)).trans (below_keeps (dr _)), (((Kept.refl _ _).set (p := ⟨p1, 0, none⟩) ?_ _).set (p := ⟨p2, 0, none⟩) ?_ _).trans ⟨(dr _).size, fun i hi _ => (dr _).block i hi⟩, dc _ _ _ _ ((KM1.out.set 0 (.int .i64 m1)).other (p := ⟨p2, 0, none⟩) ?_ _), dc _ _ _ _ ((KM2.out.other (p := ⟨p1, 0, none⟩) ?_ _).set 0 (.int .i64 m2)), dc _ _ _ _ ((C0.out.other (p := ⟨p1, 0, none⟩) ?_ _).other (p := ⟨p2, 0, none⟩) ?_ _), dc _ _ _ _ ((C1'.out.other (p := ⟨p1, 0, none⟩) ?_ _).other (p := ⟨p2, 0, none⟩) ?_ _), dc _ _ _ _ ((C2'.out.other (p := ⟨p1, 0, none⟩) ?_ _).other (p := ⟨p2, 0, none⟩) ?_ _), dc _ _ _ _ ((C3.out.other (p := ⟨p1, 0, none⟩) ?_ _).other (p := ⟨p2, 0, none⟩) ?_ _), ((HBr.out.setCell (p := ⟨p1, 0, none⟩) ?_ _).setCell (p := ⟨p2, 0, none⟩) ?_ _).drew⟩
        · show ¬ TG W0 g q (W3.heap.size + 1) W3.heap.size p1; rintro (h | h | h | h | h) <;> omega
        · show ¬ TG W0 g q (W3.heap.size + 1) W3.heap.size p2; rintro (h | h | h | h | h) <;> omega
        · show p1 ≠ p2; omega
        · show p2 ≠ p1; omega
        · show w.heap.size + 1 ≠ p1; omega
        · show w.heap.size + 1 ≠ p2; omega
        · show w.heap.size + 1 + 1 ≠ p1; omega
        · show w.heap.size + 1 + 1 ≠ p2; omega
        · show w.heap.size + 1 + 1 + 1 ≠ p1; omega
        · show w.heap.size + 1 + 1 + 1 ≠ p2; omega
        · show w1.heap.size ≠ p1; omega
        · show w1.heap.size ≠ p2; omega
        · show w.heap.size ≤ p1; omega
        · show w.heap.size ≤ p2; omega)
      gi_wp2_with fail
      refine region_round (S := fun W' => W'.cell? ⟨w1.heap.size, 0, none⟩ = some (.pointer (some ⟨g, 0, none⟩)) ∧ W'.cell? ⟨g, 5, none⟩ = some (.int .i64 (l2 : Int))) (by kernel_rfl) (by kernel_rfl) ?_ (fun hHeld => ?_)
      · exact ⟨v0, v3⟩
      refine wpAnyH_take (i := 1) (v := ?_) rfl (by kernel_rfl) (by kernel_rfl) (by kernel_rfl) (fun _ _ _ h => h) (Or.inl ⟨by rfl, ?_⟩) (by assumption) ?_
      rotate_left
      · intro w hSw
        try dsimp only at hSw
        go_simp
        try with_reducible rfl
      try simp only [Array.getInternal_eq_getElem, List.getElem_toArray, List.getElem_cons_succ, List.getElem_cons_zero, Act.put, List.setIfInBounds_toArray, List.set_cons_zero, List.set_cons_succ]
      refine wpAnyH_take (i := 2) (v := ?_) rfl (by kernel_rfl) (by kernel_rfl) (by kernel_rfl) (fun _ _ _ h => h) (Or.inl ⟨by rfl, ?_⟩) (by assumption) ?_
      rotate_left
      · intro w hSw
        try dsimp only at hSw
        go_simp
        try with_reducible rfl
      try simp only [Array.getInternal_eq_getElem, List.getElem_toArray, List.getElem_cons_succ, List.getElem_cons_zero, Act.put, List.setIfInBounds_toArray, List.set_cons_zero, List.set_cons_succ]
      refine wpAnyH_take (i := 3) (v := ?_) rfl (by kernel_rfl) (by kernel_rfl) (by kernel_rfl) (fun _ _ _ h => h) (Or.inl ⟨by rfl, ?_⟩) (by assumption) ?_
      rotate_left
      · intro w hSw
        try dsimp only at hSw
        go_simp
        try with_reducible rfl
      try simp only [Array.getInternal_eq_getElem, List.getElem_toArray, List.getElem_cons_succ, List.getElem_cons_zero, Act.put, List.setIfInBounds_toArray, List.set_cons_zero, List.set_cons_succ]
      refine wpAnyH_take (i := 4) (v := ?_) rfl (by kernel_rfl) (by kernel_rfl) (by kernel_rfl) (fun _ _ _ h => h) (Or.inl ⟨by rfl, ?_⟩) (by assumption) ?_
      rotate_left
      · intro w hSw
        try dsimp only at hSw
        go_simp
        try with_reducible rfl
      try simp only [Array.getInternal_eq_getElem, List.getElem_toArray, List.getElem_cons_succ, List.getElem_cons_zero, Act.put, List.setIfInBounds_toArray, List.set_cons_zero, List.set_cons_succ]
      refine wpAnyH_take (i := 5) (v := ?_) rfl (by kernel_rfl) (by kernel_rfl) (by kernel_rfl) (fun _ _ _ h => h) (Or.inl ⟨by rfl, ?_⟩) (by assumption) ?_
      rotate_left
      · intro w hSw
        try dsimp only at hSw
        go_simp
        try with_reducible rfl
      try simp only [Array.getInternal_eq_getElem, List.getElem_toArray, List.getElem_cons_succ, List.getElem_cons_zero, Act.put, List.setIfInBounds_toArray, List.set_cons_zero, List.set_cons_succ]
      refine wpAnyH_take (i := 8) (v := ?_) rfl (by kernel_rfl) (by kernel_rfl) (by kernel_rfl) (fun _ _ _ h => h) (Or.inl ⟨by rfl, ?_⟩) (by assumption) ?_
      rotate_left
      · intro w hSw
        try dsimp only at hSw
        go_simp
        try with_reducible rfl
      try simp only [Array.getInternal_eq_getElem, List.getElem_toArray, List.getElem_cons_succ, List.getElem_cons_zero, Act.put, List.setIfInBounds_toArray, List.set_cons_zero, List.set_cons_succ]
      refine wpAnyH_take (i := 9) (v := ?_) rfl (by kernel_rfl) (by kernel_rfl) (by kernel_rfl) (fun _ _ _ h => h) (Or.inl ⟨by rfl, ?_⟩) (by assumption) ?_
      rotate_left
      · intro w hSw
        try dsimp only at hSw
        go_simp
        try with_reducible rfl
      try simp only [Array.getInternal_eq_getElem, List.getElem_toArray, List.getElem_cons_succ, List.getElem_cons_zero, Act.put, List.setIfInBounds_toArray, List.set_cons_zero, List.set_cons_succ]
      refine wpAnyH_take (i := 10) (v := ?_) rfl (by kernel_rfl) (by kernel_rfl) (by kernel_rfl) (fun _ _ _ h => h) (Or.inl ⟨by rfl, ?_⟩) (by assumption) ?_
      rotate_left
      · intro w hSw
        try dsimp only at hSw
        go_simp
        try with_reducible rfl
      try simp only [Array.getInternal_eq_getElem, List.getElem_toArray, List.getElem_cons_succ, List.getElem_cons_zero, Act.put, List.setIfInBounds_toArray, List.set_cons_zero, List.set_cons_succ]
      refine wpAnyH_take (i := 11) (v := ?_) rfl (by kernel_rfl) (by kernel_rfl) (by kernel_rfl) (fun _ _ _ h => h) (Or.inl ⟨by rfl, ?_⟩) (by assumption) ?_
      rotate_left
      · intro w hSw
        try dsimp only at hSw
        go_simp
        try with_reducible rfl
      try simp only [Array.getInternal_eq_getElem, List.getElem_toArray, List.getElem_cons_succ, List.getElem_cons_zero, Act.put, List.setIfInBounds_toArray, List.set_cons_zero, List.set_cons_succ]
      refine wpAnyH_take (i := 12) (v := ?_) rfl (by kernel_rfl) (by kernel_rfl) (by kernel_rfl) (fun _ _ _ h => h) (Or.inl ⟨by rfl, ?_⟩) (by assumption) ?_
      rotate_left
      · intro w hSw
        try dsimp only at hSw
        go_simp
        try with_reducible rfl
      try simp only [Array.getInternal_eq_getElem, List.getElem_toArray, List.getElem_cons_succ, List.getElem_cons_zero, Act.put, List.setIfInBounds_toArray, List.set_cons_zero, List.set_cons_succ]
      refine wpAnyH_ready (rs := [0, 7]) (by kernel_rfl) (by simp) ?_
      refine (AllReadyH.cons rfl (fun K hK => ?_) (AllReadyH.cons rfl (fun K hK => ?_) AllReadyH.nil))
      · go_simp
        refine hK.out _ _ ?_ (fun hHeld => ?_)
        · exact HSS.out _ (by first | exact .inl rfl | exact .inr (.inl rfl) | exact .inr (.inr rfl))
        clear hK K
        try simp only [Array.getInternal_eq_getElem, List.getElem_toArray, List.getElem_cons_succ, List.getElem_cons_zero, Act.put, List.setIfInBounds_toArray, List.set_cons_zero, List.set_cons_succ]
        refine wpAnyH_take (i := 6) (v := ?_) rfl (by kernel_rfl) (by kernel_rfl) (by kernel_rfl) (fun _ _ _ h => h) (Or.inl ⟨by rfl, ?_⟩) (by assumption) ?_
        rotate_left
        · intro w hSw
          try dsimp only at hSw
          go_simp
          try with_reducible rfl
        try simp only [Array.getInternal_eq_getElem, List.getElem_toArray, List.getElem_cons_succ, List.getElem_cons_zero, Act.put, List.setIfInBounds_toArray, List.set_cons_zero, List.set_cons_succ]
        refine wpAnyH_ready (rs := [7, 14]) (by kernel_rfl) (by simp) ?_
        refine (AllReadyH.cons rfl (fun K hK => ?_) (AllReadyH.cons rfl (fun K hK => ?_) AllReadyH.nil))
        · go_simp
          refine hK.out _ _ ?_ (fun hHeld => ?_)
          · exact HSS.out _ (by first | exact .inl rfl | exact .inr (.inl rfl) | exact .inr (.inr rfl))
          clear hK K
          try simp only [Array.getInternal_eq_getElem, List.getElem_toArray, List.getElem_cons_succ, List.getElem_cons_zero, Act.put, List.setIfInBounds_toArray, List.set_cons_zero, List.set_cons_succ]
          refine wpAnyH_take (i := 13) (v := ?_) rfl (by kernel_rfl) (by kernel_rfl) (by kernel_rfl) (fun _ _ _ h => h) (Or.inl ⟨by rfl, ?_⟩) (by assumption) ?_
          rotate_left
          · intro w hSw
            try dsimp only at hSw
            go_simp
            try with_reducible rfl
          try simp only [Array.getInternal_eq_getElem, List.getElem_toArray, List.getElem_cons_succ, List.getElem_cons_zero, Act.put, List.setIfInBounds_toArray, List.set_cons_zero, List.set_cons_succ]
          refine wpAnyH_ready (rs := [14]) (by kernel_rfl) (by simp) ?_
          refine (AllReadyH.cons rfl (fun K hK => ?_) AllReadyH.nil)
          · go_simp
            refine hK.out _ _ ?_ (fun hHeld => ?_)
            · exact HSS.out _ (by first | exact .inl rfl | exact .inr (.inl rfl) | exact .inr (.inr rfl))
            clear hK K
            try simp only [Array.getInternal_eq_getElem, List.getElem_toArray, List.getElem_cons_succ, List.getElem_cons_zero, Act.put, List.setIfInBounds_toArray, List.set_cons_zero, List.set_cons_succ]
            refine wpAnyH_ready (rs := [15]) (by kernel_rfl) (by simp) ?_
            refine (AllReadyH.cons rfl (fun K hK => ?_) AllReadyH.nil)
            · go_simp
              refine hK.out _ _ ?_ (fun hHeld => ?_)
              · exact HSS.out _ (by first | exact .inl rfl | exact .inr (.inl rfl) | exact .inr (.inr rfl))
              clear hK K
              try simp only [Array.getInternal_eq_getElem, List.getElem_toArray, List.getElem_cons_succ, List.getElem_cons_zero, Act.put, List.setIfInBounds_toArray, List.set_cons_zero, List.set_cons_succ]
              refine wpAnyH_done (by kernel_rfl) ?_ _
              dsimp only [NormalOnly]
              gi_wp2_with fail
              obtain ⟨Wf, hWf⟩ : ∃ x, x = (W.setCell ⟨p1, 0, none⟩ (.int .i64 m1)).setCell ⟨p2, 0, none⟩ (.int .i64 m2) := ⟨_, rfl⟩
              obtain ⟨q1, q2, q3, q4, q5, q6, q7, q8, q9⟩ := HEND.out Wf hWf
              rw [← hWf]
              exact ⟨q1.from _, q2, ⟨k + 1, m1, m2, E2.out, q3, q4, HTN.out⟩, q5, q6, q7, q8, q9⟩
        · go_simp
          refine hK.out _ _ ?_ (fun hHeld => ?_)
          · exact HSS.out _ (by first | exact .inl rfl | exact .inr (.inl rfl) | exact .inr (.inr rfl))
          clear hK K
          try simp only [Array.getInternal_eq_getElem, List.getElem_toArray, List.getElem_cons_succ, List.getElem_cons_zero, Act.put, List.setIfInBounds_toArray, List.set_cons_zero, List.set_cons_succ]
          refine wpAnyH_ready (rs := [7]) (by kernel_rfl) (by simp) ?_
          refine (AllReadyH.cons rfl (fun K hK => ?_) AllReadyH.nil)
          · go_simp
            refine hK.out _ _ ?_ (fun hHeld => ?_)
            · exact HSS.out _ (by first | exact .inl rfl | exact .inr (.inl rfl) | exact .inr (.inr rfl))
            clear hK K
            try simp only [Array.getInternal_eq_getElem, List.getElem_toArray, List.getElem_cons_succ, List.getElem_cons_zero, Act.put, List.setIfInBounds_toArray, List.set_cons_zero, List.set_cons_succ]
            refine wpAnyH_take (i := 13) (v := ?_) rfl (by kernel_rfl) (by kernel_rfl) (by kernel_rfl) (fun _ _ _ h => h) (Or.inl ⟨by rfl, ?_⟩) (by assumption) ?_
            rotate_left
            · intro w hSw
              try dsimp only at hSw
              go_simp
              try with_reducible rfl
            try simp only [Array.getInternal_eq_getElem, List.getElem_toArray, List.getElem_cons_succ, List.getElem_cons_zero, Act.put, List.setIfInBounds_toArray, List.set_cons_zero, List.set_cons_succ]
            refine wpAnyH_ready (rs := [15]) (by kernel_rfl) (by simp) ?_
            refine (AllReadyH.cons rfl (fun K hK => ?_) AllReadyH.nil)
            · go_simp
              refine hK.out _ _ ?_ (fun hHeld => ?_)
              · exact HSS.out _ (by first | exact .inl rfl | exact .inr (.inl rfl) | exact .inr (.inr rfl))
              clear hK K
              try simp only [Array.getInternal_eq_getElem, List.getElem_toArray, List.getElem_cons_succ, List.getElem_cons_zero, Act.put, List.setIfInBounds_toArray, List.set_cons_zero, List.set_cons_succ]
              refine wpAnyH_done (by kernel_rfl) ?_ _
              dsimp only [NormalOnly]
              gi_wp2_with fail
              obtain ⟨Wf, hWf⟩ : ∃ x, x = (W.setCell ⟨p1, 0, none⟩ (.int .i64 m1)).setCell ⟨p2, 0, none⟩ (.int .i64 m2) := ⟨_, rfl⟩
              obtain ⟨q1, q2, q3, q4, q5, q6, q7, q8, q9⟩ := HEND.out Wf hWf
              rw [← hWf]
              exact ⟨q1.from _, q2, ⟨k + 1, m1, m2, E2.out, q3, q4, HTN.out⟩, q5, q6, q7, q8, q9⟩
      · go_simp
        refine hK.out _ _ ?_ (fun hHeld => ?_)
        · exact HSS.out _ (by first | exact .inl rfl | exact .inr (.inl rfl) | exact .inr (.inr rfl))
        clear hK K
        try simp only [Array.getInternal_eq_getElem, List.getElem_toArray, List.getElem_cons_succ, List.getElem_cons_zero, Act.put, List.setIfInBounds_toArray, List.set_cons_zero, List.set_cons_succ]
        refine wpAnyH_take (i := 13) (v := ?_) rfl (by kernel_rfl) (by kernel_rfl) (by kernel_rfl) (fun _ _ _ h => h) (Or.inl ⟨by rfl, ?_⟩) (by assumption) ?_
        rotate_left
        · intro w hSw
          try dsimp only at hSw
          go_simp
          try with_reducible rfl
        try simp only [Array.getInternal_eq_getElem, List.getElem_toArray, List.getElem_cons_succ, List.getElem_cons_zero, Act.put, List.setIfInBounds_toArray, List.set_cons_zero, List.set_cons_succ]
        refine wpAnyH_ready (rs := [0]) (by kernel_rfl) (by simp) ?_
        refine (AllReadyH.cons rfl (fun K hK => ?_) AllReadyH.nil)
        · go_simp
          refine hK.out _ _ ?_ (fun hHeld => ?_)
          · exact HSS.out _ (by first | exact .inl rfl | exact .inr (.inl rfl) | exact .inr (.inr rfl))
          clear hK K
          try simp only [Array.getInternal_eq_getElem, List.getElem_toArray, List.getElem_cons_succ, List.getElem_cons_zero, Act.put, List.setIfInBounds_toArray, List.set_cons_zero, List.set_cons_succ]
          refine wpAnyH_take (i := 6) (v := ?_) rfl (by kernel_rfl) (by kernel_rfl) (by kernel_rfl) (fun _ _ _ h => h) (Or.inl ⟨by rfl, ?_⟩) (by assumption) ?_
          rotate_left
          · intro w hSw
            try dsimp only at hSw
            go_simp
            try with_reducible rfl
          try simp only [Array.getInternal_eq_getElem, List.getElem_toArray, List.getElem_cons_succ, List.getElem_cons_zero, Act.put, List.setIfInBounds_toArray, List.set_cons_zero, List.set_cons_succ]
          refine wpAnyH_ready (rs := [14]) (by kernel_rfl) (by simp) ?_
          refine (AllReadyH.cons rfl (fun K hK => ?_) AllReadyH.nil)
          · go_simp
            refine hK.out _ _ ?_ (fun hHeld => ?_)
            · exact HSS.out _ (by first | exact .inl rfl | exact .inr (.inl rfl) | exact .inr (.inr rfl))
            clear hK K
            try simp only [Array.getInternal_eq_getElem, List.getElem_toArray, List.getElem_cons_succ, List.getElem_cons_zero, Act.put, List.setIfInBounds_toArray, List.set_cons_zero, List.set_cons_succ]
            refine wpAnyH_ready (rs := [15]) (by kernel_rfl) (by simp) ?_
            refine (AllReadyH.cons rfl (fun K hK => ?_) AllReadyH.nil)
            · go_simp
              refine hK.out _ _ ?_ (fun hHeld => ?_)
              · exact HSS.out _ (by first | exact .inl rfl | exact .inr (.inl rfl) | exact .inr (.inr rfl))
              clear hK K
              try simp only [Array.getInternal_eq_getElem, List.getElem_toArray, List.getElem_cons_succ, List.getElem_cons_zero, Act.put, List.setIfInBounds_toArray, List.set_cons_zero, List.set_cons_succ]
              refine wpAnyH_done (by kernel_rfl) ?_ _
              dsimp only [NormalOnly]
              gi_wp2_with fail
              obtain ⟨Wf, hWf⟩ : ∃ x, x = (W.setCell ⟨p1, 0, none⟩ (.int .i64 m1)).setCell ⟨p2, 0, none⟩ (.int .i64 m2) := ⟨_, rfl⟩
              obtain ⟨q1, q2, q3, q4, q5, q6, q7, q8, q9⟩ := HEND.out Wf hWf
              rw [← hWf]
              exact ⟨q1.from _, q2, ⟨k + 1, m1, m2, E2.out, q3, q4, HTN.out⟩, q5, q6, q7, q8, q9⟩
    | some c =>
      obtain ⟨hc5, hR5⟩ : c = 5 ∧ R = ⟨0, 0, 5⟩ := by
        rcases hst with ⟨k', e, _⟩ | ⟨k', e, hr⟩
        · have hm : some c ∈ List.replicate k' (none : Option Int) := by rw [← e]; simp
          have := List.eq_of_mem_replicate hm
          cases this
        · have h2 := List.append_inj_right' e rfl
          have h3 := List.append_inj_left' e rfl
          have h4 := congrArg List.length h3
          rw [e1] at h4
          simp at h2 h4
          subst h4
          exact ⟨h2, htl.fail hr⟩
      subst hc5
      simp only [errG]
      have HBr := Lib.hid hb
      have C0 := Lib.hid c0'
      have C1 := Lib.hid c1'
      have C2 := Lib.hid c2'
      clear c0' c1' c2' c3' k1 k2 hb htl
      gi_wp2_with fail
      gi_at_call 74
      refine (CallsIn.inRound l (callsIn_wide.2 (implCodeOf 5 _ (HE.out.below HBr.out (Nat.le_refl _))))).mono ?_
      rintro e3 w3 ⟨rfl, bq⟩
      obtain ⟨⟨f1, f2, f3, f4, f5, f6⟩, hf⟩ := put3T (C0.out.below bq C0.out.lt) (C1.out.below bq C1.out.lt) (C2.out.below bq C2.out.lt) (.int .i64 0) (.int .i64 0) (.int .i64 5)
      have HF := Lib.hid hf
      have HD3 := Lib.hid bq
      clear hf bq
      gi_wp2_with fail
      obtain ⟨Wf, hWf⟩ : ∃ x, x = ((w3.setCell ⟨w.heap.size + 1, 0, none⟩ (.int .i64 0)).setCell ⟨w.heap.size + 1 + 1, 0, none⟩ (.int .i64 0)).setCell ⟨w.heap.size + 1 + 1 + 1, 0, none⟩ (.int .i64 5) := ⟨_, rfl⟩
      obtain ⟨q1, q2, q3⟩ := HF.out Wf hWf
      rw [← hWf]
      exact ⟨((below_keeps HD3.out).trans q3).from _, ⟨rfl, hR5⟩, q1.1, q1.2.1, q1.2.2, (HBr.out.trans (HD3.out.mono HBr.out.size)).trans (q2 _ (by omega))⟩
  case done =>
    rintro D xs2 W hD hdn ⟨⟨k, lo, hi, e1, k1, k2, htl⟩, c0', c1', c2', c3', hb⟩ hK
    have hR2 : R = ⟨lo, hi, 0⟩ := by
      rcases hdn with ⟨k', e, ha, he⟩ | ⟨k', e⟩
      · have h1 := congrArg List.length e
        rw [e1] at h1
        simp at h1
        subst h1
        exact htl.done ha.le ha.r he
      · exfalso
        rw [e1] at e
        have hm : some (5 : Int) ∈ List.replicate k (none : Option Int) := by rw [e]; simp
        have := List.eq_of_mem_replicate hm
        cases this
    have HR2 := Lib.hid hR2
    have HBr := Lib.hid hb
    have HKD := Lib.hid hK
    have HDW : Hid (D < W.heap.size) := Lib.hid (Array.getElem?_eq_some_iff.1 hK).1
    have hg := HG.out
    have x1 := k1.cell 0 rfl
    have x2 := k2.cell 0 rfl
    have x3 := (k2.other (p := ⟨w.heap.size + 1, 0, none⟩) (by show p2 ≠ w.heap.size + 1; omega) (.int .i64 lo)).cell 0 rfl
    have x4 := (k1.other (p := ⟨w.heap.size + 1, 0, none⟩) (by show p1 ≠ w.heap.size + 1; omega) (.int .i64 lo)).cell 0 rfl
    obtain ⟨⟨f1, f2, f3, f4, f5, f6⟩, hf⟩ := put3T c0' c1' c2' (.int .i64 lo) (.int .i64 hi) (.int .i64 0)
    have HF := Lib.hid hf
    clear hdn e1 htl hR2 hb hK c0' c1' c2' c3' k1 k2 hf hg
    gi_wp2_with fail
    refine wpIn_wide.2 ?_
    go_cut [] from 57 to 58 (fun wx => (Cels wx (w.heap.size + 1) 2 [.int .i64 lo] ∧ Cels wx (w.heap.size + 1 + 1) 2 [.int .i64 hi] ∧ Cels wx (w.heap.size + 1 + 1 + 1) 2 [.int .i64 0]) ∧ KeepsOthers W wx ∧ Below w.heap.size w wx)
    case first =>
      refine wp_region_noPanic ?_
      go_region
      all_goals (refine NoPanic.normal ?_)
      all_goals (go_wp2_with fail; go_meet)
      all_goals
        obtain ⟨Wf, hWf⟩ : ∃ x, x = ((W.setCell ⟨w.heap.size + 1, 0, none⟩ (.int .i64 lo)).setCell ⟨w.heap.size + 1 + 1, 0, none⟩ (.int .i64 hi)).setCell ⟨w.heap.size + 1 + 1 + 1, 0, none⟩ (.int .i64 0) := ⟨_, rfl⟩
        obtain ⟨q1, q2, q3⟩ := HF.out Wf hWf
        rw [← hWf]
        have dr : Below Wf.heap.size Wf Wf.drew := (Below.refl _ _).drew
        exact ⟨⟨q1.1.below dr q1.1.lt, q1.2.1.below dr q1.2.1.lt, q1.2.2.below dr q1.2.2.lt⟩, q3.trans (below_keeps dr), (HBr.out.trans (q2 _ (by omega))).drew⟩
    obtain ⟨q1, q3, q2⟩ := hcut
    obtain ⟨Wf, hWf⟩ : ∃ x, x = wc := ⟨_, rfl⟩
    subst hWf
    have Q1 := Lib.hid q1
    have HKF := Lib.hid (q3.same D _ HKD.out rfl)
    have Q2 := Lib.hid q2
    clear q1 q2 q3 x1 x2 x3 x4 f1 f2 f3 f4 f5 f6
    gi_wp2_with fail
    have hkf := HKF.out
    have q1 := Q1.out
    have hg := HG.out
    refine ⟨by simp, .inl ⟨_, _, rfl, run_takeDeferred hkf, ?_⟩⟩
    have nd : ∀ (q : Nat) (t : TypeId) (cs : List Value), q < D → Cels Wf q t cs → Cels (Wf.putObj D (.deferred none)) q t cs := fun q t cs h k => (World.putObj_heap_other (by omega)).trans k
    obtain ⟨x0, x1, x2⟩ := RET.out ⟨lo, hi, 0⟩ (Wf.putObj D (.deferred none)) ⟨nd _ _ _ (by omega) q1.1, nd _ _ _ (by omega) q1.2.1, nd _ _ _ (by omega) q1.2.2⟩
    exact ⟨.tuple #[.int .i64 lo, .int .i64 hi, .int .i64 0], by simp [results, Tryd.f14, go_sem, x0, x1, x2], by rw [HR2.out], Q2.out.trans (belowK_b (w := w) (by omega) _ D _ _ (by omega) hkf rfl rfl)⟩
  case stop =>
    rintro D c pre W hD ⟨⟨rfl, hR5⟩, c0', c1', c2', hb⟩ hK
    have hg := HG.out
    have nd : ∀ (q : Nat) (t : TypeId) (cs : List Value), q < D → Cels W q t cs → Cels (W.putObj D (.deferred none)) q t cs := fun q t cs h k => (World.putObj_heap_other (by omega)).trans k
    obtain ⟨x0, x1, x2⟩ := RET.out ⟨0, 0, 5⟩ (W.putObj D (.deferred none)) ⟨nd _ _ _ (by omega) c0', nd _ _ _ (by omega) c1', nd _ _ _ (by omega) c2'⟩
    have HX := Lib.hid (And.intro x0 (And.intro x1 x2))
    clear x0 x1 x2 nd
    gi_wp2_with fail
    refine ⟨by simp, .inl ⟨_, _, rfl, run_takeDeferred hK, ?_⟩⟩
    obtain ⟨x0, x1, x2⟩ := HX.out
    exact ⟨.tuple #[.int .i64 0, .int .i64 0, .int .i64 5], by simp [results, Tryd.f14, go_sem, x0, x1, x2], by first | rfl | rw [hR5], hb.trans (belowK_b (w := w) (by omega) _ D _ _ (by omega) hK rfl rfl)⟩
end Go.Proofs.YtkjoakdepjpkhaaDoor.Ints
