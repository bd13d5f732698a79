/- Copies and comparisons of rules of machines with several tapes and of the machines. -/
import Derived.Test.YtepdjlhlcjkdkaaJrs
import Derived.Deep.RegionHeld3
namespace Go.Proofs.Ytepdjlhlcjkdkaa.Ints
open Go.RowKit
set_option linter.unusedVariables false
set_option linter.unusedSimpArgs false
theorem infoM : (Try.prog.info? 100).map (fun i => (i.zero, i.size, i.bytes)) = some (some (.agg #[.int .i64 0, .slice none 0 0, .slice none 0 0, .slice none 0 0, .int .i64 0]), 5, 88) := by kernel_rfl
theorem szMul (tp sy st : Int) (a : Option Addr) (len cap : Nat) (zs : List Jin) (w : World) {L l m : Int} (h : IsMrules w a len cap zs) (hL : 0 ≤ L ∧ L ≤ 1048576) (hl : l = L - (len : Int)) (h0 : 0 ≤ l) (hm : m = szM l (zs.take len)) (hm0 : 0 ≤ m) :
    Calls Try.prog 15 #[.agg #[.int .i64 tp, .int .i64 sy, .int .i64 st, .slice a len cap], .int .i64 L] w fun e w' => e = .returned (.int .i64 m) ∧ Below w.heap.size w w' := by
  have H := Lib.hid h
  have HB : ∀ x : Obj, Hid (Below w.heap.size w (w.alloc x)) := fun x => Lib.hid ((Below.refl _ _).alloc (Nat.le_refl _) _)
  have HI : ∀ x : Obj, Hid (IsMrules (w.alloc x) a len cap zs) := fun x => Lib.hid (H.out.alloc x)
  have HL := Lib.hid hL
  have HLE := Lib.hid hl
  have HM := Lib.hid hm
  have hn : ¬ m < 0 := by omega
  clear h hL hl hm
  go_enter Try.func15, Try.ntmps15
  go_wp2_with fail
  refine (szMrs _ _ _ zs _ (HI _).out HL.out HLE.out h0).mono ?_
  rintro e w1 ⟨rfl, hb⟩
  rw [← HM.out]
  have HB1 := Lib.hid ((HB _).out.trans (hb.mono (by simp)))
  clear hb
  go_wp2
  go_ret
  exact ⟨rfl, HB1.out⟩
theorem szMul_bad0 (tp sy st : Int) (a : Option Addr) (len cap : Nat) (w : World) {L l : Int} (hz : (len : Int) ≤ 9223372036854775807) (hL : 0 ≤ L ∧ L ≤ 1048576) (hl : l = L - (len : Int)) (h0 : l < 0) :
    Calls Try.prog 15 #[.agg #[.int .i64 tp, .int .i64 sy, .int .i64 st, .slice a len cap], .int .i64 L] w fun e w' => e = .returned (.int .i64 (-1)) ∧ Below w.heap.size w w' := by
  have HB : ∀ x : Obj, Hid (Below w.heap.size w (w.alloc x)) := fun x => Lib.hid ((Below.refl _ _).alloc (Nat.le_refl _) _)
  have HL := Lib.hid hL
  have HLE := Lib.hid hl
  have HZ := Lib.hid hz
  clear hL hl hz
  go_enter Try.func15, Try.ntmps15
  go_wp2_with fail
  refine (szMrs_bad _ _ _ _ HZ.out HL.out HLE.out h0).mono ?_
  rintro e w1 ⟨rfl, hb⟩
  have HB1 := Lib.hid ((HB _).out.trans (hb.mono (by simp)))
  clear hb
  go_wp2
  go_ret
  exact ⟨rfl, HB1.out⟩
theorem szMul_bad1 (tp sy st : Int) (a : Option Addr) (len cap : Nat) (zs : List Jin) (w : World) {L l m : Int} (h : IsMrules w a len cap zs) (hL : 0 ≤ L ∧ L ≤ 1048576) (hl : l = L - (len : Int)) (h0 : 0 ≤ l) (hm : m = szM l (zs.take len)) (hm0 : m < 0) :
    Calls Try.prog 15 #[.agg #[.int .i64 tp, .int .i64 sy, .int .i64 st, .slice a len cap], .int .i64 L] w fun e w' => e = .returned (.int .i64 (-1)) ∧ Below w.heap.size w w' := by
  have H := Lib.hid h
  have HB : ∀ x : Obj, Hid (Below w.heap.size w (w.alloc x)) := fun x => Lib.hid ((Below.refl _ _).alloc (Nat.le_refl _) _)
  have HI : ∀ x : Obj, Hid (IsMrules (w.alloc x) a len cap zs) := fun x => Lib.hid (H.out.alloc x)
  have HL := Lib.hid hL
  have HLE := Lib.hid hl
  have HM := Lib.hid hm
  clear h hL hl hm
  go_enter Try.func15, Try.ntmps15
  go_wp2_with fail
  refine (szMrs _ _ _ zs _ (HI _).out HL.out HLE.out h0).mono ?_
  rintro e w1 ⟨rfl, hb⟩
  rw [← HM.out]
  have HB1 := Lib.hid ((HB _).out.trans (hb.mono (by simp)))
  clear hb
  go_wp2
  go_ret
  exact ⟨rfl, HB1.out⟩
set_option maxHeartbeats 4000000 in
theorem toMr (st nx : Int) (u1 : Value) (r1 : List Int) (u2 : Value) (r2 : List Int) (u3 : Value) (r3 : List Int) (w : World) (hu1 : Rd w u1 r1) (hu2 : Rd w u2 r2) (hu3 : Rd w u3 r3) :
    Calls Try.prog 121 #[.agg #[.int .i64 st, u1, u2, u3, .int .i64 nx]] w fun e w' => ∃ x1 x2 x3, e = .returned (.agg #[.int .i64 st, x1, x2, x3, .int .i64 nx]) ∧ Ow w' w.heap.size w'.heap.size x1 r1 ∧ Ow w' w.heap.size w'.heap.size x2 r2 ∧ Ow w' w.heap.size w'.heap.size x3 r3 ∧ Below w.heap.size w w' := by
  have H1 := Lib.hid hu1
  have H2 := Lib.hid hu2
  have H3 := Lib.hid hu3
  obtain ⟨_, _, a1, c1, rfl, _, _⟩ := hu1
  obtain ⟨_, _, a2, c2, rfl, _, _⟩ := hu2
  obtain ⟨_, _, a3, c3, rfl, _, _⟩ := hu3
  have HC := Lib.hid (cels3 w (Obj.cells #[.int .i64 st, .slice a1 r1.length c1, .slice a2 r2.length c2, .slice a3 r3.length c3, .int .i64 nx] 126) 100 100 [.int .i64 0, .slice none 0 0, .slice none 0 0, .slice none 0 0, .int .i64 0] [.int .i64 st, .slice none 0 0, .slice none 0 0, .slice none 0 0, .int .i64 0])
  have HC0 := Lib.hid (((Cels.new w 126 [.int .i64 st, .slice a1 r1.length c1, .slice a2 r2.length c2, .slice a3 r3.length c3, .int .i64 nx]).alloc (Obj.cells #[.int .i64 0, .slice none 0 0, .slice none 0 0, .slice none 0 0, .int .i64 0] 100)).alloc (Obj.cells #[.int .i64 st, .slice none 0 0, .slice none 0 0, .slice none 0 0, .int .i64 0] 100))
  go_enter Try.func121, Try.ntmps121
  go_wp2_with fail
  obtain ⟨k1, k2, hb0, hs0⟩ := HC.out
  have k0 := HC0.out
  simp only [List.toArray] at k0 k1 k2 hb0 hs0
  have HBW := Lib.hid hb0
  have HSZ : Hid (w.heap.size + 1 + 1 + 1 ≤ _) := Lib.hid (Nat.le_of_eq hs0.symm)
  clear hb0 hs0
  refine (toInts _ r1 _ (H1.out.below HBW.out (Nat.le_refl _))).mono ?_
  rintro e w1 ⟨x1, rfl, ho, hb⟩
  obtain ⟨g1, d1, rfl⟩ := ho.shape
  have hss := HSZ.out
  replace k0 := k0.below hb (by omega)
  replace k1 := k1.below hb (by omega)
  replace k2 := k2.below hb (by omega)
  have HO1 : Hid (Ow w1 (w.heap.size + 1 + 1 + 1) w1.heap.size (.slice g1 r1.length d1) r1) := Lib.hid (ho.mono hss (Nat.le_refl _) (Nat.le_refl _))
  replace HBW := Lib.hid (HBW.out.trans (hb.mono HBW.out.size))
  have hsq : w.heap.size + 1 + 1 + 1 ≤ w1.heap.size := Nat.le_trans hss hb.size
  clear ho hb hss HSZ
  have s2 := k2.set 1 (.slice g1 r1.length d1)
  have s0 := k0.other (p := ⟨w.heap.size + 1 + 1, 1, none⟩) (by show w.heap.size ≠ w.heap.size + 1 + 1; omega) (.slice g1 r1.length d1)
  have s1 := k1.other (p := ⟨w.heap.size + 1 + 1, 1, none⟩) (by show w.heap.size + 1 ≠ w.heap.size + 1 + 1; omega) (.slice g1 r1.length d1)
  have f0 := k2.cell 1 rfl
  have f1 := k2.frozen 1
  have f2 := s0.cell 2 rfl
  obtain ⟨W1, hW1⟩ : ∃ W, W = w1.setCell ⟨w.heap.size + 1 + 1, 1, none⟩ (.slice g1 r1.length d1) := ⟨_, rfl⟩
  have hWs : W1.heap.size = w1.heap.size := by rw [hW1]; simp
  replace HBW : Hid (Below w.heap.size w W1) := Lib.hid (by rw [hW1]; exact below_set HBW.out (by omega) 1 _)
  replace HO1 : Hid (Ow W1 (w.heap.size + 1 + 1 + 1) W1.heap.size (.slice g1 r1.length d1) r1) := Lib.hid (by rw [hW1]; exact (HO1.out.apartCell (g := w.heap.size + 1 + 1) (by omega) 1 _).up)
  rw [← hW1] at s0 s1 s2
  have HSZ : Hid (w.heap.size + 1 + 1 + 1 ≤ W1.heap.size) := Lib.hid (by rw [hWs]; exact hsq)
  have HK0 := Lib.hid s0
  have HK1 := Lib.hid s1
  have HK2 := Lib.hid s2
  have HW1 := Lib.hid hW1.symm
  clear k0 k1 k2 s0 s1 s2 hW1 hWs hsq
  go_wp2_with fail
  rw [HW1.out]
  have k0 := HK0.out
  have k1 := HK1.out
  have k2 := HK2.out
  clear f0 f1 f2 HK0 HK1 HK2
  refine (toInts _ r2 _ (H2.out.below HBW.out (Nat.le_refl _))).mono ?_
  rintro e w2 ⟨x2, rfl, ho, hb⟩
  obtain ⟨g2, d2, rfl⟩ := ho.shape
  have hss := HSZ.out
  replace k0 := k0.below hb (by omega)
  replace k1 := k1.below hb (by omega)
  replace k2 := k2.below hb (by omega)
  replace HO1 := Lib.hid (HO1.out.below hb HO1.out.size)
  have HO2 : Hid (Ow w2 (w.heap.size + 1 + 1 + 1) w2.heap.size (.slice g2 r2.length d2) r2) := Lib.hid (ho.mono hss (Nat.le_refl _) (Nat.le_refl _))
  replace HBW := Lib.hid (HBW.out.trans (hb.mono HBW.out.size))
  have hsq : w.heap.size + 1 + 1 + 1 ≤ w2.heap.size := Nat.le_trans hss hb.size
  clear ho hb hss HSZ
  have s2 := k2.set 2 (.slice g2 r2.length d2)
  have s0 := k0.other (p := ⟨w.heap.size + 1 + 1, 2, none⟩) (by show w.heap.size ≠ w.heap.size + 1 + 1; omega) (.slice g2 r2.length d2)
  have s1 := k1.other (p := ⟨w.heap.size + 1 + 1, 2, none⟩) (by show w.heap.size + 1 ≠ w.heap.size + 1 + 1; omega) (.slice g2 r2.length d2)
  have f0 := k2.cell 2 rfl
  have f1 := k2.frozen 2
  have f2 := s0.cell 3 rfl
  obtain ⟨W2, hW2⟩ : ∃ W, W = w2.setCell ⟨w.heap.size + 1 + 1, 2, none⟩ (.slice g2 r2.length d2) := ⟨_, rfl⟩
  have hWs : W2.heap.size = w2.heap.size := by rw [hW2]; simp
  replace HBW : Hid (Below w.heap.size w W2) := Lib.hid (by rw [hW2]; exact below_set HBW.out (by omega) 2 _)
  replace HO1 : Hid (Ow W2 (w.heap.size + 1 + 1 + 1) W2.heap.size (.slice g1 r1.length d1) r1) := Lib.hid (by rw [hW2]; exact (HO1.out.apartCell (g := w.heap.size + 1 + 1) (by omega) 2 _).up)
  replace HO2 : Hid (Ow W2 (w.heap.size + 1 + 1 + 1) W2.heap.size (.slice g2 r2.length d2) r2) := Lib.hid (by rw [hW2]; exact (HO2.out.apartCell (g := w.heap.size + 1 + 1) (by omega) 2 _).up)
  rw [← hW2] at s0 s1 s2
  have HSZ : Hid (w.heap.size + 1 + 1 + 1 ≤ W2.heap.size) := Lib.hid (by rw [hWs]; exact hsq)
  have HK0 := Lib.hid s0
  have HK1 := Lib.hid s1
  have HK2 := Lib.hid s2
  have HW2 := Lib.hid hW2.symm
  clear k0 k1 k2 s0 s1 s2 hW2 hWs hsq
  go_wp2_with fail
  rw [HW2.out]
  have k0 := HK0.out
  have k1 := HK1.out
  have k2 := HK2.out
  clear f0 f1 f2 HK0 HK1 HK2
  refine (toInts _ r3 _ (H3.out.below HBW.out (Nat.le_refl _))).mono ?_
  rintro e w3 ⟨x3, rfl, ho, hb⟩
  obtain ⟨g3, d3, rfl⟩ := ho.shape
  have hss := HSZ.out
  replace k0 := k0.below hb (by omega)
  replace k1 := k1.below hb (by omega)
  replace k2 := k2.below hb (by omega)
  replace HO1 := Lib.hid (HO1.out.below hb HO1.out.size)
  replace HO2 := Lib.hid (HO2.out.below hb HO2.out.size)
  have HO3 : Hid (Ow w3 (w.heap.size + 1 + 1 + 1) w3.heap.size (.slice g3 r3.length d3) r3) := Lib.hid (ho.mono hss (Nat.le_refl _) (Nat.le_refl _))
  replace HBW := Lib.hid (HBW.out.trans (hb.mono HBW.out.size))
  have hsq : w.heap.size + 1 + 1 + 1 ≤ w3.heap.size := Nat.le_trans hss hb.size
  clear ho hb hss HSZ
  have A1 := k2.set 3 (.slice g3 r3.length d3)
  have B1 := k1.other (p := ⟨w.heap.size + 1 + 1, 3, none⟩) (by show w.heap.size + 1 ≠ w.heap.size + 1 + 1; omega) (.slice g3 r3.length d3)
  have C1 := k0.other (p := ⟨w.heap.size + 1 + 1, 3, none⟩) (by show w.heap.size ≠ w.heap.size + 1 + 1; omega) (.slice g3 r3.length d3)
  have A2 := A1.set 4 (.int .i64 nx)
  have B2 := B1.other (p := ⟨w.heap.size + 1 + 1, 4, none⟩) (by show w.heap.size + 1 ≠ w.heap.size + 1 + 1; omega) (.int .i64 nx)
  have e1 := k2.cell 3 rfl
  have e2 := k2.frozen 3
  have e3 := C1.cell 4 rfl
  have e4 := A1.cell 4 rfl
  have e5 := A1.frozen 4
  have e60 := A2.cell 0 rfl
  have e61 := A2.cell 1 rfl
  have e62 := A2.cell 2 rfl
  have e63 := A2.cell 3 rfl
  have e64 := A2.cell 4 rfl
  have D0 := B2.set 0 (.int .i64 st)
  have D1 := D0.set 1 (.slice g1 r1.length d1)
  have D2 := D1.set 2 (.slice g2 r2.length d2)
  have D3 := D2.set 3 (.slice g3 r3.length d3)
  have D4 := D3.set 4 (.int .i64 nx)
  have t0 := B2.cell 0 rfl
  have u0 := B2.frozen 0
  have t1 := D0.cell 1 rfl
  have v1 := D0.frozen 1
  have t2 := D1.cell 2 rfl
  have v2 := D1.frozen 2
  have t3 := D2.cell 3 rfl
  have v3 := D2.frozen 3
  have t4 := D3.cell 4 rfl
  have v4 := D3.frozen 4
  have HD4 := Lib.hid D4
  have HSQ := Lib.hid hsq
  clear k0 k1 k2 A1 B1 C1 A2 B2 D0 D1 D2 D3 D4 hsq HC HC0
  go_wp2
  obtain ⟨W, hW⟩ : ∃ W, W = ((((((w3.setCell ⟨w.heap.size + 1 + 1, 3, none⟩ (.slice g3 r3.length d3)).setCell ⟨w.heap.size + 1 + 1, 4, none⟩ (.int .i64 nx)).setCell ⟨w.heap.size + 1, 0, none⟩ (.int .i64 st)).setCell ⟨w.heap.size + 1, 1, none⟩ (.slice g1 r1.length d1)).setCell ⟨w.heap.size + 1, 2, none⟩ (.slice g2 r2.length d2)).setCell ⟨w.heap.size + 1, 3, none⟩ (.slice g3 r3.length d3)).setCell ⟨w.heap.size + 1, 4, none⟩ (.int .i64 nx) := ⟨_, rfl⟩
  have hB : Below w.heap.size w W ∧ Ow W (w.heap.size + 1 + 1 + 1) W.heap.size (.slice g1 r1.length d1) r1 ∧ Ow W (w.heap.size + 1 + 1 + 1) W.heap.size (.slice g2 r2.length d2) r2 ∧ Ow W (w.heap.size + 1 + 1 + 1) W.heap.size (.slice g3 r3.length d3) r3 := by
    rw [hW]
    have up : ∀ {v : Value} {r : List Int}, Ow w3 (w.heap.size + 1 + 1 + 1) w3.heap.size v r → Ow _ (w.heap.size + 1 + 1 + 1) _ v r := fun h =>
      (((((((h.apartCell (g := w.heap.size + 1 + 1) (by omega) 3 (.slice g3 r3.length d3)).apartCell (g := w.heap.size + 1 + 1) (by omega) 4 (.int .i64 nx)).apartCell (g := w.heap.size + 1) (by omega) 0 (.int .i64 st)).apartCell (g := w.heap.size + 1) (by omega) 1 (.slice g1 r1.length d1)).apartCell (g := w.heap.size + 1) (by omega) 2 (.slice g2 r2.length d2)).apartCell (g := w.heap.size + 1) (by omega) 3 (.slice g3 r3.length d3)).apartCell (g := w.heap.size + 1) (by omega) 4 (.int .i64 nx)).up
    exact ⟨below_set (below_set (below_set (below_set (below_set (below_set (below_set HBW.out (by omega) _ _) (by omega) _ _) (by omega) _ _) (by omega) _ _) (by omega) _ _) (by omega) _ _) (by omega) _ _, up HO1.out.up, up HO2.out.up, up HO3.out.up⟩
  have f12 := HD4.out
  rw [← hW] at f12 ⊢
  have z0 := f12.cell 0 rfl
  have z1 := f12.cell 1 rfl
  have z2 := f12.cell 2 rfl
  have z3 := f12.cell 3 rfl
  have z4 := f12.cell 4 rfl
  clear e1 e2 e3 e4 e5 e60 e61 e62 e63 e64 t0 u0 t1 v1 t2 v2 t3 v3 t4 v4 hW
  refine bodyPost_ret (v := .agg #[.int .i64 st, .slice g1 r1.length d1, .slice g2 r2.length d2, (.slice g3 r3.length d3), .int .i64 nx]) (by simp [results, Try.f121, go_sem, z0, z1, z2, z3, z4]) rfl ⟨_, _, _, rfl, hB.2.1.mono (by omega) (Nat.le_refl _) (Nat.le_refl _), hB.2.2.1.mono (by omega) (Nat.le_refl _) (Nat.le_refl _), hB.2.2.2.mono (by omega) (Nat.le_refl _) (Nat.le_refl _), hB.1⟩
set_option maxHeartbeats 2000000 in
theorem eqMr (st nx : Int) (u1 v1 : Value) (r1 : List Int) (u2 v2 : Value) (r2 : List Int) (u3 v3 : Value) (r3 : List Int) (w : World) (hu1 : Rd w u1 r1) (hv1 : Rd w v1 r1) (hu2 : Rd w u2 r2) (hv2 : Rd w v2 r2) (hu3 : Rd w u3 r3) (hv3 : Rd w v3 r3) :
    Calls Try.prog 126 #[.agg #[.int .i64 st, u1, u2, u3, .int .i64 nx], .agg #[.int .i64 st, v1, v2, v3, .int .i64 nx]] w fun e w' => e = .returned (.bool true) ∧ Below w.heap.size w w' := by
  have H1 := Lib.hid hu1
  have H2 := Lib.hid hu2
  have H3 := Lib.hid hu3
  have G1 := Lib.hid hv1
  have G2 := Lib.hid hv2
  have G3 := Lib.hid hv3
  obtain ⟨_, _, a1, c1, rfl, _, _⟩ := hu1
  obtain ⟨_, _, a2, c2, rfl, _, _⟩ := hu2
  obtain ⟨_, _, a3, c3, rfl, _, _⟩ := hu3
  obtain ⟨_, _, b1, d1, rfl, _, _⟩ := hv1
  obtain ⟨_, _, b2, d2, rfl, _, _⟩ := hv2
  obtain ⟨_, _, b3, d3, rfl, _, _⟩ := hv3
  obtain ⟨W0, hW0⟩ : ∃ W, W = (w.alloc (Obj.cells #[.int .i64 st, .slice a1 r1.length c1, .slice a2 r2.length c2, .slice a3 r3.length c3, .int .i64 nx] 100)).alloc (Obj.cells #[.int .i64 st, .slice b1 r1.length d1, .slice b2 r2.length d2, .slice b3 r3.length d3, .int .i64 nx] 100) := ⟨_, rfl⟩
  have HB : Hid (Below w.heap.size w W0) := Lib.hid (by rw [hW0]; exact ((Below.refl w.heap.size w).alloc (Nat.le_refl _) _).alloc (by simp) _)
  have K1 : Hid (Cels W0 w.heap.size 100 [.int .i64 st, .slice a1 r1.length c1, .slice a2 r2.length c2, .slice a3 r3.length c3, .int .i64 nx]) := Lib.hid (by rw [hW0]; exact (Cels.new _ _ _).alloc _)
  have K2 : Hid (Cels W0 (w.heap.size + 1) 100 [.int .i64 st, .slice b1 r1.length d1, .slice b2 r2.length d2, .slice b3 r3.length d3, .int .i64 nx]) := Lib.hid (by rw [hW0]; have h := Cels.new (w.alloc (Obj.cells #[.int .i64 st, .slice a1 r1.length c1, .slice a2 r2.length c2, .slice a3 r3.length c3, .int .i64 nx] 100)) 100 [.int .i64 st, .slice b1 r1.length d1, .slice b2 r2.length d2, .slice b3 r3.length d3, .int .i64 nx]; rw [World.size_alloc] at h; exact h)
  have HW0 := Lib.hid hW0.symm
  clear hW0
  go_enter Try.func126, Try.ntmps126
  go_wp2_with fail
  rw [HW0.out]
  refine (eqInts _ _ r1 _ (H1.out.below HB.out (Nat.le_refl _)) (G1.out.below HB.out (Nat.le_refl _))).mono ?_
  rintro e w1 ⟨rfl, hb⟩
  replace K1 := Lib.hid (K1.out.below hb K1.out.lt)
  replace K2 := Lib.hid (K2.out.below hb K2.out.lt)
  replace HB := Lib.hid (HB.out.trans (hb.mono HB.out.size))
  clear hb
  have z1 := K1.out.cell 2 rfl
  have z2 := K2.out.cell 2 rfl
  go_wp2_with fail
  clear z1 z2
  refine (eqInts _ _ r2 _ (H2.out.below HB.out (Nat.le_refl _)) (G2.out.below HB.out (Nat.le_refl _))).mono ?_
  rintro e w2 ⟨rfl, hb⟩
  replace K1 := Lib.hid (K1.out.below hb K1.out.lt)
  replace K2 := Lib.hid (K2.out.below hb K2.out.lt)
  replace HB := Lib.hid (HB.out.trans (hb.mono HB.out.size))
  clear hb
  have z1 := K1.out.cell 3 rfl
  have z2 := K2.out.cell 3 rfl
  go_wp2_with fail
  clear z1 z2
  refine (eqInts _ _ r3 _ (H3.out.below HB.out (Nat.le_refl _)) (G3.out.below HB.out (Nat.le_refl _))).mono ?_
  rintro e w3 ⟨rfl, hb⟩
  replace K1 := Lib.hid (K1.out.below hb K1.out.lt)
  replace K2 := Lib.hid (K2.out.below hb K2.out.lt)
  replace HB := Lib.hid (HB.out.trans (hb.mono HB.out.size))
  clear hb
  have z1 := K1.out.cell 4 rfl
  have z2 := K2.out.cell 4 rfl
  go_wp2
  go_ret
  exact ⟨rfl, HB.out⟩
end Go.Proofs.Ytepdjlhlcjkdkaa.Ints
