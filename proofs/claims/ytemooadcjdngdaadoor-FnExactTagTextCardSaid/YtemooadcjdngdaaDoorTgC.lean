/- The laws' helpers on tag systems and cyclic tag systems. -/
import Derived.Test.YtemooadcjdngdaaDoorLls
import Derived.Lib.SmallJoins
namespace Go.Proofs.YtemooadcjdngdaaDoor.Ints
open Go.RowKit
set_option linter.unusedVariables false
set_option linter.unusedSimpArgs false
section
open Go.ChangeShapes Go.WideShapes Go.Joins Go.Deep
theorem open_one {H : Type} {enc : TypeId × Value → H} {w : World} {base : Nat} {P : Program} {spare : Nat → Bool} {held : Bool} {r : Reach} {b0 : Nat} {t : TypeId} {f0 : Field} {v : Value} {d : DataW H} {p : List MemPlace} (hs : P.underlying t = some (.struct #[f0])) (hone : oneCellFields P #[f0] = true) (hC : P.cellsOf t = 1)
    (hv : Value.okWide P w r b0 t v) (h : DataW.Trod enc P w base spare held t v d p) :
    ∃ (v0 : Value) (y0 : DataW H × List MemPlace) (n : Nat), v = .agg #[v0] ∧ d = .agg [y0.1] ∧ p = y0.2 ∧ DataW.trod enc P w base spare held n f0.type [v0] = some y0 := by
  obtain ⟨cs, rfl, hsz⟩ := okWide_struct hs hv
  obtain ⟨c0, rfl⟩ : ∃ c, cs = #[c] := by
    obtain ⟨l⟩ := cs
    have hl := hsz.trans hC
    match l, hl with
    | [c], _ => exact ⟨c, rfl⟩
  obtain ⟨fuel, hf⟩ := h
  obtain ⟨y0, n, hx, _, h0⟩ := trod_struct1 hs hf
  obtain ⟨o0, k0⟩ := hone_of hone 0 f0 rfl
  simp only [Prod.mk.injEq] at hx
  exact ⟨c0, y0, n, rfl, hx.1, hx.2, by simpa [Value.cells, o0, k0] using h0⟩
end
/-- What is left behind a tag system. -/
def szTagV (L : Int) (n : Nat) (zs : List Qin) (m : Nat) : Int := if szQV L n zs < 0 then -1 else szL (szQV L n zs) m
theorem szL_le (L : Int) (n : Nat) : szL L n ≤ L ∨ szL L n = -1 := by
  unfold szL
  split
  · exact .inr rfl
  · exact .inl (by omega)
theorem szTagV_good {L : Int} {n : Nat} {zs : List Qin} {m : Nat} (h : 0 ≤ szTagV L n zs m) (hL : L ≤ 1048576) : 0 ≤ szQV L n zs ∧ m ≤ 1048576 ∧ szTagV L n zs m ≤ 1048576 := by
  unfold szTagV at h ⊢
  split at h
  · omega
  · rename_i hq
    have hq' := hq
    rw [if_neg hq']
    rcases szQV_le L n zs with k | k
    · unfold szL at h ⊢
      split at h
      · omega
      · rename_i h2
        rw [if_neg h2]
        omega
    · omega
theorem szL_good {L : Int} {n : Nat} (h : 0 ≤ szL L n) (hL : L ≤ 1048576) : n ≤ 1048576 ∧ szL L n ≤ 1048576 := by
  unfold szL at h ⊢
  split at h
  · omega
  · rename_i h2
    rw [if_neg h2]
    omega
theorem szCyc (a : Option Addr) (len cap : Nat) (zs : List Qin) (w : World) {L s : Int} (h : IsLists w a len cap zs) (hL : 0 ≤ L ∧ L ≤ 1048576) (hs : s = szQV L len zs) :
    Calls Tryd.prog 29 #[.agg #[.slice a len cap], .int .i64 L] w fun e w' => e = .returned (.int .i64 (if s < 0 then -1 else s)) ∧ Below w.heap.size w w' := by
  have HI : ∀ x : Obj, Hid (IsLists (w.alloc x) a len cap zs) := fun x => Lib.hid (h.alloc x)
  have HB : ∀ x : Obj, Hid (Below w.heap.size w (w.alloc x)) := fun x => Lib.hid ((Below.refl _ _).alloc (Nat.le_refl _) _)
  have HL := Lib.hid hL
  have HS := Lib.hid hs
  clear h hL hs
  by_cases h0 : s < 0
  · have HE : Hid ((if s < 0 then -1 else s) = -1) := Lib.hid (if_pos h0)
    go_enter Tryd.func29, Tryd.ntmps29
    go_wp2_with fail
    refine (szLists _ _ _ zs _ (HI _).out HL.out).mono ?_
    rintro e w1 ⟨rfl, rfl⟩
    rw [← HS.out]
    go_wp2
    go_ret
    exact ⟨by first | rfl | (rw [HE.out] <;> rfl), (HB _).out⟩
  · have HE : Hid ((if s < 0 then -1 else s) = s) := Lib.hid (if_neg h0)
    go_enter Tryd.func29, Tryd.ntmps29
    go_wp2_with fail
    refine (szLists _ _ _ zs _ (HI _).out HL.out).mono ?_
    rintro e w1 ⟨rfl, rfl⟩
    rw [← HS.out]
    go_wp2
    go_ret
    exact ⟨by first | rfl | (rw [HE.out] <;> rfl), (HB _).out⟩
theorem szTag' (d : Int) (a : Option Addr) (len cap : Nat) (zs : List Qin) (a2 : Option Addr) (n2 c2 : Nat) (w : World) {L s : Int} (h : IsLists w a len cap zs) (hz : (n2 : Int) ≤ 9223372036854775807) (hL : 0 ≤ L ∧ L ≤ 1048576) (hs : s = szTagV L len zs n2) :
    Calls Tryd.prog 24 #[.agg #[.int .i64 d, .slice a len cap, .slice a2 n2 c2], .int .i64 L] w fun e w' => e = .returned (.int .i64 (if s < 0 then -1 else s)) ∧ Below w.heap.size w w' := by
  have HI : ∀ x : Obj, Hid (IsLists (w.alloc x) a len cap zs) := fun x => Lib.hid (h.alloc x)
  have HB : ∀ x : Obj, Hid (Below w.heap.size w (w.alloc x)) := fun x => Lib.hid ((Below.refl _ _).alloc (Nat.le_refl _) _)
  have HZ := Lib.hid hz
  have HL := Lib.hid hL
  obtain ⟨m, hm⟩ : ∃ m, m = szQV L len zs := ⟨_, rfl⟩
  have hs2 : s = if m < 0 then -1 else szL m n2 := by rw [hs, szTagV, hm]
  have hml := szQV_le L len zs
  rw [← hm] at hml
  have HM := Lib.hid hm
  have HS := Lib.hid hs2
  have HLE := Lib.hid hml
  clear h hz hL hs hm hs2 hml
  by_cases h1 : m < 0
  · obtain rfl : s = -1 := by rw [HS.out, if_pos h1]
    have HE : Hid ((if (-1 : Int) < 0 then -1 else -1) = (-1 : Int)) := Lib.hid rfl
    go_enter Tryd.func24, Tryd.ntmps24
    go_wp2_with fail
    refine (szLists _ _ _ zs _ (HI _).out HL.out).mono ?_
    rintro e w1 ⟨rfl, rfl⟩
    rw [← HM.out]
    go_wp2
    go_ret
    exact ⟨by first | rfl | (rw [HE.out] <;> rfl), (HB _).out⟩
  have HMB : Hid (0 ≤ m ∧ m ≤ 1048576) := Lib.hid (by have := HLE.out; have := HL.out; omega)
  have HS2 : Hid (s = szL m n2) := Lib.hid (by rw [HS.out, if_neg h1])
  by_cases h0 : s < 0
  · have HE : Hid ((if s < 0 then -1 else s) = -1) := Lib.hid (if_pos h0)
    go_enter Tryd.func24, Tryd.ntmps24
    go_wp2_with fail
    refine (szLists _ _ _ zs _ (HI _).out HL.out).mono ?_
    rintro e w1 ⟨rfl, rfl⟩
    rw [← HM.out]
    go_wp2_with fail
    refine (szInt _ _ _ _ HZ.out HMB.out).mono ?_
    rintro e w1 ⟨rfl, rfl⟩
    rw [← HS2.out]
    go_wp2
    go_ret
    exact ⟨by first | rfl | (rw [HE.out] <;> rfl), (HB _).out⟩
  · have HE : Hid ((if s < 0 then -1 else s) = s) := Lib.hid (if_neg h0)
    go_enter Tryd.func24, Tryd.ntmps24
    go_wp2_with fail
    refine (szLists _ _ _ zs _ (HI _).out HL.out).mono ?_
    rintro e w1 ⟨rfl, rfl⟩
    rw [← HM.out]
    go_wp2_with fail
    refine (szInt _ _ _ _ HZ.out HMB.out).mono ?_
    rintro e w1 ⟨rfl, rfl⟩
    rw [← HS2.out]
    go_wp2
    go_ret
    exact ⟨by first | rfl | (rw [HE.out] <;> rfl), (HB _).out⟩
/-- One store into a struct of one cell, handed back. -/
theorem ret1q {w : World} {g1 g2 : Nat} {t1 t2 : TypeId} {a0 b0 : Value} (h1 : Cels w g1 t1 [a0]) (h2 : Cels w g2 t2 [b0]) (hne : g1 ≠ g2) (u : Value) :
    w.cell? ⟨g2, 0, none⟩ = some b0 ∧ w.frozen? ⟨g2, 0, none⟩ = false ∧ (w.setCell ⟨g2, 0, none⟩ u).cell? ⟨g2, 0, none⟩ = some u ∧
    (w.setCell ⟨g2, 0, none⟩ u).cell? ⟨g1, 0, none⟩ = some a0 ∧ (w.setCell ⟨g2, 0, none⟩ u).frozen? ⟨g1, 0, none⟩ = false ∧
    Cels ((w.setCell ⟨g2, 0, none⟩ u).setCell ⟨g1, 0, none⟩ u) g1 t1 [u] := by
  have s1 := h2.set 0 u
  have r1 := h1.other (p := ⟨g2, 0, none⟩) hne u
  have r2 := r1.set 0 u
  exact ⟨h2.cell 0 rfl, h2.frozen 0, s1.cell 0 rfl, r1.cell 0 rfl, r1.frozen 0, r2⟩
theorem ret3q {w : World} {g1 g2 : Nat} {t1 t2 : TypeId} {a0 a1 a2 b0 b1 b2 : Value} (h1 : Cels w g1 t1 [a0, a1, a2]) (h2 : Cels w g2 t2 [b0, b1, b2]) (hne : g1 ≠ g2) (u : Value) :
    (w.cell? ⟨g2, 2, none⟩ = some b2 ∧ w.frozen? ⟨g2, 2, none⟩ = false ∧ (w.setCell ⟨g2, 2, none⟩ u).cell? ⟨g2, 0, none⟩ = some b0 ∧ (w.setCell ⟨g2, 2, none⟩ u).cell? ⟨g2, 1, none⟩ = some b1 ∧ (w.setCell ⟨g2, 2, none⟩ u).cell? ⟨g2, 2, none⟩ = some u ∧
    (w.setCell ⟨g2, 2, none⟩ u).cell? ⟨g1, 0, none⟩ = some a0 ∧ (w.setCell ⟨g2, 2, none⟩ u).frozen? ⟨g1, 0, none⟩ = false ∧
    ((w.setCell ⟨g2, 2, none⟩ u).setCell ⟨g1, 0, none⟩ b0).cell? ⟨g1, 1, none⟩ = some a1 ∧ ((w.setCell ⟨g2, 2, none⟩ u).setCell ⟨g1, 0, none⟩ b0).frozen? ⟨g1, 1, none⟩ = false ∧
    (((w.setCell ⟨g2, 2, none⟩ u).setCell ⟨g1, 0, none⟩ b0).setCell ⟨g1, 1, none⟩ b1).cell? ⟨g1, 2, none⟩ = some a2 ∧ (((w.setCell ⟨g2, 2, none⟩ u).setCell ⟨g1, 0, none⟩ b0).setCell ⟨g1, 1, none⟩ b1).frozen? ⟨g1, 2, none⟩ = false) ∧
    Cels ((((w.setCell ⟨g2, 2, none⟩ u).setCell ⟨g1, 0, none⟩ b0).setCell ⟨g1, 1, none⟩ b1).setCell ⟨g1, 2, none⟩ u) g1 t1 [b0, b1, u] := by
  have s1 := h2.set 2 u
  have r1 := h1.other (p := ⟨g2, 2, none⟩) hne u
  have r2 := r1.set 0 b0
  have r3 := r2.set 1 b1
  have r4 := r3.set 2 u
  exact ⟨⟨h2.cell 2 rfl, h2.frozen 2, s1.cell 0 rfl, s1.cell 1 rfl, s1.cell 2 rfl, r1.cell 0 rfl, r1.frozen 0, r2.cell 1 rfl, r2.frozen 1, r3.cell 2 rfl, r3.frozen 2⟩, r4⟩
theorem OwQ.mono {w : World} {B B' : Nat} {v : Value} {ts : List (List Int)} (h : OwQ w B v ts) (hB : B' ≤ B) : OwQ w B' v ts := by
  obtain ⟨hl, g, c, cs, rfl, ho, hc, hsq⟩ := h
  refine ⟨hl, g, c, cs, rfl, ⟨ho.1, ?_⟩, fun i hi => ?_, hsq⟩
  · rcases ho.2 with hn | ⟨g', cap, cur, hv, hbb, rest⟩
    · exact .inl hn
    · exact .inr ⟨g', cap, cur, hv, Nat.le_trans hB hbb, rest⟩
  · obtain ⟨u, q0, q2⟩ := hc i hi
    exact ⟨u, q0, q2.mono hB (Nat.le_refl _) (Nat.le_refl _)⟩
set_option maxHeartbeats 1000000 in
theorem toCyc (v : Value) (ts : List (List Int)) (w : World) (hv : RdL w v ts) :
    Calls Tryd.prog 31 #[.agg #[v]] w fun e w' => ∃ u, e = .returned (.agg #[u]) ∧ OwQ w' w.heap.size u ts ∧ Below w.heap.size w w' := by
  have HV := Lib.hid hv
  obtain ⟨_, a, c, rfl, _, _⟩ := hv
  have HC := Lib.hid (cels3 w (Obj.cells #[.slice a ts.length c] 52) 55 55 [.slice none 0 0] [.slice none 0 0])
  go_enter Tryd.func31, Tryd.ntmps31
  go_wp2_with fail
  obtain ⟨k1, k2, hb0, hs0⟩ := HC.out
  simp only [List.toArray] at k1 k2 hb0 hs0
  refine (toLists _ ts _ (HV.out.below hb0 (Nat.le_refl _))).mono ?_
  rintro e w1 ⟨u, rfl, hu, hb⟩
  obtain ⟨ga, gc, hU⟩ := hu.shape
  subst hU
  replace k1 := k1.below hb (by rw [hs0]; omega)
  replace k2 := k2.below hb (by rw [hs0]; omega)
  have HB1 := Lib.hid (hb0.trans (hb.mono hb0.size))
  have hsz : w.heap.size + 1 + 1 < w1.heap.size := by have := hb.size; omega
  have HF := Lib.hid (ret1q k1 k2 (by omega) (.slice ga ts.length gc))
  have HU := Lib.hid hu
  have HS0 := Lib.hid hs0
  obtain ⟨f1, f2, f3, f4, f5, f9⟩ := HF.out
  clear hu hb k1 k2 hb0 hs0
  go_wp2
  obtain ⟨W, hW⟩ : ∃ W, W = (w1.setCell ⟨w.heap.size + 1 + 1, 0, none⟩ (.slice ga ts.length gc)).setCell ⟨w.heap.size + 1, 0, none⟩ (.slice ga ts.length gc) := ⟨_, rfl⟩
  have hB : Below w.heap.size w W := by
    rw [hW]
    exact below_set (below_set HB1.out (by omega) _ _) (by omega) _ _
  have hR : OwQ W w.heap.size (.slice ga ts.length gc) ts := by
    rw [hW]
    have hs := HS0.out
    exact (((HU.out).apart (by omega) _ _).apart (by omega) _ _).mono (by omega)
  rw [← hW] at f9 ⊢
  have z0 := f9.cell 0 rfl
  clear f1 f2 f3 f4 f5 HF HC hW
  refine bodyPost_ret (v := .agg #[.slice ga ts.length gc]) (by simp [results, Tryd.f31, go_sem, z0]) rfl ⟨_, rfl, hR, hB⟩
theorem eqCyc (u v : Value) (ts : List (List Int)) (w : World) (hu : RdL w u ts) (hv : RdL w v ts) :
    Calls Tryd.prog 33 #[.agg #[u], .agg #[v]] w fun e w' => e = .returned (.bool true) ∧ Below w.heap.size w w' := by
  have H1 := Lib.hid hu
  have H2 := Lib.hid hv
  obtain ⟨_, a, c, rfl, _, _⟩ := hu
  obtain ⟨_, a2, c2, rfl, _, _⟩ := hv
  obtain ⟨W0, hW0⟩ : ∃ W, W = (w.alloc (Obj.cells #[.slice a ts.length c] 55)).alloc (Obj.cells #[.slice a2 ts.length c2] 55) := ⟨_, rfl⟩
  have HB : Hid (Below w.heap.size w W0) := Lib.hid (by rw [hW0]; exact ((Below.refl w.heap.size w).alloc (Nat.le_refl _) _).alloc (by simp) _)
  have HW0 := Lib.hid hW0.symm
  clear hW0
  go_enter Tryd.func33, Tryd.ntmps33
  go_wp2_with fail
  rw [HW0.out]
  refine (eqLists _ _ ts _ (H1.out.below HB.out (Nat.le_refl _)) (H2.out.below HB.out (Nat.le_refl _))).mono ?_
  rintro e w1 ⟨rfl, hb1⟩
  have HB1 := Lib.hid (HB.out.trans (hb1.mono HB.out.size))
  clear hb1
  go_wp2
  go_ret
  exact ⟨rfl, HB1.out⟩
set_option maxHeartbeats 2000000 in
theorem toTag' (d : Int) (u : Value) (ts : List (List Int)) (v : Value) (rs : List Int) (w : World) (hu : RdL w u ts) (hv : Rd w v rs) :
    Calls Tryd.prog 26 #[.agg #[.int .i64 d, u, v]] w fun e w' => ∃ u1 u2, e = .returned (.agg #[.int .i64 d, u1, u2]) ∧ OwQ w' w.heap.size u1 ts ∧ Ow w' w.heap.size w'.heap.size u2 rs ∧ Below w.heap.size w w' := by
  have HU := Lib.hid hu
  have HV := Lib.hid hv
  obtain ⟨_, a, c, rfl, _, _⟩ := hu
  obtain ⟨_, _, a', c', rfl, _, _⟩ := hv
  have HC := Lib.hid (cels3 w (Obj.cells #[.int .i64 d, .slice a ts.length c, .slice a' rs.length c'] 44) 47 47 [.int .i64 0, .slice none 0 0, .slice none 0 0] [.int .i64 d, .slice none 0 0, .slice none 0 0])
  have HC0 := Lib.hid (((Cels.new w 44 [.int .i64 d, .slice a ts.length c, .slice a' rs.length c']).alloc (Obj.cells #[.int .i64 0, .slice none 0 0, .slice none 0 0] 47)).alloc (Obj.cells #[.int .i64 d, .slice none 0 0, .slice none 0 0] 47))
  go_enter Tryd.func26, Tryd.ntmps26
  go_wp2_with fail
  obtain ⟨k1, k2, hb0, hs0⟩ := HC.out
  have k0 := HC0.out
  simp only [List.toArray] at k0 k1 k2 hb0 hs0
  refine (toLists _ ts _ (HU.out.below hb0 (Nat.le_refl _))).mono ?_
  rintro e w1 ⟨u1, rfl, ho, hb1⟩
  obtain ⟨ga, gc, hga⟩ := ho.shape
  subst hga
  replace k0 := k0.below hb1 (by rw [hs0]; omega)
  replace k1 := k1.below hb1 (by rw [hs0]; omega)
  replace k2 := k2.below hb1 (by rw [hs0]; omega)
  have hB1 := hb0.trans (hb1.mono hb0.size)
  have hsz : w.heap.size + 1 + 1 < w1.heap.size := by have := hb1.size; omega
  have hO1 : OwQ w1 (w.heap.size + 1 + 1 + 1) (.slice ga ts.length gc) ts := by rw [← hs0]; exact ho
  have s2 := k2.set 1 (.slice ga ts.length gc)
  have s0 := k0.other (p := ⟨w.heap.size + 1 + 1, 1, none⟩) (by show w.heap.size ≠ w.heap.size + 1 + 1; omega) (.slice ga ts.length gc)
  have s1 := k1.other (p := ⟨w.heap.size + 1 + 1, 1, none⟩) (by show w.heap.size + 1 ≠ w.heap.size + 1 + 1; omega) (.slice ga ts.length gc)
  have hB2 : Below w.heap.size w (w1.setCell ⟨w.heap.size + 1 + 1, 1, none⟩ (.slice ga ts.length gc)) := below_set hB1 (by omega) 1 _
  have hO2 := hO1.apart (g' := w.heap.size + 1 + 1) (by omega) 1 (.slice ga ts.length gc)
  have f0 := k2.cell 1 rfl
  have f1 := k2.frozen 1
  have f2 := s0.cell 2 rfl
  obtain ⟨W1, hW1⟩ : ∃ W, W = w1.setCell ⟨w.heap.size + 1 + 1, 1, none⟩ (.slice ga ts.length gc) := ⟨_, rfl⟩
  have hWs : W1.heap.size = w1.heap.size := by rw [hW1]; simp
  rw [← hW1] at s0 s1 s2 hB2 hO2
  have HB2 := Lib.hid hB2
  have HO2 := Lib.hid hO2
  have HS1 := Lib.hid s1
  have HS2 := Lib.hid s2
  have HW1 := Lib.hid hW1.symm
  clear ho hb0 hb1 hs0 k0 k1 k2 s0 s1 s2 hB1 hB2 hO1 hO2 hW1
  go_wp2_with fail
  rw [HW1.out]
  refine (toInts _ rs _ (HV.out.below HB2.out (Nat.le_refl _))).mono ?_
  rintro e w2 ⟨u2, rfl, ho, hb⟩
  obtain ⟨gb, gd, hgb⟩ := ho.shape
  subst hgb
  have k1 := HS1.out.below hb (by omega)
  have k2 := HS2.out.below hb (by omega)
  have HO3 := Lib.hid (HO2.out.below hb (Nat.le_refl _))
  have HO4 : Hid (Ow w2 (w.heap.size + 1 + 1 + 1) w2.heap.size (.slice gb rs.length gd) rs) := Lib.hid (ho.mono (by omega) (Nat.le_refl _) (Nat.le_refl _))
  have HB3 := Lib.hid (HB2.out.trans (hb.mono HB2.out.size))
  have hsz2 : w.heap.size + 1 + 1 < w2.heap.size := by have := hb.size; omega
  have HF := Lib.hid (ret3q k1 k2 (by omega) (.slice gb rs.length gd))
  obtain ⟨⟨f1, f2, f3, f4, f5, f6, f7, f8, f9, f10, f11⟩, f12⟩ := HF.out
  clear ho hb k1 k2 f0
  go_wp2
  obtain ⟨W, hW⟩ : ∃ W, W = (((w2.setCell ⟨w.heap.size + 1 + 1, 2, none⟩ (.slice gb rs.length gd)).setCell ⟨w.heap.size + 1, 0, none⟩ (.int .i64 d)).setCell ⟨w.heap.size + 1, 1, none⟩ (.slice ga ts.length gc)).setCell ⟨w.heap.size + 1, 2, none⟩ (.slice gb rs.length gd) := ⟨_, rfl⟩
  have hB : Below w.heap.size w W ∧ OwQ W (w.heap.size + 1 + 1 + 1) (.slice ga ts.length gc) ts ∧ Ow W (w.heap.size + 1 + 1 + 1) W.heap.size (.slice gb rs.length gd) rs := by
    rw [hW]
    exact ⟨below_set (below_set (below_set (below_set HB3.out (by omega) _ _) (by omega) _ _) (by omega) _ _) (by omega) _ _,
      (((HO3.out.apart (by omega) _ _).apart (by omega) _ _).apart (by omega) _ _).apart (by omega) _ _,
      ((((HO4.out.apartCell (by omega) _ _).apartCell (by omega) _ _).apartCell (by omega) _ _).apartCell (by omega) _ _).up⟩
  rw [← hW] at f12 ⊢
  have z0 := f12.cell 0 rfl
  have z1 := f12.cell 1 rfl
  have z2 := f12.cell 2 rfl
  clear f1 f2 f3 f4 f5 f6 f7 f8 f9 f10 f11 HF HC hW
  refine bodyPost_ret (v := .agg #[.int .i64 d, .slice ga ts.length gc, .slice gb rs.length gd]) (by simp [results, Tryd.f26, go_sem, z0, z1, z2]) rfl ⟨_, _, rfl, hB.2.1.mono (by omega), hB.2.2.mono (by omega) (Nat.le_refl _) (Nat.le_refl _), hB.1⟩
theorem eqTag' (d : Int) (u v : Value) (ts : List (List Int)) (u' v' : Value) (rs : List Int) (w : World) (hu : RdL w u ts) (hv : RdL w v ts) (hu' : Rd w u' rs) (hv' : Rd w v' rs) :
    Calls Tryd.prog 28 #[.agg #[.int .i64 d, u, u'], .agg #[.int .i64 d, v, v']] w fun e w' => e = .returned (.bool true) ∧ Below w.heap.size w w' := by
  have H1 := Lib.hid hu
  have H2 := Lib.hid hv
  have H3 := Lib.hid hu'
  have H4 := Lib.hid hv'
  obtain ⟨_, a, c, rfl, _, _⟩ := hu
  obtain ⟨_, a2, c2, rfl, _, _⟩ := hv
  obtain ⟨_, _, a3, c3, rfl, _, _⟩ := hu'
  obtain ⟨_, _, a4, c4, rfl, _, _⟩ := hv'
  obtain ⟨W0, hW0⟩ : ∃ W, W = (w.alloc (Obj.cells #[.int .i64 d, .slice a ts.length c, .slice a3 rs.length c3] 47)).alloc (Obj.cells #[.int .i64 d, .slice a2 ts.length c2, .slice a4 rs.length c4] 47) := ⟨_, rfl⟩
  have HB : Hid (Below w.heap.size w W0) := Lib.hid (by rw [hW0]; exact ((Below.refl w.heap.size w).alloc (Nat.le_refl _) _).alloc (by simp) _)
  have K1 : Hid (Cels W0 w.heap.size 47 [.int .i64 d, .slice a ts.length c, .slice a3 rs.length c3]) := Lib.hid (by rw [hW0]; exact (Cels.new _ _ _).alloc _)
  have K2 : Hid (Cels W0 (w.heap.size + 1) 47 [.int .i64 d, .slice a2 ts.length c2, .slice a4 rs.length c4]) := Lib.hid (by rw [hW0]; have h := Cels.new (w.alloc (Obj.cells #[.int .i64 d, .slice a ts.length c, .slice a3 rs.length c3] 47)) 47 [.int .i64 d, .slice a2 ts.length c2, .slice a4 rs.length c4]; rw [World.size_alloc] at h; exact h)
  have HW0 := Lib.hid hW0.symm
  clear hW0
  go_enter Tryd.func28, Tryd.ntmps28
  go_wp2_with fail
  rw [HW0.out]
  refine (eqLists _ _ ts _ (H1.out.below HB.out (Nat.le_refl _)) (H2.out.below HB.out (Nat.le_refl _))).mono ?_
  rintro e w1 ⟨rfl, hb1⟩
  have z1 := (K1.out.below hb1 K1.out.lt).cell 2 rfl
  have z2 := (K2.out.below hb1 K2.out.lt).cell 2 rfl
  have HB1 := Lib.hid (HB.out.trans (hb1.mono HB.out.size))
  clear hb1
  go_wp2_with fail
  refine (eqInts _ _ rs _ (H3.out.below HB1.out (Nat.le_refl _)) (H4.out.below HB1.out (Nat.le_refl _))).mono ?_
  rintro e w2 ⟨rfl, hb2⟩
  have HB2 := Lib.hid (HB1.out.trans (hb2.mono HB1.out.size))
  clear hb2
  go_wp2
  go_ret
  exact ⟨rfl, HB2.out⟩
end Go.Proofs.YtemooadcjdngdaaDoor.Ints
