/- Contracts of the laws' own helpers on rewriting rules. -/
import Derived.Test.YthombjcjhnekpaaCel
namespace Go.Proofs.Ythombjcjhnekpaa.Ints
open Go.RowKit
set_option linter.unusedVariables false
set_option linter.unusedSimpArgs false
theorem ret2 {w : World} {g1 g2 : Nat} {t1 t2 : TypeId} {a0 a1 b0 b1 : Value} (h1 : Cels w g1 t1 [a0, a1]) (h2 : Cels w g2 t2 [b0, b1]) (hne : g1 ≠ g2) (u : Value) :
    w.cell? ⟨g2, 1, none⟩ = some b1 ∧ w.frozen? ⟨g2, 1, none⟩ = false ∧ (w.setCell ⟨g2, 1, none⟩ u).cell? ⟨g2, 0, none⟩ = some b0 ∧ (w.setCell ⟨g2, 1, none⟩ u).cell? ⟨g2, 1, none⟩ = some u ∧
    (w.setCell ⟨g2, 1, none⟩ u).cell? ⟨g1, 0, none⟩ = some a0 ∧ (w.setCell ⟨g2, 1, none⟩ u).frozen? ⟨g1, 0, none⟩ = false ∧
    ((w.setCell ⟨g2, 1, none⟩ u).setCell ⟨g1, 0, none⟩ b0).cell? ⟨g1, 1, none⟩ = some a1 ∧ ((w.setCell ⟨g2, 1, none⟩ u).setCell ⟨g1, 0, none⟩ b0).frozen? ⟨g1, 1, none⟩ = false ∧
    Cels (((w.setCell ⟨g2, 1, none⟩ u).setCell ⟨g1, 0, none⟩ b0).setCell ⟨g1, 1, none⟩ u) g1 t1 [b0, u] := by
  have s1 := h2.set 1 u
  have r1 := h1.other (p := ⟨g2, 1, none⟩) hne u
  have r2 := r1.set 0 b0
  have r3 := r2.set 1 u
  exact ⟨h2.cell 1 rfl, h2.frozen 1, s1.cell 0 rfl, s1.cell 1 rfl, r1.cell 0 rfl, r1.frozen 0, r2.cell 1 rfl, r2.frozen 1, r3⟩
theorem szTape (a : Option Addr) (n c : Nat) (a' : Option Addr) (n' c' : Nat) (w : World) {L l l' : Int} (hL : 0 ≤ L ∧ L ≤ 1048576) (h : l = L - (n : Int)) (h0 : 0 ≤ l) (hz : (n : Int) ≤ 9223372036854775807)
    (h' : l' = l - (n' : Int)) (h0' : 0 ≤ l') (hz' : (n' : Int) ≤ 9223372036854775807) :
    Calls Try.prog 50 #[.agg #[.slice a n c, .slice a' n' c'], .int .i64 L] w fun e w' => e = .returned (.int .i64 l') ∧ Below w.heap.size w w' := by
  have e : IntKind.i64.wrap (L - (n : Int)) = l := by rw [IntKind.wrap_i64]; omega
  have e' : IntKind.i64.wrap (l - (n' : Int)) = l' := by rw [IntKind.wrap_i64]; omega
  have hn : ¬ l < 0 := by omega
  have hn' : ¬ l' < 0 := by omega
  clear h0 hL hz h h0' hz' h'
  go_enter Try.func50, Try.ntmps50
  go_wp2
  go_ret
  exact ⟨rfl, (Below.refl _ _).alloc (Nat.le_refl _) _⟩
theorem szTape_bad0 (a : Option Addr) (n c : Nat) (a' : Option Addr) (n' c' : Nat) (w : World) {L l : Int} (hL : 0 ≤ L ∧ L ≤ 1048576) (h : l = L - (n : Int)) (h0 : l < 0) (hz : (n : Int) ≤ 9223372036854775807) :
    Calls Try.prog 50 #[.agg #[.slice a n c, .slice a' n' c'], .int .i64 L] w fun e w' => e = .returned (.int .i64 (-1)) ∧ Below w.heap.size w w' := by
  have e : IntKind.i64.wrap (L - (n : Int)) = l := by rw [IntKind.wrap_i64]; omega
  clear hL hz h
  go_enter Try.func50, Try.ntmps50
  go_wp2
  go_ret
  exact ⟨rfl, (Below.refl _ _).alloc (Nat.le_refl _) _⟩
theorem szTape_bad1 (a : Option Addr) (n c : Nat) (a' : Option Addr) (n' c' : Nat) (w : World) {L l l' : Int} (hL : 0 ≤ L ∧ L ≤ 1048576) (h : l = L - (n : Int)) (h0 : 0 ≤ l) (hz : (n : Int) ≤ 9223372036854775807)
    (h' : l' = l - (n' : Int)) (h0' : l' < 0) (hz' : (n' : Int) ≤ 9223372036854775807) :
    Calls Try.prog 50 #[.agg #[.slice a n c, .slice a' n' c'], .int .i64 L] w fun e w' => e = .returned (.int .i64 (-1)) ∧ Below w.heap.size w w' := by
  have e : IntKind.i64.wrap (L - (n : Int)) = l := by rw [IntKind.wrap_i64]; omega
  have e' : IntKind.i64.wrap (l - (n' : Int)) = l' := by rw [IntKind.wrap_i64]; omega
  have hn : ¬ l < 0 := by omega
  clear h0 hL hz h hz' h'
  go_enter Try.func50, Try.ntmps50
  go_wp2
  go_ret
  exact ⟨rfl, (Below.refl _ _).alloc (Nat.le_refl _) _⟩
set_option maxHeartbeats 2000000 in
theorem toTape (u : Value) (ls : List Int) (v : Value) (rs : List Int) (w : World) (hu : Rd w u ls) (hv : Rd w v rs) :
    Calls Try.prog 52 #[.agg #[u, v]] w fun e w' => ∃ u1 u2, e = .returned (.agg #[u1, u2]) ∧ Ow w' w.heap.size w'.heap.size u1 ls ∧ Ow w' w.heap.size w'.heap.size u2 rs ∧ Sep u1 u2 ∧ Below w.heap.size w w' := by
  have HU := Lib.hid hu
  have HV := Lib.hid hv
  obtain ⟨_, _, a, c, rfl, _, _⟩ := hu
  obtain ⟨_, _, a', c', rfl, _, _⟩ := hv
  have HC := Lib.hid (cels3 w (Obj.cells #[.slice a ls.length c, .slice a' rs.length c'] 63) 64 64 [.slice none 0 0, .slice none 0 0] [.slice none 0 0, .slice none 0 0])
  have HC0 := Lib.hid (((Cels.new w 63 [.slice a ls.length c, .slice a' rs.length c']).alloc (Obj.cells #[.slice none 0 0, .slice none 0 0] 64)).alloc (Obj.cells #[.slice none 0 0, .slice none 0 0] 64))
  go_enter Try.func52, Try.ntmps52
  go_wp2_with fail
  obtain ⟨k1, k2, hb0, hs0⟩ := HC.out
  have k0 := HC0.out
  simp only [List.toArray] at k0 k1 k2 hb0 hs0
  refine (toInts _ ls _ (HU.out.below hb0 (Nat.le_refl _))).mono ?_
  rintro e w1 ⟨u1, rfl, ho, hb1⟩
  obtain ⟨ga, gc, rfl⟩ := ho.shape
  replace k0 := k0.below hb1 (by rw [hs0]; omega)
  replace k1 := k1.below hb1 (by rw [hs0]; omega)
  replace k2 := k2.below hb1 (by rw [hs0]; omega)
  have hB1 := hb0.trans (hb1.mono hb0.size)
  have hsz : w.heap.size + 1 + 1 < w1.heap.size := by have := hb1.size; omega
  have hO1 : Ow w1 (w.heap.size + 1 + 1 + 1) w1.heap.size (.slice ga ls.length gc) ls := by rw [← hs0]; exact ho
  -- the store of the first list
  have s2 := k2.set 0 (.slice ga ls.length gc)
  have s0 := k0.other (p := ⟨w.heap.size + 1 + 1, 0, none⟩) (by show w.heap.size ≠ w.heap.size + 1 + 1; omega) (.slice ga ls.length gc)
  have s1 := k1.other (p := ⟨w.heap.size + 1 + 1, 0, none⟩) (by show w.heap.size + 1 ≠ w.heap.size + 1 + 1; omega) (.slice ga ls.length gc)
  have hB2 : Below w.heap.size w (w1.setCell ⟨w.heap.size + 1 + 1, 0, none⟩ (.slice ga ls.length gc)) := below_set hB1 (by omega) 0 _
  have hO2 := hO1.apartCell (g := w.heap.size + 1 + 1) (by omega) 0 (.slice ga ls.length gc)
  have f0 := k2.cell 0 rfl
  have f1 := k2.frozen 0
  have f2 := s0.cell 1 rfl
  obtain ⟨W1, hW1⟩ : ∃ W, W = w1.setCell ⟨w.heap.size + 1 + 1, 0, none⟩ (.slice ga ls.length gc) := ⟨_, rfl⟩
  have hWs : W1.heap.size = w1.heap.size := by rw [hW1]; simp
  rw [← hW1] at s0 s1 s2 hB2 hO2
  have HB2 := Lib.hid hB2
  have HO2 := Lib.hid hO2
  have HS1 := Lib.hid s1
  have HS2 := Lib.hid s2
  have HW1 := Lib.hid hW1.symm
  clear ho hb0 hb1 hs0 k0 k1 k2 s0 s1 s2 hB1 hB2 hO1 hO2 hW1
  go_wp2_with fail
  rw [HW1.out]
  refine (toInts _ rs _ (HV.out.below HB2.out (Nat.le_refl _))).mono ?_
  rintro e w2 ⟨u2, rfl, ho, hb⟩
  obtain ⟨gb, gd, rfl⟩ := ho.shape
  have k1 := HS1.out.below hb (by omega)
  have k2 := HS2.out.below hb (by omega)
  have HSEP := Lib.hid (sep_of HO2.out.top ho.row.lt HO2.out.size)
  have HO3 := Lib.hid (HO2.out.below hb HO2.out.size)
  have HO4 : Hid (Ow w2 (w.heap.size + 1 + 1 + 1) w2.heap.size (.slice gb rs.length gd) rs) := Lib.hid (ho.mono (by omega) (Nat.le_refl _) (Nat.le_refl _))
  have HB3 := Lib.hid (HB2.out.trans (hb.mono HB2.out.size))
  have hsz2 : w.heap.size + 1 + 1 < w2.heap.size := by have := hb.size; omega
  have HF := Lib.hid (ret2 k1 k2 (by omega) (.slice gb rs.length gd))
  obtain ⟨f1, f2, f3, f4, f5, f6, f7, f8, f9⟩ := HF.out
  clear ho hb k1 k2 f0
  go_wp2
  obtain ⟨W, hW⟩ : ∃ W, W = ((w2.setCell ⟨w.heap.size + 1 + 1, 1, none⟩ (.slice gb rs.length gd)).setCell ⟨w.heap.size + 1, 0, none⟩ (.slice ga ls.length gc)).setCell ⟨w.heap.size + 1, 1, none⟩ (.slice gb rs.length gd) := ⟨_, rfl⟩
  have hB : Below w.heap.size w W ∧ Ow W (w.heap.size + 1 + 1 + 1) W.heap.size (.slice ga ls.length gc) ls ∧ Ow W (w.heap.size + 1 + 1 + 1) W.heap.size (.slice gb rs.length gd) rs := by
    rw [hW]
    exact ⟨below_set (below_set (below_set HB3.out (by omega) _ _) (by omega) _ _) (by omega) _ _,
      (((HO3.out.apartCell (by omega) _ _).apartCell (by omega) _ _).apartCell (by omega) _ _).up,
      (((HO4.out.apartCell (by omega) _ _).apartCell (by omega) _ _).apartCell (by omega) _ _).up⟩
  rw [← hW] at f9 ⊢
  have z0 := f9.cell 0 rfl
  have z1 := f9.cell 1 rfl
  clear f1 f2 f3 f4 f5 f6 f7 f8 HF HC hW
  refine bodyPost_ret (v := .agg #[.slice ga ls.length gc, .slice gb rs.length gd]) (by simp [results, Try.f52, go_sem, z0, z1]) rfl ⟨_, _, rfl, hB.2.1.mono (by omega) (Nat.le_refl _) (Nat.le_refl _), hB.2.2.mono (by omega) (Nat.le_refl _) (Nat.le_refl _), HSEP.out, hB.1⟩
theorem eqTape (u v : Value) (ls : List Int) (u' v' : Value) (rs : List Int) (w : World) (hu : Rd w u ls) (hv : Rd w v ls) (hu' : Rd w u' rs) (hv' : Rd w v' rs) :
    Calls Try.prog 55 #[.agg #[u, u'], .agg #[v, v']] w fun e w' => e = .returned (.bool true) ∧ Below w.heap.size w w' := by
  have H1 := Lib.hid hu
  have H2 := Lib.hid hv
  have H3 := Lib.hid hu'
  have H4 := Lib.hid hv'
  obtain ⟨_, _, a, c, rfl, _, _⟩ := hu
  obtain ⟨_, _, a2, c2, rfl, _, _⟩ := hv
  obtain ⟨_, _, a3, c3, rfl, _, _⟩ := hu'
  obtain ⟨_, _, a4, c4, rfl, _, _⟩ := hv'
  obtain ⟨W0, hW0⟩ : ∃ W, W = (w.alloc (Obj.cells #[.slice a ls.length c, .slice a3 rs.length c3] 64)).alloc (Obj.cells #[.slice a2 ls.length c2, .slice a4 rs.length c4] 64) := ⟨_, rfl⟩
  have HB : Hid (Below w.heap.size w W0) := Lib.hid (by rw [hW0]; exact ((Below.refl w.heap.size w).alloc (Nat.le_refl _) _).alloc (by simp) _)
  have K1 : Hid (Cels W0 w.heap.size 64 [.slice a ls.length c, .slice a3 rs.length c3]) := Lib.hid (by rw [hW0]; exact (Cels.new _ _ _).alloc _)
  have K2 : Hid (Cels W0 (w.heap.size + 1) 64 [.slice a2 ls.length c2, .slice a4 rs.length c4]) := Lib.hid (by rw [hW0]; have h := Cels.new (w.alloc (Obj.cells #[.slice a ls.length c, .slice a3 rs.length c3] 64)) 64 [.slice a2 ls.length c2, .slice a4 rs.length c4]; rw [World.size_alloc] at h; exact h)
  have HW0 := Lib.hid hW0.symm
  clear hW0
  go_enter Try.func55, Try.ntmps55
  go_wp2_with fail
  rw [HW0.out]
  refine (eqInts _ _ ls _ (H1.out.below HB.out (Nat.le_refl _)) (H2.out.below HB.out (Nat.le_refl _))).mono ?_
  rintro e w1 ⟨rfl, hb1⟩
  have z1 := (K1.out.below hb1 K1.out.lt).cell 1 rfl
  have z2 := (K2.out.below hb1 K2.out.lt).cell 1 rfl
  have HB1 := Lib.hid (HB.out.trans (hb1.mono HB.out.size))
  clear hb1
  go_wp2_with fail
  refine (eqInts _ _ rs _ (H3.out.below HB1.out (Nat.le_refl _)) (H4.out.below HB1.out (Nat.le_refl _))).mono ?_
  rintro e w2 ⟨rfl, hb2⟩
  have HB2 := Lib.hid (HB1.out.trans (hb2.mono HB1.out.size))
  clear hb2
  go_wp2
  go_ret
  exact ⟨rfl, HB2.out⟩
end Go.Proofs.Ythombjcjhnekpaa.Ints
