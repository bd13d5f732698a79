/- The laws' helpers on the struct Store. (gen_struct.py) -/
import Derived.Test.YtemooadcjdngdaaDoorCel
import Derived.Deep.RegionHeld3
namespace Go.Proofs.YtemooadcjdngdaaDoor.Ints
open Go.RowKit
set_option linter.unusedVariables false
set_option linter.unusedSimpArgs false
theorem szSto (i0 : Int) (a : Option Addr) (n c : Nat) (w : World) {L l : Int} (hL : 0 ≤ L ∧ L ≤ 1048576) (h : l = L - (n : Int)) (h0 : 0 ≤ l) (hz : (n : Int) ≤ 9223372036854775807) :
    Calls Tryd.prog 35 #[.agg #[.int .i64 i0, .slice a n c], .int .i64 L] w fun e w' => e = .returned (.int .i64 l) ∧ Below w.heap.size w w' := by
  have e : IntKind.i64.wrap (L - (n : Int)) = l := by rw [IntKind.wrap_i64]; omega
  have hn : ¬ l < 0 := by omega
  clear h0 hL hz
  go_enter Tryd.func35, Tryd.ntmps35
  go_wp2
  go_ret
  exact ⟨rfl, (Below.refl _ _).alloc (Nat.le_refl _) _⟩
theorem szSto_bad0 (i0 : Int) (a : Option Addr) (n c : Nat) (w : World) {L l : Int} (hL : 0 ≤ L ∧ L ≤ 1048576) (h : l = L - (n : Int)) (h0 : l < 0) (hz : (n : Int) ≤ 9223372036854775807) :
    Calls Tryd.prog 35 #[.agg #[.int .i64 i0, .slice a n c], .int .i64 L] w fun e w' => e = .returned (.int .i64 (-1)) ∧ Below w.heap.size w w' := by
  have e : IntKind.i64.wrap (L - (n : Int)) = l := by rw [IntKind.wrap_i64]; omega
  have hn : l < 0 := by omega
  clear h0 hL hz
  go_enter Tryd.func35, Tryd.ntmps35
  go_wp2
  go_ret
  exact ⟨rfl, (Below.refl _ _).alloc (Nat.le_refl _) _⟩
theorem cels3Sto (w : World) (o : Obj) (t1 t2 : TypeId) (a b : List Value) :
    Cels (((w.alloc o).alloc (.cells a.toArray t1)).alloc (.cells b.toArray t2)) (w.heap.size + 1) t1 a ∧ Cels (((w.alloc o).alloc (.cells a.toArray t1)).alloc (.cells b.toArray t2)) (w.heap.size + 1 + 1) t2 b ∧
    Below w.heap.size w (((w.alloc o).alloc (.cells a.toArray t1)).alloc (.cells b.toArray t2)) ∧ (((w.alloc o).alloc (.cells a.toArray t1)).alloc (.cells b.toArray t2)).heap.size = w.heap.size + 1 + 1 + 1 := cels3 w o t1 t2 a b
/-- What the end of a call asks and leaves that stores the list into a struct, loads the struct and hands it back in a cell. -/
theorem retSto {w : World} {g1 g2 : Nat} {t1 t2 : TypeId} {a0 a1 b0 b1 : Value} (h1 : Cels w g1 t1 [a0, a1]) (h2 : Cels w g2 t2 [b0, b1]) (hne : g1 ≠ g2) (u : Value) :
    w.cell? ⟨g2, 1, none⟩ = some b1 ∧
    w.frozen? ⟨g2, 1, none⟩ = false ∧
    (w.setCell ⟨g2, 1, none⟩ u).cell? ⟨g2, 0, none⟩ = some b0 ∧
    (w.setCell ⟨g2, 1, none⟩ u).cell? ⟨g2, 1, none⟩ = some u ∧
    (w.setCell ⟨g2, 1, none⟩ u).cell? ⟨g1, 0, none⟩ = some a0 ∧
    (w.setCell ⟨g2, 1, none⟩ u).frozen? ⟨g1, 0, none⟩ = false ∧
    ((w.setCell ⟨g2, 1, none⟩ u).setCell ⟨g1, 0, none⟩ b0).cell? ⟨g1, 1, none⟩ = some a1 ∧
    ((w.setCell ⟨g2, 1, none⟩ u).setCell ⟨g1, 0, none⟩ b0).frozen? ⟨g1, 1, none⟩ = false ∧
    Cels (((w.setCell ⟨g2, 1, none⟩ u).setCell ⟨g1, 0, none⟩ b0).setCell ⟨g1, 1, none⟩ u) g1 t1 [b0, u] := by
  have s1 := h2.set 1 u
  have r0 := h1.other (p := ⟨g2, 1, none⟩) hne u
  have r1 := r0.set 0 b0
  have r2 := r1.set 1 u
  exact ⟨h2.cell 1 rfl, h2.frozen 1, s1.cell 0 rfl, s1.cell 1 rfl, r0.cell 0 rfl, r0.frozen 0, r1.cell 1 rfl, r1.frozen 1, r2⟩
set_option maxHeartbeats 1000000 in
theorem toSto (i0 : Int) (v : Value) (rs : List Int) (w : World) (h : Rd w v rs) :
    Calls Tryd.prog 38 #[.agg #[.int .i64 i0, v]] w fun e w' => ∃ u, e = .returned (.agg #[.int .i64 i0, u]) ∧ Ow w' w.heap.size w'.heap.size u rs ∧ Below w.heap.size w w' := by
  have HV := Lib.hid h
  obtain ⟨_, _, a, c, rfl, _, _⟩ := h
  have HC := Lib.hid (cels3 w (Obj.cells #[.int .i64 i0, .slice a rs.length c] 61) 67 67 [.int .i64 0, .slice none 0 0] [.int .i64 i0, .slice none 0 0])
  go_enter Tryd.func38, Tryd.ntmps38
  go_wp2_with fail
  obtain ⟨k1, k2, hb0, hs0⟩ := HC.out
  simp only [List.toArray] at k1 k2 hb0 hs0
  refine (toInts _ rs _ (HV.out.below hb0 (Nat.le_refl _))).mono ?_
  rintro e w1 ⟨u, rfl, ho, hb1⟩
  obtain ⟨ga, gc, rfl⟩ := ho.shape
  replace k1 := k1.below hb1 (by rw [hs0]; omega)
  replace k2 := k2.below hb1 (by rw [hs0]; omega)
  have HB1 := Lib.hid (hb0.trans (hb1.mono hb0.size))
  have hsz : w.heap.size + 1 + 1 < w1.heap.size := by have := hb1.size; omega
  have HO : Hid (Ow w1 (w.heap.size + 1 + 1 + 1) w1.heap.size (.slice ga rs.length gc) rs) := Lib.hid (by rw [← hs0]; exact ho)
  have HF := Lib.hid (retSto k1 k2 (by omega) (.slice ga rs.length gc))
  obtain ⟨f0, f1, f2, f3, f4, f5, f6, f7, f8⟩ := HF.out
  clear ho hb0 hb1 hs0 k1 k2
  go_wp2
  obtain ⟨W, hW⟩ : ∃ W, W = (((w1.setCell ⟨w.heap.size + 1 + 1, 1, none⟩ (.slice ga rs.length gc)).setCell ⟨w.heap.size + 1, 0, none⟩ (.int .i64 i0)).setCell ⟨w.heap.size + 1, 1, none⟩ (.slice ga rs.length gc)) := ⟨_, rfl⟩
  have hB : Below w.heap.size w W ∧ Ow W (w.heap.size + 1 + 1 + 1) W.heap.size (.slice ga rs.length gc) rs := by
    rw [hW]
    exact ⟨below_set (below_set (below_set HB1.out (by omega) _ _) (by omega) _ _) (by omega) _ _, ((((HO.out.apartCell (by omega) _ _).apartCell (by omega) _ _).apartCell (by omega) _ _)).up⟩
  rw [← hW] at f8 ⊢
  have z0 := f8.cell 0 rfl
  have z1 := f8.cell 1 rfl
  clear f0 f1 f2 f3 f4 f5 f6 f7 HF HC hW
  refine bodyPost_ret (v := .agg #[.int .i64 i0, .slice ga rs.length gc]) (by simp [results, Tryd.f38, go_sem, z0, z1]) rfl ⟨_, rfl, hB.2.mono (by omega) (Nat.le_refl _) (Nat.le_refl _), hB.1⟩
theorem eqSto (i0 : Int) (u v : Value) (rs : List Int) (w : World) (hu : Rd w u rs) (hv : Rd w v rs) :
    Calls Tryd.prog 41 #[.agg #[.int .i64 i0, u], .agg #[.int .i64 i0, v]] w fun e w' => e = .returned (.bool true) ∧ Below w.heap.size w w' := by
  have HU := Lib.hid hu
  have HV := Lib.hid hv
  obtain ⟨_, _, a, c, rfl, _, _⟩ := hu
  obtain ⟨_, _, a', c', rfl, _, _⟩ := hv
  have HB : ∀ x y : Obj, Hid (Below w.heap.size w ((w.alloc x).alloc y)) := fun x y => Lib.hid (((Below.refl w.heap.size w).alloc (Nat.le_refl _) _).alloc (by simp) _)
  go_enter Tryd.func41, Tryd.ntmps41
  go_wp2_with fail
  refine (eqInts _ _ rs _ (HU.out.below (HB _ _).out (Nat.le_refl _)) (HV.out.below (HB _ _).out (Nat.le_refl _))).mono ?_
  rintro e w1 ⟨rfl, hb1⟩
  have HB1 := Lib.hid ((HB _ _).out.trans (hb1.mono (by simp; omega)))
  clear hb1
  go_wp2
  go_ret
  exact ⟨rfl, HB1.out⟩
end Go.Proofs.YtemooadcjdngdaaDoor.Ints
