/- The program's builder of programs for register machines. -/
import Derived.Test.YtfcakadmiflcdaaPrgI
import Derived.Deep.RegionHeld3
import Derived.Deep.Upon
import Derived.Deep.RegionLaw
namespace Go.Proofs.Ytfcakadmiflcdaa.Ints
open Go.RowKit
set_option linter.unusedVariables false
set_option linter.unusedSimpArgs false
theorem cels_ne {w : World} {g q : Nat} {t s : TypeId} {cs ds : List Value} (h : Cels w g t cs) (k : Cels w q s ds) (hne : t ≠ s) : g ≠ q := by
  intro e
  subst e
  have h' : w.heap[g]? = some (.cells cs.toArray t (0, 0)) := h
  have k' : w.heap[g]? = some (.cells ds.toArray s (0, 0)) := k
  rw [h'] at k'
  simp only [Option.some.injEq, Obj.cells.injEq] at k'
  exact hne k'.2.1
/-- Behind an append of one instruction to the builder's program: what the store into the builder asks, and what it leaves. -/
theorem bAfter {w W w4 : World} {B g : Nat} {v v' : Value} {xs : List Ins} {x : Ins} (hk : Cels w g 95 [v]) (ho : OwIns w B w.heap.size v xs) (hB : B ≤ g) (hl : xs.length ≤ 2000) (hx : x.fit)
    (hb : Below w.heap.size w W) (hown : w4.ownsRow B 65 4 v' (xs.length + [x].length) (csIns (xs ++ [x]))) (hgr : W.grownBy w4 v.ownBlock) :
    w4.cell? ⟨g, 0, none⟩ = some v ∧ w4.frozen? ⟨g, 0, none⟩ = false ∧ Cels (w4.setCell ⟨g, 0, none⟩ v') g 95 [v'] ∧
    OwIns (w4.setCell ⟨g, 0, none⟩ v') B (w4.setCell ⟨g, 0, none⟩ v').heap.size v' (xs ++ [x]) ∧ Below B w (w4.setCell ⟨g, 0, none⟩ v') ∧
    (∀ q t cs, Cels W q t cs → t ≠ 65 → q ≠ g → Cels (w4.setCell ⟨g, 0, none⟩ v') q t cs) := by
  have hk1 := hk.below hb hk.lt
  have ho1 := ho.below hb (Nat.le_refl _)
  have hk4 := hk1.grown hgr (ho1.nblk hk1 (by decide))
  have hBw : B ≤ w.heap.size := ho.base
  have hb4 : Below B w w4 := (hb.mono hBw).grown hgr (Nat.le_trans hBw hb.size) (fun q hq => (ho.row.lt q hq).1)
  have ho4 : OwIns w4 B w4.heap.size v' (xs ++ [x]) := ⟨by simp; omega, ho.fit.app (fun r hr => by simp at hr; subst hr; exact hx), by rw [List.length_append]; exact hown, fun k hk => (hown.lt k hk).2, Nat.le_refl _, Nat.le_trans hBw hb4.size⟩
  refine ⟨hk4.cell 0 rfl, hk4.frozen 0, hk4.set 0 v', ?_, below_set hb4 hB 0 v', fun q t cs hq ht hne => ?_⟩
  · exact (ho4.grown (put1g w4 g 0 v') (.inr (ho4.nblk hk4 (by decide)))).up
  · exact (hq.grown hgr (ho1.nblk hq ht)).other (p := ⟨g, 0, none⟩) hne v'
/-- What a cell holds: for a region that loads a cell and then stores into it (the held fact must stand behind the store, too). -/
def cellOf (W : World) (p : Addr) : Value := (W.cell? p).getD undef
theorem cellOf_eq {W : World} {p : Addr} {v : Value} (h : W.cell? p = some v) : cellOf W p = v := by simp [cellOf, h]
theorem cellOf_some {W : World} {p : Addr} {v : Value} (h : W.cell? p = some v) : W.cell? p = some (cellOf W p) := by simp [cellOf, h]
set_option maxHeartbeats 2000000 in
set_option maxRecDepth 100000 in
theorem bInc (g B : Nat) (v : Value) (xs : List Ins) (r t : Int) (w : World) (hk : Cels w g 95 [v]) (ho : OwIns w B w.heap.size v xs) (hB : B ≤ g) (hl : xs.length ≤ 2000) (fr : fit64 r) (ft : fit64 t) :
    Calls Try.prog 114 #[.pointer (some ⟨g, 0, none⟩), .int .i64 r, .int .i64 t] w fun e w' => ∃ v', e = .returned (.pointer (some ⟨g, 0, none⟩)) ∧ Cels w' g 95 [v'] ∧ OwIns w' B w'.heap.size v' (xs ++ [⟨0, r, t, 0⟩]) ∧ Below B w w' := by
  obtain ⟨a, c, hv⟩ := ho.shape
  subst hv
  have HK := Lib.hid hk
  have HO := Lib.hid ho
  have HF : Hid (Ins.fit ⟨0, r, t, 0⟩) := Lib.hid ⟨by unfold fit64; dsimp only; omega, fr, ft, by unfold fit64; dsimp only; omega⟩
  have HS : Hid (∀ W, Below w.heap.size w W → W.cell? ⟨g, 0, none⟩ = some (.slice a xs.length c)) := Lib.hid (fun W hW => (hk.below hW hk.lt).cell 0 rfl)
  have z0 := hk.cell 0 rfl
  have hlt := hk.lt
  clear hk ho fr ft
  go_enter Try.func114, Try.ntmps114
  go_wp2_with fail
  have HD : Hid (Below w.heap.size w w.drew) := Lib.hid (Below.refl _ _).drew
  go_region_law ((first | (refine step_append_Ins (by rfl) _ _ (by rfl) B _ _ xs [⟨0, r, t, 0⟩] (by rfl) (HO.out.below (HD.out.alloc HD.out.size _) (Nat.le_refl _)).row (by rfl) (rdIns_one (Cels.new _ _ _) HF.out) (by simp; omega) (Nat.le_trans HO.out.base (HD.out.alloc HD.out.size _).size) ?_; intro v' w4 hown4 hgrow4; have HA := Lib.hid (bAfter HK.out HO.out hB hl HF.out (HD.out.alloc HD.out.size _) hown4 hgrow4); obtain ⟨ga, gc, hv'⟩ := ownsRow_shape hown4; subst hv'; obtain ⟨q0, q1, _⟩ := HA.out; clear hown4 hgrow4) | (go_simp; go_at_call 101; with_reducible refine (implInc r t _).mono ?_; rintro e3 w3 ⟨rfl, bq⟩; replace HD := Lib.hid (HD.out.trans (bq.mono HD.out.size)); have z3 := HS.out _ HD.out; have hlt3 := Nat.lt_of_lt_of_le hlt HD.out.size; clear bq)))
  all_goals (go_wp2; go_ret; exact ⟨_, rfl, HA.out.2.2.1, HA.out.2.2.2.1, HA.out.2.2.2.2.1⟩)
theorem implDec (r t u : Int) (w : World) : Calls Try.prog 120 #[.int .i64 r, .int .i64 t, .int .i64 u] w fun e w' => e = .returned (.agg #[.int .i64 1, .int .i64 r, .int .i64 t, .int .i64 u]) ∧ Below w.heap.size w w' := by
  go_enter Try.func120, Try.ntmps120
  go_wp2
  refine bodyPost_ret (v := .agg #[.int .i64 1, .int .i64 r, .int .i64 t, .int .i64 u]) (by simp [results, Try.f120, go_sem]) rfl ⟨rfl, (Below.refl _ _).alloc (Nat.le_refl _) _⟩
set_option maxHeartbeats 2000000 in
set_option maxRecDepth 100000 in
theorem bDec (g B : Nat) (v : Value) (xs : List Ins) (r t u : Int) (w : World) (hk : Cels w g 95 [v]) (ho : OwIns w B w.heap.size v xs) (hB : B ≤ g) (hl : xs.length ≤ 2000) (fr : fit64 r) (ft : fit64 t) (fu : fit64 u) :
    Calls Try.prog 113 #[.pointer (some ⟨g, 0, none⟩), .int .i64 r, .int .i64 t, .int .i64 u] w fun e w' => ∃ v', e = .returned (.pointer (some ⟨g, 0, none⟩)) ∧ Cels w' g 95 [v'] ∧ OwIns w' B w'.heap.size v' (xs ++ [⟨1, r, t, u⟩]) ∧ Below B w w' := by
  obtain ⟨a, c, hv⟩ := ho.shape
  subst hv
  have HK := Lib.hid hk
  have HO := Lib.hid ho
  have HF : Hid (Ins.fit ⟨1, r, t, u⟩) := Lib.hid ⟨by unfold fit64; dsimp only; omega, fr, ft, fu⟩
  have HS : Hid (∀ W, Below w.heap.size w W → W.cell? ⟨g, 0, none⟩ = some (.slice a xs.length c)) := Lib.hid (fun W hW => (hk.below hW hk.lt).cell 0 rfl)
  have z0 := hk.cell 0 rfl
  have hlt := hk.lt
  clear hk ho fr ft fu
  go_enter Try.func113, Try.ntmps113
  go_wp2_with fail
  have HD : Hid (Below w.heap.size w w.drew) := Lib.hid (Below.refl _ _).drew
  go_region_law ((first | (refine step_append_Ins (by rfl) _ _ (by rfl) B _ _ xs [⟨1, r, t, u⟩] (by rfl) (HO.out.below (HD.out.alloc HD.out.size _) (Nat.le_refl _)).row (by rfl) (rdIns_one (Cels.new _ _ _) HF.out) (by simp; omega) (Nat.le_trans HO.out.base (HD.out.alloc HD.out.size _).size) ?_; intro v' w4 hown4 hgrow4; have HA := Lib.hid (bAfter HK.out HO.out hB hl HF.out (HD.out.alloc HD.out.size _) hown4 hgrow4); obtain ⟨ga, gc, hv'⟩ := ownsRow_shape hown4; subst hv'; obtain ⟨q0, q1, _⟩ := HA.out; clear hown4 hgrow4) | (go_simp; go_at_call 120; with_reducible refine (implDec r t u _).mono ?_; rintro e3 w3 ⟨rfl, bq⟩; replace HD := Lib.hid (HD.out.trans (bq.mono HD.out.size)); have z3 := HS.out _ HD.out; have hlt3 := Nat.lt_of_lt_of_le hlt HD.out.size; clear bq)))
  all_goals (go_wp2; go_ret; exact ⟨_, rfl, HA.out.2.2.1, HA.out.2.2.2.1, HA.out.2.2.2.2.1⟩)
end Go.Proofs.Ytfcakadmiflcdaa.Ints
