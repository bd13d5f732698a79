/- ValidMultiConfig: the contracts of the model and of the program. -/
import Derived.Test.YtepdjlhlcjkdkaaVmg
import Derived.Test.YtepdjlhlcjkdkaaVmS
import Derived.Test.YtepdjlhlcjkdkaaVmK
namespace Go.Proofs.Ytepdjlhlcjkdkaa.Ints
open Go.RowKit
set_option linter.unusedVariables false
set_option linter.unusedSimpArgs false
theorem IsList.belowV {w w' : World} {a : Option Addr} {len cap : Nat} {zs : List Int} (h : IsList w a len cap zs) (hb : Below w.heap.size w w') : IsList w' a len cap zs := by
  rcases h with h | ⟨x, h0, h1, h2, h3, h4, h5⟩
  · exact .inl h
  · exact .inr ⟨x, h0, h1, h2, h3, fun i hi => (hb.cell (World.block_lt_of_cell? w _ (h4 i hi))).trans (h4 i hi), h5⟩
theorem IsTapes.belowV {w w' : World} {a : Option Addr} {len cap : Nat} {zs : List Tin} (h : IsTapes w a len cap zs) (hb : Below w.heap.size w w') : IsTapes w' a len cap zs := by
  rcases h with h | ⟨x, h0, h1, h2, h3, h4⟩
  · exact .inl h
  · exact .inr ⟨x, h0, h1, h2, h3, fun i hi => by
      obtain ⟨q0, q1, q2⟩ := h4 i hi
      exact ⟨(hb.cell (World.block_lt_of_cell? w _ q0)).trans q0, (hb.cell (World.block_lt_of_cell? w _ q1)).trans q1, q2.1.belowV hb, q2.2.belowV hb⟩⟩
noncomputable def vmcB (tp sy st : Int) (ms : List Mr) (cst : Int) (ts : List Tp) : Bool := muB tp sy st ms && mcB tp sy st cst ts
theorem vmcB_bad {tp sy st : Int} {ms : List Mr} {cst : Int} {ts : List Tp} (h : muB tp sy st ms = false) : vmcB tp sy st ms cst ts = false := by simp [vmcB, h]
theorem vmcB_good {tp sy st : Int} {ms : List Mr} {cst : Int} {ts : List Tp} (h : muB tp sy st ms = true) : vmcB tp sy st ms cst ts = mcB tp sy st cst ts := by simp [vmcB, h]
theorem muB_hd {tp sy st : Int} {ms : List Mr} (h : muB tp sy st ms = true) : MuHd tp sy st ms.length := by
  have : MuOk tp sy st ms := by simpa [muB] using h
  exact this.1
theorem implBelX (n l : Int) (b : Bool) (w : World) (h : b = true ↔ (0 ≤ n ∧ n < l)) : Calls Try.prog 65 #[.int .i64 n, .int .i64 l] w fun e w' => e = .returned (.bool b) ∧ w' = w := by
  cases b with
  | true =>
    obtain ⟨h0, h1⟩ := h.1 rfl
    clear h
    go_enter Try.func65, Try.ntmps65
    go_wp2
    go_ret
    exact ⟨rfl, rfl⟩
  | false =>
    have hn : ¬ (0 ≤ n ∧ n < l) := fun h' => by cases h.2 h'
    clear h
    by_cases h0 : 0 ≤ n
    · have h1 : decide (n < l) = false := decide_eq_false (fun h1 => hn ⟨h0, h1⟩)
      clear hn
      go_enter Try.func65, Try.ntmps65
      go_wp2
      go_ret
      exact ⟨rfl, rfl⟩
    · clear hn
      go_enter Try.func65, Try.ntmps65
      go_wp2
      go_ret
      exact ⟨rfl, rfl⟩
set_option maxHeartbeats 4000000 in
theorem specVmc (tp sy st : Int) (v : Value) (ms : List Mr) (cst : Int) (u : Value) (ts : List Tp) (w : World) (hv : RdM w v ms) (hu : RdT w u ts) :
    Calls Try.prog 17 #[.agg #[.int .i64 tp, .int .i64 sy, .int .i64 st, v], .agg #[.int .i64 cst, u]] w fun e w' => e = .returned (.bool (vmcB tp sy st ms cst ts)) ∧ Below w.heap.size w w' := by
  have HV := Lib.hid hv
  have HU := Lib.hid hu
  clear hv hu
  obtain ⟨W0, hW0⟩ : ∃ W, W = (w.alloc (Obj.cells #[.int .i64 tp, .int .i64 sy, .int .i64 st, v] 33)).alloc (Obj.cells #[.int .i64 cst, u] 37) := ⟨_, rfl⟩
  have HB : Hid (Below w.heap.size w W0) := Lib.hid (by rw [hW0]; exact ((Below.refl w.heap.size w).alloc (Nat.le_refl _) _).alloc (by simp) _)
  have K1 : Hid (Cels W0 w.heap.size 33 [.int .i64 tp, .int .i64 sy, .int .i64 st, v]) := Lib.hid (by rw [hW0]; exact (Cels.new _ _ _).alloc _)
  have K2 : Hid (Cels W0 (w.heap.size + 1) 37 [.int .i64 cst, u]) := Lib.hid (by rw [hW0]; have h := Cels.new (w.alloc (Obj.cells #[.int .i64 tp, .int .i64 sy, .int .i64 st, v] 33)) 37 [.int .i64 cst, u]; simp only [World.size_alloc] at h; exact h)
  have HW0 := Lib.hid hW0.symm
  clear hW0
  obtain ⟨bm, hbm⟩ : ∃ b, b = muB tp sy st ms := ⟨_, rfl⟩
  have HM := Lib.hid hbm
  clear hbm
  go_enter Try.func17, Try.ntmps17
  go_wp2_with fail
  rw [HW0.out]
  refine (specL06Is w.heap.size tp sy st _ ms _ (HV.out.below HB.out (Nat.le_refl _)) (K1.out.cell 0 rfl) (K1.out.cell 1 rfl) (K1.out.cell 2 rfl) (K1.out.cell 3 rfl)).mono ?_
  rintro e w1 ⟨rfl, m, hm⟩
  have hb1 : Below W0.heap.size W0 w1 := by rw [hm]; exact below_drewN (Below.refl _ _) _
  have HB1 := Lib.hid (HB.out.trans (hb1.mono HB.out.size))
  have L1 := Lib.hid (K1.out.below hb1 K1.out.lt)
  have L2 := Lib.hid (K2.out.below hb1 K2.out.lt)
  clear hm hb1
  rw [← HM.out]
  rcases eqOr bm with hb | hb
  · subst hb
    have e := Lib.hid (vmcB_bad (cst := cst) (ts := ts) HM.out.symm)
    go_wp2
    go_ret
    exact ⟨by rw [e.out] <;> rfl, HB1.out⟩
  · subst hb
    have e := Lib.hid (vmcB_good (cst := cst) (ts := ts) HM.out.symm)
    have hd := Lib.hid (muB_hd HM.out.symm)
    go_wp2_with fail
    refine (specGoodM w.heap.size (w.heap.size + 1) tp sy st cst u ts _ (HU.out.below HB1.out (Nat.le_refl _)) (L1.out.cell 0 rfl) (L1.out.cell 1 rfl) (L1.out.cell 2 rfl) (L2.out.cell 0 rfl) (L2.out.cell 1 rfl) (by have := hd.out.s; omega) (by have := hd.out.s; omega) (by have := hd.out.q; omega) (by have := hd.out.q; omega)).mono ?_
    rintro e2 w2 ⟨rfl, hb1⟩
    have HB2 := Lib.hid (HB1.out.trans (hb1.mono HB1.out.size))
    clear hb1
    rw [← e.out]
    go_wp2
    go_ret
    exact ⟨rfl, HB2.out⟩
set_option maxHeartbeats 8000000 in
set_option maxRecDepth 100000 in
theorem implVmc (tp sy st : Int) (v : Value) (ms : List Mr) (cst : Int) (u : Value) (ts : List Tp) (w : World) (hv : RdM w v ms) (hu : RdT w u ts) :
    Calls Try.prog 20 #[.agg #[.int .i64 tp, .int .i64 sy, .int .i64 st, v], .agg #[.int .i64 cst, u]] w fun e w' => e = .returned (.bool (vmcB tp sy st ms cst ts)) ∧ Below w.heap.size w w' := by
  have HV := Lib.hid hv
  have HU := Lib.hid hu
  obtain ⟨_, a, c, rfl, _, _⟩ := hu
  clear hv
  obtain ⟨W0, hW0⟩ : ∃ W, W = (w.alloc (Obj.cells #[.int .i64 tp, .int .i64 sy, .int .i64 st, v] 33)).alloc (Obj.cells #[.int .i64 cst, .slice a ts.length c] 37) := ⟨_, rfl⟩
  have HB : Hid (Below w.heap.size w W0) := Lib.hid (by rw [hW0]; exact ((Below.refl w.heap.size w).alloc (Nat.le_refl _) _).alloc (by simp) _)
  have K1 : Hid (Cels W0 w.heap.size 33 [.int .i64 tp, .int .i64 sy, .int .i64 st, v]) := Lib.hid (by rw [hW0]; exact (Cels.new _ _ _).alloc _)
  have K2 : Hid (Cels W0 (w.heap.size + 1) 37 [.int .i64 cst, .slice a ts.length c]) := Lib.hid (by rw [hW0]; have h := Cels.new (w.alloc (Obj.cells #[.int .i64 tp, .int .i64 sy, .int .i64 st, v] 33)) 37 [.int .i64 cst, .slice a ts.length c]; simp only [World.size_alloc] at h; exact h)
  have HW0 := Lib.hid hW0.symm
  clear hW0
  obtain ⟨bm, hbm⟩ : ∃ b, b = muB tp sy st ms := ⟨_, rfl⟩
  have HM := Lib.hid hbm
  clear hbm
  go_enter Try.func20, Try.ntmps20
  go_wp2_with fail
  rw [HW0.out]
  refine (implValidMulti tp sy st _ ms _ (HV.out.below HB.out (Nat.le_refl _))).mono ?_
  rintro e w1 ⟨rfl, hb1⟩
  have HB1 := Lib.hid (HB.out.trans (hb1.mono HB.out.size))
  have L1 := Lib.hid (K1.out.below hb1 K1.out.lt)
  have L2 := Lib.hid (K2.out.below hb1 K2.out.lt)
  clear hb1
  rw [← HM.out]
  rcases eqOr bm with hb | hb
  · subst hb
    have e := Lib.hid (vmcB_bad (cst := cst) (ts := ts) HM.out.symm)
    go_wp2
    go_ret
    exact ⟨by rw [e.out] <;> rfl, HB1.out⟩
  subst hb
  have E := Lib.hid (vmcB_good (cst := cst) (ts := ts) HM.out.symm)
  have y0 := L1.out.cell 0 rfl
  have y1 := L1.out.cell 1 rfl
  have y2 := L1.out.cell 2 rfl
  have x0 := L2.out.cell 0 rfl
  have x1 := L2.out.cell 1 rfl
  by_cases h1 : 0 ≤ cst ∧ cst < st
  rotate_left
  · have e := Lib.hid (mcB_c (tp := tp) (sy := sy) (ts := ts) h1)
    have H1 := Lib.hid h1
    clear h1
    go_wp2_with fail
    refine (implBelX cst st false _ ⟨fun h => (by cases h), fun h => absurd h H1.out⟩).mono ?_
    rintro e1 w2 ⟨rfl, rfl⟩
    go_wp2
    go_ret
    exact ⟨by rw [E.out, e.out] <;> rfl, HB1.out⟩
  by_cases h2 : (ts.length : Int) = tp
  rotate_left
  · have e := Lib.hid (mcB_l (sy := sy) (st := st) (cst := cst) h2)
    have hn : ((ts.length : Int) != tp) = true := by simp [h2]
    have H1 := Lib.hid h1
    clear h1 h2
    go_wp2_with fail
    refine (implBelX cst st true _ ⟨fun _ => H1.out, fun _ => rfl⟩).mono ?_
    rintro e1 w2 ⟨rfl, rfl⟩
    go_wp2
    go_ret
    exact ⟨by rw [E.out, e.out] <;> rfl, HB1.out⟩
  have e := Lib.hid (mcB_t (sy := sy) h1 h2)
  have hn : ((ts.length : Int) != tp) = false := by simp [h2]
  have H1 := Lib.hid h1
  clear h1 h2
  go_wp2_with fail
  refine (implBelX cst st true _ ⟨fun _ => H1.out, fun _ => rfl⟩).mono ?_
  rintro e1 w2 ⟨rfl, rfl⟩
  go_wp2_with (first | (go_at_call 124; refine (indexMc _ ts w.heap.size sy _ (HU.out.below HB1.out (Nat.le_refl _)) (L1.out.cell 1 rfl)).mono ?_; rintro e1 w3 ⟨r, rfl, hr1, hb1⟩; have HR := Lib.hid hr1; have HB2 := Lib.hid (HB1.out.trans (hb1.mono HB1.out.size)); clear hr1 hb1) | go_in)
  go_ret
  refine ⟨?_, HB2.out⟩
  have hr1 := HR.out
  show Ending.returned (Value.bool (!decide (0 ≤ r))) = _
  rw [hr1, E.out, e.out]; simp
end Go.Proofs.Ytepdjlhlcjkdkaa.Ints
