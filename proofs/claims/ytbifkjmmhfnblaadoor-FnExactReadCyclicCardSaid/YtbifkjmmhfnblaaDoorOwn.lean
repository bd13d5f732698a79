/- Rows of a call's own: slices.Clone, the model's copy, and plain lemmas. -/
import Derived.Test.YtbifkjmmhfnblaaDoorInts
import Derived.Deep.Upon
namespace Go.Proofs.YtbifkjmmhfnblaaDoor.Ints
open Go.RowKit
set_option linter.unusedVariables false

theorem grown_refl (w : World) (row : Option Nat) : w.grownBy w row := ⟨rfl, rfl, rfl, Nat.le_refl _, fun _ _ _ => rfl⟩
theorem cellNew (w : World) (v : Value) (t : TypeId) : ∀ j u, [v][j]? = some u → (w.alloc (.cells #[v] t)).cell? ((⟨w.heap.size, 0, none⟩ : Addr).add j) = some u := by
  intro j u h
  match j, h with
  | 0, h => simp at h; subst h; rw [Addr.add_lit]; simp [World.cell?_alloc_at]
  | j + 1, h => simp at h
theorem oneCell (x : Int) : ∀ u ∈ [Value.int .i64 x], u.oneCell' = true := ints_oneCell .i64 [x]
theorem cellOld {w : World} {v : Value} (o : Obj) (p : Addr) (h : w.cell? p = some v) (hp : p.block < w.heap.size) : (w.alloc o).cell? p = some v :=
  (((Below.refl w.heap.size w).alloc (Nat.le_refl _) o).cell hp).trans h
theorem Ow.empty (w : World) : Ow w w.heap.size w.heap.size (.slice none 0 0) [] :=
  ⟨by simp, Fit.nil, World.ownsRow_nil _ _ _ _, fun k hk => by simp [Value.ownBlock] at hk, Nat.le_refl _, Nat.le_refl _⟩
theorem Ow.emptyUp {w : World} {B : Nat} (h : B ≤ w.heap.size) : Ow w B w.heap.size (.slice none 0 0) [] :=
  ⟨by simp, Fit.nil, World.ownsRow_nil _ _ _ _, fun k hk => by simp [Value.ownBlock] at hk, Nat.le_refl _, h⟩
/-- What the slice at hand reads, as the law of append asks. -/
theorem Rd.cells {w : World} {ad : Addr} {n c : Nat} {zs : List Int} (h : Rd w (.slice (some ad) n c) zs) (o : Obj) :
    n = zs.length ∧ n ≤ c ∧ ∀ j x, (zs.map (Value.int .i64))[j]? = some x → (w.alloc o).cell? (ad.add j) = some x := by
  obtain ⟨hl, hf, a, c', hv, hcap, hr⟩ := h
  simp only [Value.slice.injEq] at hv
  obtain ⟨rfl, rfl, rfl⟩ := hv
  refine ⟨rfl, hcap, fun j x hx => ?_⟩
  simp only [List.getElem?_map, Option.map_eq_some_iff] at hx
  obtain ⟨y, hy, rfl⟩ := hx
  have hj : j < zs.length := (List.getElem?_eq_some_iff.1 hy).1
  obtain ⟨b, o, ha, hb, hcell⟩ := hr (by intro h0; rw [h0] at hj; simp at hj)
  cases ha
  rw [Addr.add_lit, cellOld _ _ (hcell j hj) hb, List.getD_eq_getElem?_getD, hy]; rfl

theorem eqOr (b : Bool) : b = false ∨ b = true := by cases b <;> simp
theorem Ow.shape {w : World} {B T : Nat} {v : Value} {Z : List Int} (h : Ow w B T v Z) : ∃ a c, v = .slice a Z.length c := by
  rcases h.form with ⟨rfl, rfl⟩ | ⟨g, c, rfl, _⟩
  · exact ⟨_, _, rfl⟩
  · exact ⟨_, _, rfl⟩
theorem Ow.made (w : World) : Ow (w.alloc (.cells #[] 2)) w.heap.size (w.alloc (.cells #[] 2)).heap.size (.slice (some ⟨w.heap.size, 0, none⟩) 0 0) [] :=
  ⟨by simp, Fit.nil, World.ownsRow_made w #[] 0 (Nat.le_refl _) (by unfold maxLen; omega) (by simp), fun k hk => by cases hk; simp, Nat.le_refl _, by simp⟩
theorem Ow.up {w : World} {B T : Nat} {v : Value} {zs : List Int} (h : Ow w B T v zs) : Ow w B w.heap.size v zs := h.mono (Nat.le_refl _) h.size (Nat.le_refl _)
/-- Behind an append of one number. -/
theorem Ow.snoc {wr w1 : World} {B T : Nat} {ov v' : Value} {xs : List Int} {x : Int} (h : Ow wr B T ov xs) (h0 : -9223372036854775808 ≤ x ∧ x ≤ 9223372036854775807) (hl : xs.length < 16777216)
    (hown1 : w1.ownsRow B 2 1 v' (xs.length + 1) (xs.map (Value.int .i64) ++ [.int .i64 x])) (hgrow : (wr.alloc (Obj.cells #[Value.int IntKind.i64 x] 2)).grownBy w1 ov.ownBlock) :
    Ow w1 B w1.heap.size v' (xs ++ [x]) ∧ Below B wr w1 := by
  have hb : B ≤ wr.heap.size := Nat.le_trans h.base h.size
  have hB : Below B wr w1 := ((Below.refl B wr).alloc hb _).grown hgrow (by simp; omega) (fun q hq => (h.row.lt q hq).1)
  refine ⟨⟨by simp; omega, fun z hz => ?_, by simpa using hown1, fun k hk => (hown1.lt k hk).2, Nat.le_refl _, Nat.le_trans hb hB.size⟩, hB⟩
  rcases List.mem_append.1 hz with hz | hz
  · exact h.fit z hz
  · simp at hz; subst hz; exact h0
/-- A row of zeros with room. -/
theorem wpList_make_cap {w : World} {ops : Array Oper} {rest : List Oper} {o : Oper} {a : Act} {Q : Exit → Act → World → Prop} (hg : o.guard = none) (l c : Operand) (hop : o.op = Op.makeSlice 22 l c)
    (n m : Nat) (kl kc : IntKind) (L C : Int) (hl : a.eval l = .int kl L) (hc : a.eval c = .int kc C) (hL : L = (n : Int)) (hC : C = (m : Int)) (hnm : n ≤ m) (hm : m ≤ 33554432)
    (hK : ∀ w', w'.ownsRow w.heap.size 2 1 (.slice (some ⟨w.heap.size, 0, none⟩) n m) n (List.replicate n (.int .i64 0)) → w.grownBy w' none → wpList Tryd.prog ops Q rest (a.put o.dst (.slice (some ⟨w.heap.size, 0, none⟩) n m)) w') :
    wpList Tryd.prog ops Q (o :: rest) a w := by
  obtain ⟨i0, hi, hz0, hz1, hz2⟩ := info_parts infoE
  refine wpList_plain hg fun K hK' => ?_
  have hrun := run_make (P := Tryd.prog) w 22 2 i0 (.int .i64 0) Tryd.underlying22 hi hz0 kl kc (n : Int) (m : Int) (by omega) (by omega) (by rw [hz2]; omega) (by omega)
  simp only [Int.toNat_natCast] at hrun
  subst hL
  subst hC
  unfold Oper.wp
  simp [execOp, hop, hl, hc, hrun, Result.andThen]
  refine hK' _ _ (hK _ ?_ (World.grownBy_alloc w _ none))
  rw [hz1, Nat.mul_one]
  refine ⟨by simp, .inr ⟨w.heap.size, m, _, rfl, Nat.le_refl _, heap_alloc_new w _, hnm, by unfold maxLen; omega, by simp [size_madeCells], ?_⟩⟩
  show List.take (n * 1) (madeCells #[Value.int .i64 0] m).toList = _
  rw [toList_madeCells_one, List.take_replicate, Nat.mul_one, Nat.min_eq_left hnm]
/-- Whatever slice is appended to a row of the call's own. -/
theorem wpList_append_rd {w : World} {ops : Array Oper} {rest : List Oper} {o : Oper} {a : Act} {Q : Exit → Act → World → Prop} (hgd : o.guard = none) (s x : Operand)
    (ho : o.op = .call { callee := .builtin .append, args := #[s, x], argTypes := #[22, 22] })
    (base : Nat) (v u : Value) (xs ys : List Int) (hs : a.eval s = v) (hown : w.ownsRow base 2 1 v xs.length (xs.map (Value.int .i64))) (hx : a.eval x = u) (hu : Rd w u ys)
    (hn : xs.length + ys.length ≤ 33554432) (hbase : base ≤ w.heap.size)
    (h : ∀ v' w', w'.ownsRow base 2 1 v' (xs.length + ys.length) ((xs ++ ys).map (Value.int .i64)) → w.grownBy w' v.ownBlock → wpList Tryd.prog ops Q rest (a.put o.dst v') w') : wpList Tryd.prog ops Q (o :: rest) a w := by
  obtain ⟨i0, hi, hz0, hz1, hz2⟩ := info_parts infoE
  have HU := hu
  obtain ⟨hl, hf, ad, c, rfl, hcap, hr⟩ := hu
  cases ad with
  | some ad =>
    have hc : ∀ j y, (ys.map (Value.int .i64))[j]? = some y → w.cell? (ad.add j) = some y := fun j y hy => by
      simp only [List.getElem?_map, Option.map_eq_some_iff] at hy
      obtain ⟨z, hz, rfl⟩ := hy
      have hj : j < ys.length := (List.getElem?_eq_some_iff.1 hz).1
      obtain ⟨b, o, ha, hb, hcell⟩ := hr (by intro h0; rw [h0] at hj; simp at hj)
      cases ha
      rw [Addr.add_lit, hcell j hj, List.getD_eq_getElem?_getD, hz]; rfl
    exact wpList_append_own _ hgd s x 22 ho base 2 i0 (.int .i64 0) 1 8 Tryd.underlying22 hi hz0 hz1 hz2 rfl (by decide) v xs.length (xs.map (Value.int .i64)) hs hown ad ys.length c (ys.map (Value.int .i64)) hx (by simp) hc (ints_oneCell .i64 ys)
      (by unfold maxLen; omega) (by omega) hbase (fun v' w' h1 h2 _ => h v' w' (by simpa using h1) h2)
  | none =>
    obtain rfl : ys = [] := by
      cases ys with
      | nil => rfl
      | cons z zs => obtain ⟨b, o, h, _⟩ := hr (by simp); cases h
    have hfin := h v w (by simpa using hown) (grown_refl _ _)
    refine wpList_plain hgd fun K hK' => ?_
    have hv : ∃ ao n cp, v = .slice ao n cp ∧ n ≤ cp := by
      rcases hown.2 with ⟨rfl, _⟩ | ⟨g, cp, cur, rfl, _, _, hnc, _⟩
      · exact ⟨none, 0, 0, rfl, Nat.le_refl _⟩
      · exact ⟨_, _, _, rfl, hnc⟩
    obtain ⟨ao, n, cp, rfl, hle⟩ := hv
    have hrun := run_append_nothing w 22 22 o.type 2 i0 Tryd.underlying22 hi ao n cp hle (.slice none 0 c) (Src.ofNil w Tryd.underlying22 c)
    unfold Oper.wp
    simp [execOp, ho, resolve, invoke, builtin, hs, hx, hrun, Result.andThen]
    exact hK' _ _ hfin

end Go.Proofs.YtbifkjmmhfnblaaDoor.Ints
