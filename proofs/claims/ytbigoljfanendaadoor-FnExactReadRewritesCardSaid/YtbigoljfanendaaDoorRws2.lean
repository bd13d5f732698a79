/- Copies and comparisons of lists of rewriting rules. -/
import Derived.Test.YtbigoljfanendaaDoorRws
import Derived.Deep.RegionHeld3
namespace Go.Proofs.YtbigoljfanendaaDoor.Ints
open Go.RowKit
set_option linter.unusedVariables false
set_option linter.unusedSimpArgs false
theorem infoT : (Tryd.prog.info? 97).map (fun i => (i.zero, i.size, i.bytes)) = some (some (.agg #[.slice none 0 0, .slice none 0 0]), 2, 48) := by kernel_rfl
theorem cellKept {w : World} {v : Value} (o : Obj) {p : Addr} (h : w.cell? p = some v) : (w.alloc o).cell? p = some v := cellOld o p h (World.block_lt_of_cell? w _ h)
theorem IsList.alloc {w : World} {a : Option Addr} {len cap : Nat} {zs : List Int} (h : IsList w a len cap zs) (o : Obj) : IsList (w.alloc o) a len cap zs := by
  rcases h with h | ⟨x, h0, h1, h2, h3, h4, h5⟩
  · exact .inl h
  · exact .inr ⟨x, h0, h1, h2, h3, fun i hi => cellKept o (h4 i hi), h5⟩
theorem IsTapes.alloc {w : World} {a : Option Addr} {len cap : Nat} {zs : List Tin} (h : IsTapes w a len cap zs) (o : Obj) : IsTapes (w.alloc o) a len cap zs := by
  rcases h with h | ⟨x, h0, h1, h2, h3, h4⟩
  · exact .inl h
  · exact .inr ⟨x, h0, h1, h2, h3, fun i hi => by
      obtain ⟨q0, q1, q2⟩ := h4 i hi
      exact ⟨cellKept o q0, cellKept o q1, q2.1.alloc o, q2.2.alloc o⟩⟩
theorem made_tapes (n : Nat) : (madeCells #[Value.slice none 0 0, .slice none 0 0] (n * 2)).toList = List.replicate (n * 2) (.slice none 0 0) := by
  apply List.ext_getElem?
  intro j
  by_cases hj : j < n * 2
  · have h3 : j % 2 = 0 ∨ j % 2 = 1 := by omega
    rcases h3 with h | h <;> simp [madeCells, hj, h]
  · simp [madeCells, hj]
/-- What a store of a tape into a row of the call's own asks and leaves. -/
theorem rowT_open {w w1 : World} {B g c : Nat} {cs : List Value} {k n : Nat} (h : w.ownsRow B 97 2 (.slice (some ⟨g, 0, none⟩) n c) n cs) (hb : Below w.heap.size w w1) (hg : g < w.heap.size) (hk : k < n) (x y : Value) :
    (∃ u, w1.cell? ⟨g, k * 2, none⟩ = some u) ∧ (∃ u, (w1.setCell ⟨g, k * 2, none⟩ x).cell? ⟨g, k * 2 + 1, none⟩ = some u) ∧
    w1.frozen? ⟨g, k * 2, none⟩ = false ∧ (w1.setCell ⟨g, k * 2, none⟩ x).frozen? ⟨g, k * 2 + 1, none⟩ = false ∧
    ((w1.setCell ⟨g, k * 2, none⟩ x).setCell ⟨g, k * 2 + 1, none⟩ y).ownsRow B 97 2 (.slice (some ⟨g, 0, none⟩) n c) n ((cs.set (k * 2) x).set (k * 2 + 1) y) ∧
    w1.grownBy ((w1.setCell ⟨g, k * 2, none⟩ x).setCell ⟨g, k * 2 + 1, none⟩ y) (some g) ∧ cs.length = n * 2 ∧
    w1.ownsRow B 97 2 (.slice (some ⟨g, 0, none⟩) n c) n cs := by
  have hn : cs.length = n * 2 := by have := h.1; omega
  have h' : w1.ownsRow B 97 2 (.slice (some ⟨g, 0, none⟩) n c) n cs := by
    refine ⟨h.1, ?_⟩
    rcases h.2 with hn | ⟨g', cap, cur, hv, hbb, hgg, rest⟩
    · exact .inl hn
    · refine .inr ⟨g', cap, cur, hv, hbb, ?_, rest⟩
      cases hv
      rw [hb.block g hg]; exact hgg
  obtain ⟨h1, g1⟩ := h'.stored (k * 2) x
  obtain ⟨h2, g2⟩ := h1.stored (k * 2 + 1) y
  exact ⟨⟨_, (h'.cellAt _ (by omega)).trans (List.getElem?_eq_getElem (by omega))⟩, ⟨_, (h1.cellAt _ (by omega)).trans (List.getElem?_eq_getElem (by simp; omega))⟩, h'.frozenAt _, h1.frozenAt _, h2, grown_trans g1 g2, hn, h'⟩
/-- A row of numbers and a row of rewriting rules lie in different blocks. -/
theorem Ow.napart {w : World} {B T B' g n c : Nat} {v : Value} {zs : List Int} {cs : List Value} (h : Ow w B T v zs) (k : w.ownsRow B' 97 2 (.slice (some ⟨g, 0, none⟩) n c) n cs) : v.ownBlock ≠ some g := by
  intro e
  rcases h.row.2 with ⟨rfl, _⟩ | ⟨g1, c1, cur1, rfl, _, hg1, _⟩
  · cases e
  · cases e
    rcases k.2 with ⟨hv, _⟩ | ⟨g2, c2, cur2, hv, _, hg2, _⟩
    · cases hv
    · cases hv
      rw [hg1] at hg2
      simp only [Option.some.injEq, Obj.cells.injEq] at hg2
      exact absurd hg2.2.1 (by decide)
/-- The first k tapes of a row are copied. -/
def Cop (w : World) (B : Nat) (ts : List Tp) (cs : List Value) (k : Nat) : Prop :=
  ∀ i, i < k → ∃ x y, cs[i * 2]? = some x ∧ cs[i * 2 + 1]? = some y ∧ Ow w B w.heap.size x (ts.getD i tp0).l ∧ Ow w B w.heap.size y (ts.getD i tp0).r
theorem Cop.step {w w1 : World} {B g n c k : Nat} {ts : List Tp} {cs : List Value} {x y : Value} (h : Cop w B ts cs k) (hb : Below w.heap.size w w1) (hrow : w1.ownsRow B 97 2 (.slice (some ⟨g, 0, none⟩) n c) n cs) (hk : k < n) (hl : cs.length = n * 2)
    (h0 : Ow w1 w.heap.size w1.heap.size x (ts.getD k tp0).l) (h1 : Ow w1 w.heap.size w1.heap.size y (ts.getD k tp0).r) (hB : B ≤ w.heap.size) {W : World} (hg : w1.grownBy W (some g)) :
    Cop W B ts ((cs.set (k * 2) x).set (k * 2 + 1) y) (k + 1) := by
  intro i hi
  by_cases e : i = k
  · subst e
    refine ⟨x, y, ?_, ?_, (h0.grown hg (Or.inr (h0.napart hrow))).up.mono hB (Nat.le_refl _) (Nat.le_refl _), (h1.grown hg (Or.inr (h1.napart hrow))).up.mono hB (Nat.le_refl _) (Nat.le_refl _)⟩
    · rw [List.getElem?_set_ne (by omega), List.getElem?_set_self (by omega)]
    · rw [List.getElem?_set_self (by simp; omega)]
  · obtain ⟨u, v, q0, q1, q2, q3⟩ := h i (by omega)
    have r2 := q2.below hb (Nat.le_refl _)
    have r3 := q3.below hb (Nat.le_refl _)
    refine ⟨u, v, ?_, ?_, (r2.grown hg (Or.inr (r2.napart hrow))).up, (r3.grown hg (Or.inr (r3.napart hrow))).up⟩
    · rw [List.getElem?_set_ne (by omega), List.getElem?_set_ne (by omega)]; exact q0
    · rw [List.getElem?_set_ne (by omega), List.getElem?_set_ne (by omega)]; exact q1
theorem Cop.rdt {w : World} {B g n c : Nat} {ts : List Tp} {cs : List Value} (h : Cop w B ts cs n) (hrow : w.ownsRow B 97 2 (.slice (some ⟨g, 0, none⟩) n c) n cs) (hn : n = ts.length) (hl : ts.length ≤ 1048576) : RdT w (.slice (some ⟨g, 0, none⟩) n c) ts := by
  subst hn
  have hcs : cs.length = ts.length * 2 := by have := hrow.1; omega
  have hlt := (hrow.lt g rfl).2
  have hc : ts.length ≤ c := by
    rcases hrow.2 with ⟨hv, _⟩ | ⟨g2, c2, cur2, hv, _, _, hh, _⟩
    · cases hv
    · cases hv; exact hh
  refine ⟨hl, _, _, rfl, hc, fun hne => ⟨g, 0, rfl, hlt, fun i hi => ?_⟩⟩
  obtain ⟨x, y, q0, q1, q2, q3⟩ := h i hi
  refine ⟨x, y, ?_, ?_, q2.rd, q3.rd⟩
  · rw [Nat.zero_add, hrow.cellAt _ (by omega)]; exact q0
  · rw [Nat.zero_add, hrow.cellAt _ (by omega)]; exact q1
/-- A row of rewriting rules of the call's own, with all that lies below it. -/
def OwT (w : World) (B : Nat) (v : Value) (ts : List Tp) : Prop :=
  ts.length ≤ 1048576 ∧ ∃ g c cs, v = .slice (some ⟨g, 0, none⟩) ts.length c ∧ w.ownsRow B 97 2 (.slice (some ⟨g, 0, none⟩) ts.length c) ts.length cs ∧ Cop w B ts cs ts.length
theorem OwT.rdt {w : World} {B : Nat} {v : Value} {ts : List Tp} (h : OwT w B v ts) : RdT w v ts := by
  obtain ⟨hl, g, c, cs, rfl, ho, hc⟩ := h
  exact hc.rdt ho rfl hl
theorem OwT.apart {w : World} {B g' : Nat} {v : Value} {ts : List Tp} (h : OwT w B v ts) (hg : g' < B) (j : Nat) (x : Value) : OwT (w.setCell ⟨g', j, none⟩ x) B v ts := by
  obtain ⟨hl, g, c, cs, rfl, ho, hc⟩ := h
  have hB := (ho.lt g rfl).1
  refine ⟨hl, g, c, cs, rfl, ho.kept (put1g w g' j x) (.inr (fun e => by have e2 : g = g' := Option.some.inj e; omega)), fun i hi => ?_⟩
  obtain ⟨u, v, q0, q1, q2, q3⟩ := hc i hi
  exact ⟨u, v, q0, q1, (q2.apartCell hg j x).up, (q3.apartCell hg j x).up⟩
set_option maxHeartbeats 1000000 in
theorem eqTapes (u v : Value) (ts : List Tp) (w : World) (hu : RdT w u ts) (hv : RdT w v ts) :
    Calls Tryd.prog 23 #[u, v] w fun e w' => e = .returned (.bool true) ∧ Below w.heap.size w w' := by
  obtain ⟨hl, a, c, rfl, hcap, hr⟩ := hu
  obtain ⟨_, a', c', rfl, _, hr'⟩ := hv
  go_enter Tryd.func23, Tryd.ntmps23
  go_wp2
  go_loopw [5] (fun s wr => ∃ k : Nat, k ≤ ts.length ∧ s = .int .i64 k ∧ Below w.heap.size w wr) (fun s _ => ts.length - (intOf s).toNat)
  case atStart => exact ⟨0, Nat.zero_le _, rfl, Below.refl _ _⟩
  case round =>
    obtain ⟨k, hk, rfl, hbel⟩ := hrel
    by_cases hlt : k < ts.length
    · obtain ⟨b, o, rfl, hb, hcell⟩ := hr (by intro h0; rw [h0] at hlt; simp at hlt)
      obtain ⟨b', o', rfl, hb', hcell'⟩ := hr' (by intro h0; rw [h0] at hlt; simp at hlt)
      obtain ⟨x, y, c0, c1, hx, hy⟩ := hcell k hlt
      obtain ⟨x', y', d0, d1, hx', hy'⟩ := hcell' k hlt
      replace c0 := (hbel.cell (p := ⟨b, o + k * 2, none⟩) hb).trans c0
      replace c1 := (hbel.cell (p := ⟨b, o + k * 2 + 1, none⟩) hb).trans c1
      replace d0 := (hbel.cell (p := ⟨b', o' + k * 2, none⟩) hb').trans d0
      replace d1 := (hbel.cell (p := ⟨b', o' + k * 2 + 1, none⟩) hb').trans d1
      have HX := Lib.hid (hx.below hbel (Nat.le_refl _))
      have HY := Lib.hid (hy.below hbel (Nat.le_refl _))
      have HX' := Lib.hid (hx'.below hbel (Nat.le_refl _))
      have HY' := Lib.hid (hy'.below hbel (Nat.le_refl _))
      have HB := Lib.hid hbel
      have i0 : (0 : Int) ≤ (k : Int) := by omega
      have i1 : (k : Int) < (ts.length : Int) := by omega
      have HC : Hid (∀ W, Below wr.heap.size wr W → (W.cell? ⟨b, o + k * 2, none⟩ = some x ∧ W.cell? ⟨b, o + k * 2 + 1, none⟩ = some y) ∧ (W.cell? ⟨b', o' + k * 2, none⟩ = some x' ∧ W.cell? ⟨b', o' + k * 2 + 1, none⟩ = some y')) := Lib.hid (fun W hW => by
        have hb1 : b < wr.heap.size := World.block_lt_of_cell? wr _ c0
        have hb2 : b' < wr.heap.size := World.block_lt_of_cell? wr _ d0
        exact ⟨⟨(hW.cell (p := ⟨b, o + k * 2, none⟩) hb1).trans c0, (hW.cell (p := ⟨b, o + k * 2 + 1, none⟩) hb1).trans c1⟩, (hW.cell (p := ⟨b', o' + k * 2, none⟩) hb2).trans d0, (hW.cell (p := ⟨b', o' + k * 2 + 1, none⟩) hb2).trans d1⟩)
      have HXX : Hid (Below wr.heap.size wr wr.drew) := Lib.hid (Below.refl _ _).drew
      have HW : Hid (Below w.heap.size w wr.drew) := Lib.hid HB.out.drew
      clear hcell hcell' hr hr' hbel hx hy hx' hy' c0 c1 d0 d1
      go_wp2_with fail
      go_region_held3 (fun w' => (w'.cell? ⟨b, o + k * 2, none⟩ = some x ∧ w'.cell? ⟨b, o + k * 2 + 1, none⟩ = some y) ∧ (w'.cell? ⟨b', o' + k * 2, none⟩ = some x' ∧ w'.cell? ⟨b', o' + k * 2 + 1, none⟩ = some y'))
        (exact HC.out _ HXX.out)
        (first | (go_at_call 74; refine (eqTape _ _ _ _ _ _ _ (HX.out.below HXX.out (Nat.le_refl _)) (HX'.out.below HXX.out (Nat.le_refl _)) (HY.out.below HXX.out (Nat.le_refl _)) (HY'.out.below HXX.out (Nat.le_refl _))).mono ?_; rintro e3 w3 ⟨rfl, hb3⟩; replace HW := Lib.hid (HW.out.trans (hb3.mono HW.out.size)); replace HXX := Lib.hid (HXX.out.trans (hb3.mono HXX.out.size)); clear hb3))
      all_goals
        go_wp2
        go_roundw
        case rel => exact ⟨k + 1, by omega, by go_num, HW.out⟩
        case measure => simp [intOf]; omega
    · obtain rfl : k = ts.length := by omega
      have HB := Lib.hid hbel
      clear hbel
      have hnlt : ¬ ((ts.length : Int) < (ts.length : Int)) := by omega
      go_wp2
      go_ret
      exact ⟨rfl, HB.out⟩
end Go.Proofs.YtbigoljfanendaaDoor.Ints
