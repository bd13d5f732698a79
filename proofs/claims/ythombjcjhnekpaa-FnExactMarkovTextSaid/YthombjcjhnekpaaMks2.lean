/- Copies and comparisons of lists of Markov rules. -/
import Derived.Test.YthombjcjhnekpaaMks
import Derived.Deep.RegionHeld3
namespace Go.Proofs.Ythombjcjhnekpaa.Ints
open Go.RowKit
set_option linter.unusedVariables false
set_option linter.unusedSimpArgs false
theorem infoM : (Try.prog.info? 73).map (fun i => (i.zero, i.size, i.bytes)) = some (some (.agg #[.slice none 0 0, .slice none 0 0, .bool false]), 3, 56) := by kernel_rfl
theorem cellKept {w : World} {v : Value} (o : Obj) {p : Addr} (h : w.cell? p = some v) : (w.alloc o).cell? p = some v := cellOld o p h (World.block_lt_of_cell? w _ h)
theorem IsList.alloc {w : World} {a : Option Addr} {len cap : Nat} {zs : List Int} (h : IsList w a len cap zs) (o : Obj) : IsList (w.alloc o) a len cap zs := by
  rcases h with h | ⟨x, h0, h1, h2, h3, h4, h5⟩
  · exact .inl h
  · exact .inr ⟨x, h0, h1, h2, h3, fun i hi => cellKept o (h4 i hi), h5⟩
theorem IsMks.alloc {w : World} {a : Option Addr} {len cap : Nat} {zs : List Min} (h : IsMks w a len cap zs) (o : Obj) : IsMks (w.alloc o) a len cap zs := by
  rcases h with h | ⟨x, h0, h1, h2, h3, h4⟩
  · exact .inl h
  · exact .inr ⟨x, h0, h1, h2, h3, fun i hi => by
      obtain ⟨q0, q1, q3, q2⟩ := h4 i hi
      exact ⟨cellKept o q0, cellKept o q1, cellKept o q3, q2.1.alloc o, q2.2.alloc o⟩⟩
/-- What a store of a tape into a row of the call's own asks and leaves. -/
theorem rowM_open {w w1 : World} {B g c : Nat} {cs : List Value} {k n : Nat} (h : w.ownsRow B 73 3 (.slice (some ⟨g, 0, none⟩) n c) n cs) (hb : Below w.heap.size w w1) (hg : g < w.heap.size) (hk : k < n) (x y z : Value) :
    (∃ u, w1.cell? ⟨g, k * 3, none⟩ = some u) ∧ (∃ u, (w1.setCell ⟨g, k * 3, none⟩ x).cell? ⟨g, k * 3 + 1, none⟩ = some u) ∧ (∃ u, ((w1.setCell ⟨g, k * 3, none⟩ x).setCell ⟨g, k * 3 + 1, none⟩ y).cell? ⟨g, k * 3 + 2, none⟩ = some u) ∧
    (w1.frozen? ⟨g, k * 3, none⟩ = false ∧ (w1.setCell ⟨g, k * 3, none⟩ x).frozen? ⟨g, k * 3 + 1, none⟩ = false ∧ ((w1.setCell ⟨g, k * 3, none⟩ x).setCell ⟨g, k * 3 + 1, none⟩ y).frozen? ⟨g, k * 3 + 2, none⟩ = false) ∧
    (((w1.setCell ⟨g, k * 3, none⟩ x).setCell ⟨g, k * 3 + 1, none⟩ y).setCell ⟨g, k * 3 + 2, none⟩ z).ownsRow B 73 3 (.slice (some ⟨g, 0, none⟩) n c) n (((cs.set (k * 3) x).set (k * 3 + 1) y).set (k * 3 + 2) z) ∧
    w1.grownBy (((w1.setCell ⟨g, k * 3, none⟩ x).setCell ⟨g, k * 3 + 1, none⟩ y).setCell ⟨g, k * 3 + 2, none⟩ z) (some g) ∧ cs.length = n * 3 ∧
    w1.ownsRow B 73 3 (.slice (some ⟨g, 0, none⟩) n c) n cs := by
  have hn : cs.length = n * 3 := by have := h.1; omega
  have h' : w1.ownsRow B 73 3 (.slice (some ⟨g, 0, none⟩) n c) n cs := by
    refine ⟨h.1, ?_⟩
    rcases h.2 with hn | ⟨g', cap, cur, hv, hbb, hgg, rest⟩
    · exact .inl hn
    · refine .inr ⟨g', cap, cur, hv, hbb, ?_, rest⟩
      cases hv
      rw [hb.block g hg]; exact hgg
  obtain ⟨h1, g1⟩ := h'.stored (k * 3) x
  obtain ⟨h2, g2⟩ := h1.stored (k * 3 + 1) y
  obtain ⟨h3, g3⟩ := h2.stored (k * 3 + 2) z
  exact ⟨⟨_, (h'.cellAt _ (by omega)).trans (List.getElem?_eq_getElem (by omega))⟩, ⟨_, (h1.cellAt _ (by omega)).trans (List.getElem?_eq_getElem (by simp; omega))⟩, ⟨_, (h2.cellAt _ (by omega)).trans (List.getElem?_eq_getElem (by simp; omega))⟩, ⟨h'.frozenAt _, h1.frozenAt _, h2.frozenAt _⟩, h3, grown_trans (grown_trans g1 g2) g3, hn, h'⟩
/-- A row of numbers and a row of Markov rules lie in different blocks. -/
theorem Ow.mapart {w : World} {B T B' g n c : Nat} {v : Value} {zs : List Int} {cs : List Value} (h : Ow w B T v zs) (k : w.ownsRow B' 73 3 (.slice (some ⟨g, 0, none⟩) n c) n cs) : v.ownBlock ≠ some g := by
  intro e
  rcases h.row.2 with ⟨rfl, _⟩ | ⟨g1, c1, cur1, rfl, _, hg1, _⟩
  · cases e
  · cases e
    rcases k.2 with ⟨hv, _⟩ | ⟨g2, c2, cur2, hv, _, hg2, _⟩
    · cases hv
    · cases hv
      rw [hg1] at hg2
      simp only [Option.some.injEq, Obj.cells.injEq] at hg2
      exact absurd hg2.2.1 (by decide)
/-- The first k tapes of a row are copied. -/
def Com (w : World) (B : Nat) (ts : List Mk) (cs : List Value) (k : Nat) : Prop :=
  ∀ i, i < k → ∃ x y, cs[i * 3]? = some x ∧ cs[i * 3 + 1]? = some y ∧ cs[i * 3 + 2]? = some (.bool (ts.getD i mk0).b) ∧ Ow w B w.heap.size x (ts.getD i mk0).l ∧ Ow w B w.heap.size y (ts.getD i mk0).r
theorem Com.step {w w1 : World} {B g n c k : Nat} {ts : List Mk} {cs : List Value} {x y : Value} (h : Com w B ts cs k) (hb : Below w.heap.size w w1) (hrow : w1.ownsRow B 73 3 (.slice (some ⟨g, 0, none⟩) n c) n cs) (hk : k < n) (hl : cs.length = n * 3)
    (h0 : Ow w1 w.heap.size w1.heap.size x (ts.getD k mk0).l) (h1 : Ow w1 w.heap.size w1.heap.size y (ts.getD k mk0).r) {bb : Bool} (h2 : bb = (ts.getD k mk0).b) (hB : B ≤ w.heap.size) {W : World} (hg : w1.grownBy W (some g)) :
    Com W B ts (((cs.set (k * 3) x).set (k * 3 + 1) y).set (k * 3 + 2) (.bool bb)) (k + 1) := by
  intro i hi
  by_cases e : i = k
  · subst e
    refine ⟨x, y, ?_, ?_, ?_, (h0.grown hg (Or.inr (h0.mapart hrow))).up.mono hB (Nat.le_refl _) (Nat.le_refl _), (h1.grown hg (Or.inr (h1.mapart hrow))).up.mono hB (Nat.le_refl _) (Nat.le_refl _)⟩
    · rw [List.getElem?_set_ne (by omega), List.getElem?_set_ne (by omega), List.getElem?_set_self (by omega)]
    · rw [List.getElem?_set_ne (by omega), List.getElem?_set_self (by simp; omega)]
    · rw [List.getElem?_set_self (by simp; omega), h2]
  · obtain ⟨u, v, q0, q1, q4, q2, q3⟩ := h i (by omega)
    have r2 := q2.below hb (Nat.le_refl _)
    have r3 := q3.below hb (Nat.le_refl _)
    refine ⟨u, v, ?_, ?_, ?_, (r2.grown hg (Or.inr (r2.mapart hrow))).up, (r3.grown hg (Or.inr (r3.mapart hrow))).up⟩
    · rw [List.getElem?_set_ne (by omega), List.getElem?_set_ne (by omega), List.getElem?_set_ne (by omega)]; exact q0
    · rw [List.getElem?_set_ne (by omega), List.getElem?_set_ne (by omega), List.getElem?_set_ne (by omega)]; exact q1
    · rw [List.getElem?_set_ne (by omega), List.getElem?_set_ne (by omega), List.getElem?_set_ne (by omega)]; exact q4
theorem Com.rdm {w : World} {B g n c : Nat} {ts : List Mk} {cs : List Value} (h : Com w B ts cs n) (hrow : w.ownsRow B 73 3 (.slice (some ⟨g, 0, none⟩) n c) n cs) (hn : n = ts.length) (hl : ts.length ≤ 1048576) : RdM w (.slice (some ⟨g, 0, none⟩) n c) ts := by
  subst hn
  have hcs : cs.length = ts.length * 3 := by have := hrow.1; omega
  have hlt := (hrow.lt g rfl).2
  have hc : ts.length ≤ c := by
    rcases hrow.2 with ⟨hv, _⟩ | ⟨g2, c2, cur2, hv, _, _, hh, _⟩
    · cases hv
    · cases hv; exact hh
  refine ⟨hl, _, _, rfl, hc, fun hne => ⟨g, 0, rfl, hlt, fun i hi => ?_⟩⟩
  obtain ⟨x, y, q0, q1, q4, q2, q3⟩ := h i hi
  refine ⟨x, y, ?_, ?_, ?_, q2.rd, q3.rd⟩
  · rw [Nat.zero_add, hrow.cellAt _ (by omega)]; exact q0
  · rw [Nat.zero_add, hrow.cellAt _ (by omega)]; exact q1
  · rw [Nat.zero_add, hrow.cellAt _ (by omega)]; exact q4
/-- A row of Markov rules of the call's own, with all that lies below it. -/
def OwM (w : World) (B : Nat) (v : Value) (ts : List Mk) : Prop :=
  ts.length ≤ 1048576 ∧ ∃ g c cs, v = .slice (some ⟨g, 0, none⟩) ts.length c ∧ w.ownsRow B 73 3 (.slice (some ⟨g, 0, none⟩) ts.length c) ts.length cs ∧ Com w B ts cs ts.length
theorem OwM.rdm {w : World} {B : Nat} {v : Value} {ts : List Mk} (h : OwM w B v ts) : RdM w v ts := by
  obtain ⟨hl, g, c, cs, rfl, ho, hc⟩ := h
  exact hc.rdm ho rfl hl
theorem OwM.apart {w : World} {B g' : Nat} {v : Value} {ts : List Mk} (h : OwM w B v ts) (hg : g' < B) (j : Nat) (x : Value) : OwM (w.setCell ⟨g', j, none⟩ x) B v ts := by
  obtain ⟨hl, g, c, cs, rfl, ho, hc⟩ := h
  have hB := (ho.lt g rfl).1
  refine ⟨hl, g, c, cs, rfl, ho.kept (put1g w g' j x) (.inr (fun e => by have e2 : g = g' := Option.some.inj e; omega)), fun i hi => ?_⟩
  obtain ⟨u, v, q0, q1, q4, q2, q3⟩ := hc i hi
  exact ⟨u, v, q0, q1, q4, (q2.apartCell hg j x).up, (q3.apartCell hg j x).up⟩
set_option maxHeartbeats 2000000 in
theorem toMks (v : Value) (ts : List Mk) (w : World) (h : RdM w v ts) :
    Calls Try.prog 24 #[v] w fun e w' => ∃ u, e = .returned u ∧ OwM w' w.heap.size u ts ∧ Below w.heap.size w w' := by
  have H := Lib.hid h
  obtain ⟨hl, a, c, rfl, hcap, hr⟩ := h
  obtain ⟨i0, hi, hz0, hz1, hz2⟩ := info_parts infoM
  go_enter Try.func24, Try.ntmps24
  go_wp2_with (at_make; refine wpList_make_full _ rfl _ _ 39 rfl w.heap.size 73 i0 (.agg #[.slice none 0 0, .slice none 0 0, .bool false]) 3 Try.underlying39 hi hz0 hz1 _ _ _ _ ts.length rfl rfl rfl rfl ?b2 ?b3 (Nat.le_refl _) ?_)
  case b2 => rw [hz2]; omega
  case b3 => unfold maxLen; omega
  intro w0 hown0 hgrow0
  have HO : Hid (∃ cs, w0.ownsRow w.heap.size 73 3 (.slice (some ⟨w.heap.size, 0, none⟩) ts.length ts.length) ts.length cs) := Lib.hid ⟨_, hown0⟩
  have HG := Lib.hid hgrow0
  clear hown0 hgrow0
  go_wp2
  go_loopw [4] (fun s wr => ∃ (k : Nat) (cs : List Value), k ≤ ts.length ∧ s = .int .i64 k ∧ w.heap.size < wr.heap.size ∧
      wr.ownsRow w.heap.size 73 3 (.slice (some ⟨w.heap.size, 0, none⟩) ts.length ts.length) ts.length cs ∧ Com wr w.heap.size ts cs k ∧ Below w.heap.size w wr)
    (fun s _ => ts.length - (intOf s).toNat)
  case atStart =>
    obtain ⟨cs, ho⟩ := HO.out
    exact ⟨0, cs, Nat.zero_le _, rfl, (ho.lt _ rfl).2, ho, fun i hi => by omega, (Below.refl _ _).grown HG.out (Nat.le_refl _) (fun k h => by cases h)⟩
  case round =>
    obtain ⟨k, cs, hk, rfl, hsz, hown, hcop, hbel⟩ := hrel
    by_cases hlt : k < ts.length
    · obtain ⟨b, o, rfl, hb, hcell⟩ := hr (by intro h0; rw [h0] at hlt; simp at hlt)
      obtain ⟨x, y, c0, c1, c2, hx, hy⟩ := hcell k hlt
      replace c0 := (hbel.cell (p := ⟨b, o + k * 3, none⟩) hb).trans c0
      replace c1 := (hbel.cell (p := ⟨b, o + k * 3 + 1, none⟩) hb).trans c1
      replace c2 := (hbel.cell (p := ⟨b, o + k * 3 + 2, none⟩) hb).trans c2
      obtain ⟨bb, hbb⟩ : ∃ x, x = (ts.getD k mk0).b := ⟨_, rfl⟩
      rw [← hbb] at c2
      have HBB := Lib.hid hbb
      clear hbb
      have HX := Lib.hid (hx.below hbel (Nat.le_refl _))
      have HY := Lib.hid (hy.below hbel (Nat.le_refl _))
      obtain ⟨_, _, ax, cx, rfl, _, _⟩ := hx
      obtain ⟨_, _, ay, cy, rfl, _, _⟩ := hy
      obtain ⟨tl, htl⟩ : ∃ t, t = (ts.getD k mk0).l := ⟨_, rfl⟩
      obtain ⟨t2, ht2⟩ : ∃ t, t = (ts.getD k mk0).r := ⟨_, rfl⟩
      rw [← htl] at HX c0
      rw [← ht2] at HY c1
      have HTL := Lib.hid htl
      have HT2 := Lib.hid ht2
      have HB := Lib.hid hbel
      have HW := Lib.hid hown
      have HC := Lib.hid hcop
      have i0 : (0 : Int) ≤ (k : Int) := by omega
      have i1 : (k : Int) < (ts.length : Int) := by omega
      clear hown hbel hcell hr HO HG htl ht2 hcop
      go_wp2_with fail
      refine (toMk bb _ tl _ t2 _ HX.out HY.out).mono ?_
      rintro e w1 ⟨u1, u2, rfl, ho1, ho2, hsep, hb1⟩
      obtain ⟨a1, q1, h1⟩ := ho1.shape
      obtain ⟨a2, q2, h2⟩ := ho2.shape
      subst h1
      subst h2
      obtain ⟨⟨z0, d0⟩, ⟨z1, d1⟩, ⟨z2, d2⟩, ⟨e0, e1, e2⟩, hs1, hs2, hln, hrow⟩ := rowM_open (k := k) HW.out hb1 hsz hlt (.slice a1 tl.length q1) (.slice a2 t2.length q2) (.bool bb)
      have HS1 := Lib.hid hs1
      have HS3 := Lib.hid (HC.out.step hb1 hrow hlt hln (by rw [← HTL.out]; exact ho1) (by rw [← HT2.out]; exact ho2) HBB.out HB.out.size hs2)
      have HS2 : Hid (Below w.heap.size w _) := Lib.hid ((HB.out.trans (hb1.mono HB.out.size)).grown hs2 (Nat.le_trans HB.out.size hb1.size) (fun q hq => by cases hq; exact Nat.le_refl _))
      have HSZ : Hid (w.heap.size < w1.heap.size) := Lib.hid (Nat.lt_of_lt_of_le hsz hb1.size)
      clear hs1 hs2 hb1 c0 c1 c2 ho1 ho2 hsep hrow hln
      go_wp2
      go_roundw
      case rel => exact ⟨k + 1, _, by omega, by go_num, by simpa using HSZ.out, HS1.out, HS3.out, HS2.out⟩
      case measure => simp [intOf]; omega
    · obtain rfl : k = ts.length := by omega
      have HS : Hid (OwM wr w.heap.size (.slice (some ⟨w.heap.size, 0, none⟩) ts.length ts.length) ts) := Lib.hid ⟨hl, _, _, cs, rfl, hown, hcop⟩
      have HB := Lib.hid hbel
      clear hown hbel hcop
      go_wp2
      go_ret
      exact ⟨_, rfl, HS.out, HB.out⟩
set_option maxHeartbeats 1000000 in
theorem eqMks (u v : Value) (ts : List Mk) (w : World) (hu : RdM w u ts) (hv : RdM w v ts) :
    Calls Try.prog 26 #[u, v] w fun e w' => e = .returned (.bool true) ∧ Below w.heap.size w w' := by
  obtain ⟨hl, a, c, rfl, hcap, hr⟩ := hu
  obtain ⟨_, a', c', rfl, _, hr'⟩ := hv
  go_enter Try.func26, Try.ntmps26
  go_wp2
  go_loopw [5] (fun s wr => ∃ k : Nat, k ≤ ts.length ∧ s = .int .i64 k ∧ Below w.heap.size w wr) (fun s _ => ts.length - (intOf s).toNat)
  case atStart => exact ⟨0, Nat.zero_le _, rfl, Below.refl _ _⟩
  case round =>
    obtain ⟨k, hk, rfl, hbel⟩ := hrel
    by_cases hlt : k < ts.length
    · obtain ⟨b, o, rfl, hb, hcell⟩ := hr (by intro h0; rw [h0] at hlt; simp at hlt)
      obtain ⟨b', o', rfl, hb', hcell'⟩ := hr' (by intro h0; rw [h0] at hlt; simp at hlt)
      obtain ⟨x, y, c0, c1, c2, hx, hy⟩ := hcell k hlt
      obtain ⟨x', y', d0, d1, d2, hx', hy'⟩ := hcell' k hlt
      replace c0 := (hbel.cell (p := ⟨b, o + k * 3, none⟩) hb).trans c0
      replace c1 := (hbel.cell (p := ⟨b, o + k * 3 + 1, none⟩) hb).trans c1
      replace c2 := (hbel.cell (p := ⟨b, o + k * 3 + 2, none⟩) hb).trans c2
      replace d0 := (hbel.cell (p := ⟨b', o' + k * 3, none⟩) hb').trans d0
      replace d1 := (hbel.cell (p := ⟨b', o' + k * 3 + 1, none⟩) hb').trans d1
      replace d2 := (hbel.cell (p := ⟨b', o' + k * 3 + 2, none⟩) hb').trans d2
      obtain ⟨bb, hbb⟩ : ∃ x, x = (ts.getD k mk0).b := ⟨_, rfl⟩
      rw [← hbb] at c2 d2
      clear hbb
      have HX := Lib.hid (hx.below hbel (Nat.le_refl _))
      have HY := Lib.hid (hy.below hbel (Nat.le_refl _))
      have HX' := Lib.hid (hx'.below hbel (Nat.le_refl _))
      have HY' := Lib.hid (hy'.below hbel (Nat.le_refl _))
      have HB := Lib.hid hbel
      have i0 : (0 : Int) ≤ (k : Int) := by omega
      have i1 : (k : Int) < (ts.length : Int) := by omega
      have HC : Hid (∀ W, Below wr.heap.size wr W → (W.cell? ⟨b, o + k * 3, none⟩ = some x ∧ W.cell? ⟨b, o + k * 3 + 1, none⟩ = some y ∧ W.cell? ⟨b, o + k * 3 + 2, none⟩ = some (.bool bb)) ∧ (W.cell? ⟨b', o' + k * 3, none⟩ = some x' ∧ W.cell? ⟨b', o' + k * 3 + 1, none⟩ = some y' ∧ W.cell? ⟨b', o' + k * 3 + 2, none⟩ = some (.bool bb))) := Lib.hid (fun W hW => by
        have hb1 : b < wr.heap.size := World.block_lt_of_cell? wr _ c0
        have hb2 : b' < wr.heap.size := World.block_lt_of_cell? wr _ d0
        exact ⟨⟨(hW.cell (p := ⟨b, o + k * 3, none⟩) hb1).trans c0, (hW.cell (p := ⟨b, o + k * 3 + 1, none⟩) hb1).trans c1, (hW.cell (p := ⟨b, o + k * 3 + 2, none⟩) hb1).trans c2⟩, (hW.cell (p := ⟨b', o' + k * 3, none⟩) hb2).trans d0, (hW.cell (p := ⟨b', o' + k * 3 + 1, none⟩) hb2).trans d1, (hW.cell (p := ⟨b', o' + k * 3 + 2, none⟩) hb2).trans d2⟩)
      have HXX : Hid (Below wr.heap.size wr wr.drew) := Lib.hid (Below.refl _ _).drew
      have HW : Hid (Below w.heap.size w wr.drew) := Lib.hid HB.out.drew
      clear hcell hcell' hr hr' hbel hx hy hx' hy' c0 c1 d0 d1 c2 d2
      go_wp2_with fail
      go_region_held3 (fun w' => (w'.cell? ⟨b, o + k * 3, none⟩ = some x ∧ w'.cell? ⟨b, o + k * 3 + 1, none⟩ = some y ∧ w'.cell? ⟨b, o + k * 3 + 2, none⟩ = some (.bool bb)) ∧ (w'.cell? ⟨b', o' + k * 3, none⟩ = some x' ∧ w'.cell? ⟨b', o' + k * 3 + 1, none⟩ = some y' ∧ w'.cell? ⟨b', o' + k * 3 + 2, none⟩ = some (.bool bb)))
        (exact HC.out _ HXX.out)
        (first | (go_at_call 61; refine (eqMk bb _ _ _ _ _ _ _ (HX.out.below HXX.out (Nat.le_refl _)) (HX'.out.below HXX.out (Nat.le_refl _)) (HY.out.below HXX.out (Nat.le_refl _)) (HY'.out.below HXX.out (Nat.le_refl _))).mono ?_; rintro e3 w3 ⟨rfl, hb3⟩; replace HW := Lib.hid (HW.out.trans (hb3.mono HW.out.size)); replace HXX := Lib.hid (HXX.out.trans (hb3.mono HXX.out.size)); clear hb3))
      all_goals
        go_wp2
        go_roundw
        case rel => exact ⟨k + 1, by omega, by go_num, HW.out⟩
        case measure => simp [intOf]; omega
    · obtain rfl : k = ts.length := by omega
      have HB := Lib.hid hbel
      clear hbel
      have hnlt : ¬ ((ts.length : Int) < (ts.length : Int)) := by omega
      go_wp2
      go_ret
      exact ⟨rfl, HB.out⟩
end Go.Proofs.Ythombjcjhnekpaa.Ints
