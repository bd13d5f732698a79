/- Rows of rules of machines with several tapes: copies and comparisons; the machines. -/
import Derived.Test.YtepdjlhlcjkdkaaJrs2
namespace Go.Proofs.Ytepdjlhlcjkdkaa.Ints
open Go.RowKit
set_option linter.unusedVariables false
set_option linter.unusedSimpArgs false
/-- What a store of a rule into a row of the call's own asks and leaves. -/
theorem rowJ_open {w w1 : World} {B g c : Nat} {cs : List Value} {k n : Nat} (h : w.ownsRow B 100 5 (.slice (some ⟨g, 0, none⟩) n c) n cs) (hb : Below w.heap.size w w1) (hg : g < w.heap.size) (hk : k < n) (v0 v1 v2 v3 v4 : Value) :
    (∃ u, w1.cell? ⟨g, k * 5, none⟩ = some u) ∧ w1.frozen? ⟨g, k * 5, none⟩ = false ∧
    (∃ u, (w1.setCell ⟨g, k * 5, none⟩ v0).cell? ⟨g, k * 5 + 1, none⟩ = some u) ∧ (w1.setCell ⟨g, k * 5, none⟩ v0).frozen? ⟨g, k * 5 + 1, none⟩ = false ∧
    (∃ u, ((w1.setCell ⟨g, k * 5, none⟩ v0).setCell ⟨g, k * 5 + 1, none⟩ v1).cell? ⟨g, k * 5 + 2, none⟩ = some u) ∧ ((w1.setCell ⟨g, k * 5, none⟩ v0).setCell ⟨g, k * 5 + 1, none⟩ v1).frozen? ⟨g, k * 5 + 2, none⟩ = false ∧
    (∃ u, (((w1.setCell ⟨g, k * 5, none⟩ v0).setCell ⟨g, k * 5 + 1, none⟩ v1).setCell ⟨g, k * 5 + 2, none⟩ v2).cell? ⟨g, k * 5 + 3, none⟩ = some u) ∧ (((w1.setCell ⟨g, k * 5, none⟩ v0).setCell ⟨g, k * 5 + 1, none⟩ v1).setCell ⟨g, k * 5 + 2, none⟩ v2).frozen? ⟨g, k * 5 + 3, none⟩ = false ∧
    (∃ u, ((((w1.setCell ⟨g, k * 5, none⟩ v0).setCell ⟨g, k * 5 + 1, none⟩ v1).setCell ⟨g, k * 5 + 2, none⟩ v2).setCell ⟨g, k * 5 + 3, none⟩ v3).cell? ⟨g, k * 5 + 4, none⟩ = some u) ∧ ((((w1.setCell ⟨g, k * 5, none⟩ v0).setCell ⟨g, k * 5 + 1, none⟩ v1).setCell ⟨g, k * 5 + 2, none⟩ v2).setCell ⟨g, k * 5 + 3, none⟩ v3).frozen? ⟨g, k * 5 + 4, none⟩ = false ∧
    (((((w1.setCell ⟨g, k * 5, none⟩ v0).setCell ⟨g, k * 5 + 1, none⟩ v1).setCell ⟨g, k * 5 + 2, none⟩ v2).setCell ⟨g, k * 5 + 3, none⟩ v3).setCell ⟨g, k * 5 + 4, none⟩ v4).ownsRow B 100 5 (.slice (some ⟨g, 0, none⟩) n c) n (((((cs.set (k * 5) v0).set (k * 5 + 1) v1).set (k * 5 + 2) v2).set (k * 5 + 3) v3).set (k * 5 + 4) v4) ∧
    w1.grownBy (((((w1.setCell ⟨g, k * 5, none⟩ v0).setCell ⟨g, k * 5 + 1, none⟩ v1).setCell ⟨g, k * 5 + 2, none⟩ v2).setCell ⟨g, k * 5 + 3, none⟩ v3).setCell ⟨g, k * 5 + 4, none⟩ v4) (some g) ∧ cs.length = n * 5 ∧
    w1.ownsRow B 100 5 (.slice (some ⟨g, 0, none⟩) n c) n cs := by
  have hn : cs.length = n * 5 := by have := h.1; omega
  have h' : w1.ownsRow B 100 5 (.slice (some ⟨g, 0, none⟩) n c) n cs := by
    refine ⟨h.1, ?_⟩
    rcases h.2 with hn | ⟨g', cap, cur, hv, hbb, hgg, rest⟩
    · exact .inl hn
    · refine .inr ⟨g', cap, cur, hv, hbb, ?_, rest⟩
      cases hv
      rw [hb.block g hg]; exact hgg
  obtain ⟨h1, g1⟩ := h'.stored (k * 5) v0
  obtain ⟨h2, g2⟩ := h1.stored (k * 5 + 1) v1
  obtain ⟨h3, g3⟩ := h2.stored (k * 5 + 2) v2
  obtain ⟨h4, g4⟩ := h3.stored (k * 5 + 3) v3
  obtain ⟨h5, g5⟩ := h4.stored (k * 5 + 4) v4
  exact ⟨⟨_, (h'.cellAt _ (by omega)).trans (List.getElem?_eq_getElem (by omega))⟩, h'.frozenAt _, ⟨_, (h1.cellAt _ (by omega)).trans (List.getElem?_eq_getElem (by simp; omega))⟩, h1.frozenAt _,
    ⟨_, (h2.cellAt _ (by omega)).trans (List.getElem?_eq_getElem (by simp; omega))⟩, h2.frozenAt _, ⟨_, (h3.cellAt _ (by omega)).trans (List.getElem?_eq_getElem (by simp; omega))⟩, h3.frozenAt _,
    ⟨_, (h4.cellAt _ (by omega)).trans (List.getElem?_eq_getElem (by simp; omega))⟩, h4.frozenAt _, h5, grown_trans (grown_trans (grown_trans (grown_trans g1 g2) g3) g4) g5, hn, h'⟩
theorem Ow.jpart {w : World} {B T B' g n c : Nat} {v : Value} {zs : List Int} {cs : List Value} (h : Ow w B T v zs) (k : w.ownsRow B' 100 5 (.slice (some ⟨g, 0, none⟩) n c) n cs) : v.ownBlock ≠ some g := by
  intro e
  rcases h.row.2 with ⟨rfl, _⟩ | ⟨g1, c1, cur1, rfl, _, hg1, _⟩
  · cases e
  · cases e
    rcases k.2 with ⟨hv, _⟩ | ⟨g2, c2, cur2, hv, _, hg2, _⟩
    · cases hv
    · cases hv
      rw [hg1] at hg2
      simp only [Option.some.injEq, Obj.cells.injEq] at hg2
      exact absurd hg2.2.1 (by decide)
/-- The first k rules of a row are copied. -/
def Coj (w : World) (B : Nat) (ms : List Mr) (cs : List Value) (k : Nat) : Prop :=
  ∀ i, i < k → ∃ x y z, cs[i * 5]? = some (.int .i64 (ms.getD i mr0).st) ∧ cs[i * 5 + 1]? = some x ∧ cs[i * 5 + 2]? = some y ∧ cs[i * 5 + 3]? = some z ∧ cs[i * 5 + 4]? = some (.int .i64 (ms.getD i mr0).nx) ∧
    Ow w B w.heap.size x (ms.getD i mr0).rd ∧ Ow w B w.heap.size y (ms.getD i mr0).wr ∧ Ow w B w.heap.size z (ms.getD i mr0).mv
theorem set5_old {cs : List Value} {k i j : Nat} {v0 v1 v2 v3 v4 : Value} (hi : i < k) (hj : j < 5) : (((((cs.set (k * 5) v0).set (k * 5 + 1) v1).set (k * 5 + 2) v2).set (k * 5 + 3) v3).set (k * 5 + 4) v4)[i * 5 + j]? = cs[i * 5 + j]? := by
  rw [List.getElem?_set_ne (by omega), List.getElem?_set_ne (by omega), List.getElem?_set_ne (by omega), List.getElem?_set_ne (by omega), List.getElem?_set_ne (by omega)]
theorem Coj.step {w w1 : World} {B g n c k : Nat} {ms : List Mr} {cs : List Value} {x y z : Value} (h : Coj w B ms cs k) (hb : Below w.heap.size w w1) (hrow : w1.ownsRow B 100 5 (.slice (some ⟨g, 0, none⟩) n c) n cs) (hk : k < n) (hl : cs.length = n * 5)
    (h0 : Ow w1 w.heap.size w1.heap.size x (ms.getD k mr0).rd) (h1 : Ow w1 w.heap.size w1.heap.size y (ms.getD k mr0).wr) (h2 : Ow w1 w.heap.size w1.heap.size z (ms.getD k mr0).mv) (hB : B ≤ w.heap.size) {W : World} (hg : w1.grownBy W (some g)) :
    Coj W B ms (((((cs.set (k * 5) (.int .i64 (ms.getD k mr0).st)).set (k * 5 + 1) x).set (k * 5 + 2) y).set (k * 5 + 3) z).set (k * 5 + 4) (.int .i64 (ms.getD k mr0).nx)) (k + 1) := by
  intro i hi
  by_cases e : i = k
  · subst e
    have up : ∀ {v : Value} {r : List Int}, Ow w1 w.heap.size w1.heap.size v r → Ow W B W.heap.size v r := fun h => (h.grown hg (Or.inr (h.jpart hrow))).up.mono hB (Nat.le_refl _) (Nat.le_refl _)
    refine ⟨x, y, z, ?_, ?_, ?_, ?_, ?_, up h0, up h1, up h2⟩
    · rw [List.getElem?_set_ne (by omega), List.getElem?_set_ne (by omega), List.getElem?_set_ne (by omega), List.getElem?_set_ne (by omega), List.getElem?_set_self (by omega)]
    · rw [List.getElem?_set_ne (by omega), List.getElem?_set_ne (by omega), List.getElem?_set_ne (by omega), List.getElem?_set_self (by simp; omega)]
    · rw [List.getElem?_set_ne (by omega), List.getElem?_set_ne (by omega), List.getElem?_set_self (by simp; omega)]
    · rw [List.getElem?_set_ne (by omega), List.getElem?_set_self (by simp; omega)]
    · rw [List.getElem?_set_self (by simp; omega)]
  · obtain ⟨u, v, t, q0, q1, q2, q3, q4, r1, r2, r3⟩ := h i (by omega)
    have up : ∀ {v : Value} {r : List Int}, Ow w B w.heap.size v r → Ow W B W.heap.size v r := fun h => ((h.below hb (Nat.le_refl _)).grown hg (Or.inr ((h.below hb (Nat.le_refl _)).jpart hrow))).up
    have hik : i < k := by omega
    exact ⟨u, v, t, (set5_old (j := 0) hik (by omega)).trans q0, (set5_old hik (by omega)).trans q1, (set5_old hik (by omega)).trans q2, (set5_old hik (by omega)).trans q3, (set5_old hik (by omega)).trans q4, up r1, up r2, up r3⟩
theorem Coj.rdm {w : World} {B g n c : Nat} {ms : List Mr} {cs : List Value} (h : Coj w B ms cs n) (hrow : w.ownsRow B 100 5 (.slice (some ⟨g, 0, none⟩) n c) n cs) (hn : n = ms.length) (hl : ms.length ≤ 1048576) : RdM w (.slice (some ⟨g, 0, none⟩) n c) ms := by
  subst hn
  have hcs : cs.length = ms.length * 5 := by have := hrow.1; omega
  have hlt := (hrow.lt g rfl).2
  have hc : ms.length ≤ c := by
    rcases hrow.2 with ⟨hv, _⟩ | ⟨g2, c2, cur2, hv, _, _, hh, _⟩
    · cases hv
    · cases hv; exact hh
  refine ⟨hl, _, _, rfl, hc, fun hne => ⟨g, 0, rfl, hlt, fun i hi => ?_⟩⟩
  obtain ⟨x, y, z, q0, q1, q2, q3, q4, r1, r2, r3⟩ := h i hi
  refine ⟨x, y, z, ?_, ?_, ?_, ?_, ?_, r1.rd, r2.rd, r3.rd⟩ <;> (rw [Nat.zero_add, hrow.cellAt _ (by omega)]; assumption)
/-- A row of rules of the call's own, with all that lies below it. -/
def OwM (w : World) (B : Nat) (v : Value) (ms : List Mr) : Prop :=
  ms.length ≤ 1048576 ∧ ∃ g c cs, v = .slice (some ⟨g, 0, none⟩) ms.length c ∧ w.ownsRow B 100 5 (.slice (some ⟨g, 0, none⟩) ms.length c) ms.length cs ∧ Coj w B ms cs ms.length
theorem OwM.rdm {w : World} {B : Nat} {v : Value} {ms : List Mr} (h : OwM w B v ms) : RdM w v ms := by
  obtain ⟨hl, g, c, cs, rfl, ho, hc⟩ := h
  exact hc.rdm ho rfl hl
theorem OwM.apart {w : World} {B g' : Nat} {v : Value} {ms : List Mr} (h : OwM w B v ms) (hg : g' < B) (j : Nat) (x : Value) : OwM (w.setCell ⟨g', j, none⟩ x) B v ms := by
  obtain ⟨hl, g, c, cs, rfl, ho, hc⟩ := h
  have hB := (ho.lt g rfl).1
  refine ⟨hl, g, c, cs, rfl, ho.kept (put1g w g' j x) (.inr (fun e => by have e2 : g = g' := Option.some.inj e; omega)), fun i hi => ?_⟩
  obtain ⟨u, v, t, q0, q1, q2, q3, q4, r1, r2, r3⟩ := hc i hi
  exact ⟨u, v, t, q0, q1, q2, q3, q4, (r1.apartCell hg j x).up, (r2.apartCell hg j x).up, (r3.apartCell hg j x).up⟩
set_option maxHeartbeats 4000000 in
theorem toMrs (v : Value) (ms : List Mr) (w : World) (h : RdM w v ms) :
    Calls Try.prog 62 #[v] w fun e w' => ∃ u, e = .returned u ∧ OwM w' w.heap.size u ms ∧ Below w.heap.size w w' := by
  obtain ⟨hl, a, c, rfl, hcap, hr⟩ := h
  obtain ⟨i0, hi, hz0, hz1, hz2⟩ := info_parts infoM
  go_enter Try.func62, Try.ntmps62
  go_wp2_with (at_make; refine wpList_make_full _ rfl _ _ 31 rfl w.heap.size 100 i0 (.agg #[.int .i64 0, .slice none 0 0, .slice none 0 0, .slice none 0 0, .int .i64 0]) 5 Try.underlying31 hi hz0 hz1 _ _ _ _ ms.length rfl rfl rfl rfl ?b2 ?b3 (Nat.le_refl _) ?_)
  case b2 => rw [hz2]; omega
  case b3 => unfold maxLen; omega
  intro w0 hown0 hgrow0
  have HO : Hid (∃ cs, w0.ownsRow w.heap.size 100 5 (.slice (some ⟨w.heap.size, 0, none⟩) ms.length ms.length) ms.length cs) := Lib.hid ⟨_, hown0⟩
  have HG := Lib.hid hgrow0
  clear hown0 hgrow0
  go_wp2
  go_loopw [4] (fun s wr => ∃ (k : Nat) (cs : List Value), k ≤ ms.length ∧ s = .int .i64 k ∧ w.heap.size < wr.heap.size ∧
      wr.ownsRow w.heap.size 100 5 (.slice (some ⟨w.heap.size, 0, none⟩) ms.length ms.length) ms.length cs ∧ Coj wr w.heap.size ms cs k ∧ Below w.heap.size w wr)
    (fun s _ => ms.length - (intOf s).toNat)
  case atStart =>
    obtain ⟨cs, ho⟩ := HO.out
    exact ⟨0, cs, Nat.zero_le _, rfl, (ho.lt _ rfl).2, ho, fun i hi => by omega, (Below.refl _ _).grown HG.out (Nat.le_refl _) (fun k h => by cases h)⟩
  case round =>
    obtain ⟨k, cs, hk, rfl, hsz, hown, hcop, hbel⟩ := hrel
    by_cases hlt : k < ms.length
    · obtain ⟨b, o, rfl, hb, hcell⟩ := hr (by intro h0; rw [h0] at hlt; simp at hlt)
      obtain ⟨x, y, z, c0, c1, c2, c3, c4, hx, hy, hz⟩ := hcell k hlt
      have hq : ∀ j v, w.cell? ⟨b, j, none⟩ = some v → wr.cell? ⟨b, j, none⟩ = some v := fun j v h => (hbel.cell (p := ⟨b, j, none⟩) hb).trans h
      replace c0 := hq _ _ c0
      replace c1 := hq _ _ c1
      replace c2 := hq _ _ c2
      replace c3 := hq _ _ c3
      replace c4 := hq _ _ c4
      have HX := Lib.hid (hx.below hbel (Nat.le_refl _))
      have HY := Lib.hid (hy.below hbel (Nat.le_refl _))
      have HZ := Lib.hid (hz.below hbel (Nat.le_refl _))
      obtain ⟨_, _, ax, cx, rfl, _, _⟩ := hx
      obtain ⟨_, _, ay, cy, rfl, _, _⟩ := hy
      obtain ⟨_, _, az, cz, rfl, _, _⟩ := hz
      obtain ⟨q, hqm⟩ : ∃ q, q = ms.getD k mr0 := ⟨_, rfl⟩
      rw [← hqm] at HX HY HZ c0 c1 c2 c3 c4
      have HQM := Lib.hid hqm
      obtain ⟨s0, t1, t2, t3, s4⟩ := q
      dsimp only at HX HY HZ c0 c1 c2 c3 c4
      have HB := Lib.hid hbel
      have HW := Lib.hid hown
      have HC := Lib.hid hcop
      have i0 : (0 : Int) ≤ (k : Int) := by omega
      have i1 : (k : Int) < (ms.length : Int) := by omega
      clear hown hbel hcell hr HO HG hqm hcop hq
      go_wp2_with fail
      refine (toMr s0 s4 _ t1 _ t2 _ t3 _ HX.out HY.out HZ.out).mono ?_
      rintro e w1 ⟨u1, u2, u3, rfl, ho1, ho2, ho3, hb1⟩
      obtain ⟨a1, q1, h1⟩ := ho1.shape
      obtain ⟨a2, q2, h2⟩ := ho2.shape
      obtain ⟨a3, q3, h3⟩ := ho3.shape
      subst h1
      subst h2
      subst h3
      obtain ⟨⟨z0, d0⟩, e0, ⟨z1, d1⟩, e1, ⟨z2, d2⟩, e2, ⟨z3, d3⟩, e3, ⟨z4, d4⟩, e4, hs1, hs2, hln, hrow⟩ := rowJ_open (k := k) HW.out hb1 hsz hlt (.int .i64 s0) (.slice a1 t1.length q1) (.slice a2 t2.length q2) (.slice a3 t3.length q3) (.int .i64 s4)
      have HS1 := Lib.hid hs1
      have hst := HC.out.step hb1 hrow hlt hln (x := .slice a1 t1.length q1) (y := .slice a2 t2.length q2) (z := .slice a3 t3.length q3) (by rw [← HQM.out]; exact ho1) (by rw [← HQM.out]; exact ho2) (by rw [← HQM.out]; exact ho3) HB.out.size hs2
      rw [← HQM.out] at hst
      have HS3 := Lib.hid hst
      have HS2 : Hid (Below w.heap.size w _) := Lib.hid ((HB.out.trans (hb1.mono HB.out.size)).grown hs2 (Nat.le_trans HB.out.size hb1.size) (fun q hq => by cases hq; exact Nat.le_refl _))
      have HSZ : Hid (w.heap.size < w1.heap.size) := Lib.hid (Nat.lt_of_lt_of_le hsz hb1.size)
      clear hs1 hs2 hb1 c0 c1 c2 c3 c4 ho1 ho2 ho3 hrow hln hst
      go_wp2
      go_roundw
      case rel => exact ⟨k + 1, _, by omega, by go_num, by simpa using HSZ.out, HS1.out, HS3.out, HS2.out⟩
      case measure => simp [intOf]; omega
    · obtain rfl : k = ms.length := by omega
      have HS : Hid (OwM wr w.heap.size (.slice (some ⟨w.heap.size, 0, none⟩) ms.length ms.length) ms) := Lib.hid ⟨hl, _, _, cs, rfl, hown, hcop⟩
      have HB := Lib.hid hbel
      clear hown hbel hcop
      go_wp2
      go_ret
      exact ⟨_, rfl, HS.out, HB.out⟩
set_option maxHeartbeats 4000000 in
theorem eqMrs (u v : Value) (ms : List Mr) (w : World) (hu : RdM w u ms) (hv : RdM w v ms) :
    Calls Try.prog 69 #[u, v] w fun e w' => e = .returned (.bool true) ∧ Below w.heap.size w w' := by
  obtain ⟨hl, a, c, rfl, hcap, hr⟩ := hu
  obtain ⟨_, a', c', rfl, _, hr'⟩ := hv
  go_enter Try.func69, Try.ntmps69
  go_wp2
  go_loopw [5] (fun s wr => ∃ k : Nat, k ≤ ms.length ∧ s = .int .i64 k ∧ Below w.heap.size w wr) (fun s _ => ms.length - (intOf s).toNat)
  case atStart => exact ⟨0, Nat.zero_le _, rfl, Below.refl _ _⟩
  case round =>
    obtain ⟨k, hk, rfl, hbel⟩ := hrel
    by_cases hlt : k < ms.length
    · obtain ⟨b, o, rfl, hb, hcell⟩ := hr (by intro h0; rw [h0] at hlt; simp at hlt)
      obtain ⟨b', o', rfl, hb', hcell'⟩ := hr' (by intro h0; rw [h0] at hlt; simp at hlt)
      obtain ⟨x, y, z, c0, c1, c2, c3, c4, hx, hy, hz⟩ := hcell k hlt
      obtain ⟨x', y', z', d0, d1, d2, d3, d4, hx', hy', hz'⟩ := hcell' k hlt
      obtain ⟨q, hqm⟩ : ∃ q, q = ms.getD k mr0 := ⟨_, rfl⟩
      rw [← hqm] at c0 c4 d0 d4 hx hy hz hx' hy' hz'
      obtain ⟨s0, t1, t2, t3, s4⟩ := q
      dsimp only at c0 c4 d0 d4 hx hy hz hx' hy' hz'
      have HX := Lib.hid (hx.below hbel (Nat.le_refl _))
      have HY := Lib.hid (hy.below hbel (Nat.le_refl _))
      have HZ := Lib.hid (hz.below hbel (Nat.le_refl _))
      have HX' := Lib.hid (hx'.below hbel (Nat.le_refl _))
      have HY' := Lib.hid (hy'.below hbel (Nat.le_refl _))
      have HZ' := Lib.hid (hz'.below hbel (Nat.le_refl _))
      have HB := Lib.hid hbel
      have i0 : (0 : Int) ≤ (k : Int) := by omega
      have i1 : (k : Int) < (ms.length : Int) := by omega
      have HC : Hid (∀ W, Below wr.heap.size wr W → (W.cell? ⟨b, o + k * 5, none⟩ = some (.int .i64 s0) ∧ W.cell? ⟨b, o + k * 5 + 1, none⟩ = some x ∧ W.cell? ⟨b, o + k * 5 + 2, none⟩ = some y ∧ W.cell? ⟨b, o + k * 5 + 3, none⟩ = some z ∧ W.cell? ⟨b, o + k * 5 + 4, none⟩ = some (.int .i64 s4)) ∧ (W.cell? ⟨b', o' + k * 5, none⟩ = some (.int .i64 s0) ∧ W.cell? ⟨b', o' + k * 5 + 1, none⟩ = some x' ∧ W.cell? ⟨b', o' + k * 5 + 2, none⟩ = some y' ∧ W.cell? ⟨b', o' + k * 5 + 3, none⟩ = some z' ∧ W.cell? ⟨b', o' + k * 5 + 4, none⟩ = some (.int .i64 s4))) := Lib.hid (fun W hW => by
        have h2 := hbel.trans (hW.mono hbel.size)
        have hq : ∀ j v, w.cell? ⟨b, j, none⟩ = some v → W.cell? ⟨b, j, none⟩ = some v := fun j v h => (h2.cell (p := ⟨b, j, none⟩) hb).trans h
        have hq' : ∀ j v, w.cell? ⟨b', j, none⟩ = some v → W.cell? ⟨b', j, none⟩ = some v := fun j v h => (h2.cell (p := ⟨b', j, none⟩) hb').trans h
        exact ⟨⟨hq _ _ c0, hq _ _ c1, hq _ _ c2, hq _ _ c3, hq _ _ c4⟩, hq' _ _ d0, hq' _ _ d1, hq' _ _ d2, hq' _ _ d3, hq' _ _ d4⟩)
      have HXX : Hid (Below wr.heap.size wr wr.drew) := Lib.hid (Below.refl _ _).drew
      have HW : Hid (Below w.heap.size w wr.drew) := Lib.hid HB.out.drew
      clear hcell hcell' hr hr' hbel hx hy hz hx' hy' hz' c0 c1 c2 c3 c4 d0 d1 d2 d3 d4 hqm
      go_wp2_with fail
      go_region_held3 (fun W => (W.cell? ⟨b, o + k * 5, none⟩ = some (.int .i64 s0) ∧ W.cell? ⟨b, o + k * 5 + 1, none⟩ = some x ∧ W.cell? ⟨b, o + k * 5 + 2, none⟩ = some y ∧ W.cell? ⟨b, o + k * 5 + 3, none⟩ = some z ∧ W.cell? ⟨b, o + k * 5 + 4, none⟩ = some (.int .i64 s4)) ∧ (W.cell? ⟨b', o' + k * 5, none⟩ = some (.int .i64 s0) ∧ W.cell? ⟨b', o' + k * 5 + 1, none⟩ = some x' ∧ W.cell? ⟨b', o' + k * 5 + 2, none⟩ = some y' ∧ W.cell? ⟨b', o' + k * 5 + 3, none⟩ = some z' ∧ W.cell? ⟨b', o' + k * 5 + 4, none⟩ = some (.int .i64 s4)))
        (exact HC.out _ HXX.out)
        (first | (go_at_call 126; refine (eqMr s0 s4 _ _ _ _ _ _ _ _ _ _ (HX.out.below HXX.out (Nat.le_refl _)) (HX'.out.below HXX.out (Nat.le_refl _)) (HY.out.below HXX.out (Nat.le_refl _)) (HY'.out.below HXX.out (Nat.le_refl _)) (HZ.out.below HXX.out (Nat.le_refl _)) (HZ'.out.below HXX.out (Nat.le_refl _))).mono ?_; rintro e3 w3 ⟨rfl, hb3⟩; replace HW := Lib.hid (HW.out.trans (hb3.mono HW.out.size)); replace HXX := Lib.hid (HXX.out.trans (hb3.mono HXX.out.size)); clear hb3))
      all_goals
        go_wp2
        go_roundw
        case rel => exact ⟨k + 1, by omega, by go_num, HW.out⟩
        case measure => simp [intOf]; omega
    · obtain rfl : k = ms.length := by omega
      have HB := Lib.hid hbel
      clear hbel
      have hnlt : ¬ ((ms.length : Int) < (ms.length : Int)) := by omega
      go_wp2
      go_ret
      exact ⟨rfl, HB.out⟩
end Go.Proofs.Ytepdjlhlcjkdkaa.Ints
