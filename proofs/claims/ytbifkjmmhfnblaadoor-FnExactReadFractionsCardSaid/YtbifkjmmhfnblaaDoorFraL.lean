/- The laws' helpers on slices of Fraction: size, copy, compare, mark, held; slices.Clone. (gen_flat.py) -/
import Derived.Test.YtbifkjmmhfnblaaDoorFra
import Derived.Deep.RegionHeld3
namespace Go.Proofs.YtbifkjmmhfnblaaDoor.Ints
open Go.RowKit
set_option linter.unusedVariables false
set_option linter.unusedSimpArgs false

theorem infoFra : (Tryd.prog.info? 92).map (fun i => (i.zero, i.size, i.bytes)) = some (some (.agg #[.int .i64 0, .int .i64 0]), 2, 16) := by kernel_rfl
theorem made_Fra (n : Nat) : (madeCells #[Value.int .i64 0, .int .i64 0] (n * 2)).toList = csFra (List.replicate n zFra) := by
  have e : csFra (List.replicate n zFra) = List.replicate (n * 2) (.int .i64 0) := by
    induction n with
    | zero => rfl
    | succ n ih => rw [List.replicate_succ, csFra_cons, ih, show (n + 1) * 2 = n * 2 + 1 + 1 by omega, List.replicate_succ, List.replicate_succ]; rfl
  rw [e]
  apply List.ext_getElem?
  intro j
  by_cases hj : j < n * 2
  · have h3 : j % 2 = 0 ∨ j % 2 = 1 := by omega
    rcases h3 with h | h <;> simp [madeCells, hj, h]
  · simp [madeCells, hj]
theorem csFra_set (rs : List Fra) : ∀ (k : Nat) (h : k < rs.length) (r : Fra), (((csFra rs).set (k * 2) (.int .i64 r.up)).set (k * 2 + 1) (.int .i64 r.dn)) = csFra (rs.set k r) := by
  induction rs with
  | nil => intro k h; simp at h
  | cons x rs ih =>
    intro k h r
    cases k with
    | zero => simp [csFra_cons]
    | succ k =>
      have := ih k (by simpa using h) r
      rw [csFra_cons, show (k + 1) * 2 = k * 2 + 1 + 1 by omega, show k * 2 + 1 + 1 + 1 = (k * 2 + 1) + 1 + 1 by omega]
      simp only [List.set_cons_succ]
      rw [this]; rfl
theorem rowFra_store {w : World} {B g c : Nat} {rs : List Fra} (h : w.ownsRow B 92 2 (.slice (some ⟨g, 0, none⟩) rs.length c) rs.length (csFra rs)) (k : Nat) (hk : k < rs.length) (r : Fra) :
    ((w.setCell ⟨g, k * 2, none⟩ (.int .i64 r.up)).setCell ⟨g, k * 2 + 1, none⟩ (.int .i64 r.dn)).ownsRow B 92 2 (.slice (some ⟨g, 0, none⟩) rs.length c) rs.length (csFra (rs.set k r)) ∧
    w.grownBy ((w.setCell ⟨g, k * 2, none⟩ (.int .i64 r.up)).setCell ⟨g, k * 2 + 1, none⟩ (.int .i64 r.dn)) (some g) := by
  obtain ⟨h1, g1⟩ := h.stored (k * 2) (.int .i64 r.up)
  obtain ⟨h2, g2⟩ := h1.stored (k * 2 + 1) (.int .i64 r.dn)
  rw [csFra_set rs k hk] at h2
  exact ⟨h2, (grown_trans g1 g2)⟩
theorem setFra_step (rs : List Fra) (k : Nat) (h : k < rs.length) : (rs.take k ++ List.replicate (rs.length - k) zFra).set k (rs.getD k zFra) = rs.take (k + 1) ++ List.replicate (rs.length - (k + 1)) zFra := by
  obtain ⟨m, hm⟩ : ∃ m, rs.length - k = m + 1 := ⟨rs.length - k - 1, by omega⟩
  have hm2 : rs.length - (k + 1) = m := by omega
  rw [hm, hm2, List.take_succ_eq_append_getElem h, List.replicate_succ, List.append_assoc, List.set_append_right _ _ (by simp; omega)]
  simp [List.getD_eq_getElem?_getD, List.getElem?_eq_getElem h, Nat.min_eq_left (Nat.le_of_lt h)]
theorem csFra_set0 (rs : List Fra) : ∀ (k : Nat) (h : k < rs.length) (x : Int), (csFra rs).set (k * 2) (.int .i64 x) = csFra (rs.set k { (rs.getD k zFra) with up := x }) := by
  induction rs with
  | nil => intro k h; simp at h
  | cons y rs ih =>
    intro k h x
    cases k with
    | zero => simp [csFra_cons]
    | succ k =>
      have := ih k (by simpa using h) x
      rw [csFra_cons, show (k + 1) * 2 = (k * 2) + 1 + 1 by omega]
      simp only [List.set_cons_succ]
      rw [this]; simp [csFra_cons]
/-- One field stored into a row of the call's own. -/
theorem rowFra_set0 {w : World} {B g c n k : Nat} {rs : List Fra} (h : w.ownsRow B 92 2 (.slice (some ⟨g, 0, none⟩) n c) n (csFra rs)) (hk : k < rs.length) (x : Int) :
    w.cell? ⟨g, k * 2, none⟩ = some (.int .i64 (rs.getD k zFra).up) ∧ w.frozen? ⟨g, k * 2, none⟩ = false ∧
    (w.setCell ⟨g, k * 2, none⟩ (.int .i64 x)).ownsRow B 92 2 (.slice (some ⟨g, 0, none⟩) n c) n (csFra (rs.set k { (rs.getD k zFra) with up := x })) ∧ w.grownBy (w.setCell ⟨g, k * 2, none⟩ (.int .i64 x)) (some g) := by
  have hl := h.1
  rw [csFra_length] at hl
  have hn : rs.length = n := by omega
  subst hn
  obtain ⟨a0, a1⟩ := csFra_at rs k hk
  obtain ⟨h1, g1⟩ := h.stored (k * 2) (.int .i64 x)
  rw [csFra_set0 rs k hk] at h1
  exact ⟨by rw [h.cellAt _ (by omega)]; exact a0, h.frozenAt _, h1, g1⟩
theorem csFra_set1 (rs : List Fra) : ∀ (k : Nat) (h : k < rs.length) (x : Int), (csFra rs).set (k * 2 + 1) (.int .i64 x) = csFra (rs.set k { (rs.getD k zFra) with dn := x }) := by
  induction rs with
  | nil => intro k h; simp at h
  | cons y rs ih =>
    intro k h x
    cases k with
    | zero => simp [csFra_cons]
    | succ k =>
      have := ih k (by simpa using h) x
      rw [csFra_cons, show (k + 1) * 2 + 1 = (k * 2 + 1) + 1 + 1 by omega]
      simp only [List.set_cons_succ]
      rw [this]; simp [csFra_cons]
/-- One field stored into a row of the call's own. -/
theorem rowFra_set1 {w : World} {B g c n k : Nat} {rs : List Fra} (h : w.ownsRow B 92 2 (.slice (some ⟨g, 0, none⟩) n c) n (csFra rs)) (hk : k < rs.length) (x : Int) :
    w.cell? ⟨g, k * 2 + 1, none⟩ = some (.int .i64 (rs.getD k zFra).dn) ∧ w.frozen? ⟨g, k * 2 + 1, none⟩ = false ∧
    (w.setCell ⟨g, k * 2 + 1, none⟩ (.int .i64 x)).ownsRow B 92 2 (.slice (some ⟨g, 0, none⟩) n c) n (csFra (rs.set k { (rs.getD k zFra) with dn := x })) ∧ w.grownBy (w.setCell ⟨g, k * 2 + 1, none⟩ (.int .i64 x)) (some g) := by
  have hl := h.1
  rw [csFra_length] at hl
  have hn : rs.length = n := by omega
  subst hn
  obtain ⟨a0, a1⟩ := csFra_at rs k hk
  obtain ⟨h1, g1⟩ := h.stored (k * 2 + 1) (.int .i64 x)
  rw [csFra_set1 rs k hk] at h1
  exact ⟨by rw [h.cellAt _ (by omega)]; exact a1, h.frozenAt _, h1, g1⟩
/-- The marks k, k + 1, .. -/
def marksFra (k : Int) (n : Nat) : List Fra := (List.range n).map fun (i : Nat) => ⟨k + 2 * (i : Int), k + 2 * (i : Int) + 1⟩
@[simp] theorem length_marksFra (k : Int) (n : Nat) : (marksFra k n).length = n := by simp [marksFra]
theorem marksFra_at (k : Int) (n i : Nat) (h : i < n) : (marksFra k n).getD i zFra = ⟨k + 2 * (i : Int), k + 2 * (i : Int) + 1⟩ := by
  simp [marksFra, List.getD_eq_getElem?_getD, h]
theorem markFra_step (rs : List Fra) (k : Int) (i : Nat) (h : i < rs.length) :
    (marksFra k i ++ rs.drop i).set i ⟨k + 2 * (i : Int), k + 2 * (i : Int) + 1⟩ = marksFra k (i + 1) ++ rs.drop (i + 1) := by
  rw [List.set_append_right _ _ (by simp), List.drop_eq_getElem_cons h]
  simp only [length_marksFra, Nat.sub_self, List.set_cons_zero]
  simp [marksFra, List.range_succ]
theorem FitFra.marks {k : Int} {n : Nat} (h0 : 0 ≤ k) (h1 : k ≤ 1000000000000) (h2 : n ≤ 16777216) : FitFra (marksFra k n) := by
  intro r hr
  simp only [marksFra, List.mem_map, List.mem_range] at hr
  obtain ⟨i, hi, rfl⟩ := hr
  exact ⟨⟨by dsimp only; omega, by dsimp only; omega⟩, ⟨by dsimp only; omega, by dsimp only; omega⟩⟩
/-- What a store of an element into a row of the call's own asks and leaves. -/
theorem rowFra_open {w w1 : World} {B g c : Nat} {rs : List Fra} {k n : Nat} (h : w.ownsRow B 92 2 (.slice (some ⟨g, 0, none⟩) n c) n (csFra rs)) (hb : Below w.heap.size w w1) (hg : g < w.heap.size) (hk : k < rs.length) (r : Fra) :
    w1.cell? ⟨g, k * 2, none⟩ = some (.int .i64 ((rs.getD k zFra)).up) ∧
    (w1.setCell ⟨g, k * 2, none⟩ (.int .i64 r.up)).cell? ⟨g, k * 2 + 1, none⟩ = some (.int .i64 ((rs.getD k zFra)).dn) ∧
    w1.frozen? ⟨g, k * 2, none⟩ = false ∧
    (w1.setCell ⟨g, k * 2, none⟩ (.int .i64 r.up)).frozen? ⟨g, k * 2 + 1, none⟩ = false ∧
    ((w1.setCell ⟨g, k * 2, none⟩ (.int .i64 r.up)).setCell ⟨g, k * 2 + 1, none⟩ (.int .i64 r.dn)).ownsRow B 92 2 (.slice (some ⟨g, 0, none⟩) n c) n (csFra (rs.set k r)) ∧
    (B ≤ w.heap.size → Below B w ((w1.setCell ⟨g, k * 2, none⟩ (.int .i64 r.up)).setCell ⟨g, k * 2 + 1, none⟩ (.int .i64 r.dn))) := by
  have hn : rs.length = n := by have := h.1; rw [csFra_length] at this; omega
  subst hn
  have hB : B ≤ g := (h.lt _ rfl).1
  have h' : w1.ownsRow B 92 2 (.slice (some ⟨g, 0, none⟩) rs.length c) rs.length (csFra rs) := by
    refine ⟨h.1, ?_⟩
    rcases h.2 with hn | ⟨g', cap, cur, hv, hbb, hgg, rest⟩
    · exact .inl hn
    · refine .inr ⟨g', cap, cur, hv, hbb, ?_, rest⟩
      cases hv
      rw [hb.block g hg]; exact hgg
  obtain ⟨a0, a1⟩ := csFra_at rs k hk
  obtain ⟨h1, g1⟩ := h'.stored (k * 2) (.int .i64 r.up)
  obtain ⟨h2, g2⟩ := h1.stored (k * 2 + 1) (.int .i64 r.dn)
  have hl := csFra_length rs
  refine ⟨by rw [h'.cellAt _ (by omega)]; exact a0, by rw [h1.cellAt _ (by omega), List.getElem?_set_ne (by omega)]; exact a1, h'.frozenAt _, h1.frozenAt _, by rw [← csFra_set rs k hk]; exact h2, fun hBw => ?_⟩
  have hb' := hb.mono hBw
  exact ((hb'.grown g1 (by have := hb.size; omega) (fun q hq => by cases hq; exact hB)).grown g2 (by have := hb.size; have := g1.size; omega) (fun q hq => by cases hq; exact hB))
/-- The same, one store a statement. -/
theorem rowFra_each {w : World} {B g c n k : Nat} {rs : List Fra} (h : w.ownsRow B 92 2 (.slice (some ⟨g, 0, none⟩) n c) n (csFra rs)) (hk : k < rs.length) (r : Fra) :
    w.cell? ⟨g, k * 2, none⟩ = some (.int .i64 ((rs.getD k zFra)).up) ∧
    (w.setCell ⟨g, k * 2, none⟩ (.int .i64 r.up)).cell? ⟨g, k * 2 + 1, none⟩ = some (.int .i64 ((rs.getD k zFra)).dn) ∧
    w.frozen? ⟨g, k * 2, none⟩ = false ∧
    (w.setCell ⟨g, k * 2, none⟩ (.int .i64 r.up)).frozen? ⟨g, k * 2 + 1, none⟩ = false ∧
    ((w.setCell ⟨g, k * 2, none⟩ (.int .i64 r.up)).setCell ⟨g, k * 2 + 1, none⟩ (.int .i64 r.dn)).ownsRow B 92 2 (.slice (some ⟨g, 0, none⟩) n c) n (csFra (rs.set k r)) ∧
    w.grownBy ((w.setCell ⟨g, k * 2, none⟩ (.int .i64 r.up)).setCell ⟨g, k * 2 + 1, none⟩ (.int .i64 r.dn)) (some g) := by
  have hn : rs.length = n := by have := h.1; rw [csFra_length] at this; omega
  subst hn
  obtain ⟨a0, a1⟩ := csFra_at rs k hk
  obtain ⟨h1, g1⟩ := h.stored (k * 2) (.int .i64 r.up)
  obtain ⟨h2, g2⟩ := h1.stored (k * 2 + 1) (.int .i64 r.dn)
  have hl := csFra_length rs
  obtain ⟨p1, p2⟩ := rowFra_store h k hk r
  exact ⟨by rw [h.cellAt _ (by omega)]; exact a0, by rw [h1.cellAt _ (by omega), List.getElem?_set_ne (by omega)]; exact a1, h.frozenAt _, h1.frozenAt _, p1, p2⟩
theorem eq1Fra (x0 x1 : Int) (w : World) : Calls Tryd.prog 66 #[.agg #[.int .i64 x0, .int .i64 x1], .agg #[.int .i64 x0, .int .i64 x1]] w fun e w' => e = .returned (.bool true) ∧ Below w.heap.size w w' := by
  go_enter Tryd.func66, Tryd.ntmps66
  go_wp2
  go_ret
  exact ⟨rfl, ((Below.refl _ _).alloc (Nat.le_refl _) _).alloc (by simp) _⟩
set_option maxHeartbeats 2000000 in
theorem eqFra (u v : Value) (rs : List Fra) (w : World) (hu : RdFra w u rs) (hv : RdFra w v rs) :
    Calls Tryd.prog 28 #[u, v] w fun e w' => e = .returned (.bool true) ∧ Below w.heap.size w w' := by
  obtain ⟨hl, hf, a, c, rfl, hcap, hr⟩ := hu
  obtain ⟨_, _, a', c', rfl, _, hr'⟩ := hv
  go_enter Tryd.func28, Tryd.ntmps28
  go_wp2
  go_loopw [5] (fun s wr => ∃ k : Nat, k ≤ rs.length ∧ s = .int .i64 k ∧ Below w.heap.size w wr) (fun s _ => rs.length - (intOf s).toNat)
  case atStart => exact ⟨0, Nat.zero_le _, rfl, Below.refl _ _⟩
  case round =>
    obtain ⟨k, hk, rfl, hbel⟩ := hrel
    by_cases hlt : k < rs.length
    · obtain ⟨b, o, rfl, hb, hcell⟩ := hr (by intro h0; rw [h0] at hlt; simp at hlt)
      obtain ⟨b', o', rfl, hb', hcell'⟩ := hr' (by intro h0; rw [h0] at hlt; simp at hlt)
      obtain ⟨c0, c1⟩ := hcell k hlt
      obtain ⟨d0, d1⟩ := hcell' k hlt
      replace c0 := (hbel.cell (p := ⟨b, o + k * 2, none⟩) hb).trans c0
      replace c1 := (hbel.cell (p := ⟨b, o + k * 2 + 1, none⟩) hb).trans c1
      replace d0 := (hbel.cell (p := ⟨b', o' + k * 2, none⟩) hb').trans d0
      replace d1 := (hbel.cell (p := ⟨b', o' + k * 2 + 1, none⟩) hb').trans d1
      obtain ⟨r, hr0⟩ : ∃ r, r = rs.getD k zFra := ⟨_, rfl⟩
      rw [← hr0] at c0 c1 d0 d1
      have HB := Lib.hid hbel
      clear hcell hcell' hbel hr hr' hr0
      obtain ⟨x0, x1⟩ := r
      have i0 : (0 : Int) ≤ (k : Int) := by omega
      have i1 : (k : Int) < (rs.length : Int) := by omega
      have HC : Hid (∀ W, Below wr.heap.size wr W → (W.cell? ⟨b, o + k * 2, none⟩ = some (.int .i64 x0) ∧ W.cell? ⟨b, o + k * 2 + 1, none⟩ = some (.int .i64 x1)) ∧ (W.cell? ⟨b', o' + k * 2, none⟩ = some (.int .i64 x0) ∧ W.cell? ⟨b', o' + k * 2 + 1, none⟩ = some (.int .i64 x1))) := Lib.hid (fun W hW => by
        have hb1 : b < wr.heap.size := World.block_lt_of_cell? wr _ c0
        have hb2 : b' < wr.heap.size := World.block_lt_of_cell? wr _ d0
        exact ⟨⟨(hW.cell (p := ⟨b, o + k * 2, none⟩) hb1).trans c0, (hW.cell (p := ⟨b, o + k * 2 + 1, none⟩) hb1).trans c1⟩, (hW.cell (p := ⟨b', o' + k * 2, none⟩) hb2).trans d0, (hW.cell (p := ⟨b', o' + k * 2 + 1, none⟩) hb2).trans d1⟩)
      have HX : Hid (Below wr.heap.size wr wr.drew) := Lib.hid (Below.refl _ _).drew
      have HBB := Lib.hid hb
      have HBB' := Lib.hid hb'
      have HW : Hid (Below w.heap.size w wr.drew) := Lib.hid HB.out.drew
      go_wp2_with fail
      go_region_held3 (fun w' => (w'.cell? ⟨b, o + k * 2, none⟩ = some (.int .i64 x0) ∧ w'.cell? ⟨b, o + k * 2 + 1, none⟩ = some (.int .i64 x1)) ∧ (w'.cell? ⟨b', o' + k * 2, none⟩ = some (.int .i64 x0) ∧ w'.cell? ⟨b', o' + k * 2 + 1, none⟩ = some (.int .i64 x1)))
        (exact HC.out _ HX.out)
        (first | (go_at_call 66; refine (eq1Fra x0 x1 _).mono ?_; rintro e3 w3 ⟨rfl, hb3⟩; replace HW := Lib.hid (HW.out.trans (hb3.mono HW.out.size)); replace HX := Lib.hid (HX.out.trans (hb3.mono HX.out.size)); clear hb3))
      all_goals
        go_wp2
        go_roundw
        case rel => exact ⟨k + 1, by omega, by go_num, HW.out⟩
        case measure => simp [intOf]; omega
    · have HB := Lib.hid hbel
      clear hbel
      go_wp2
      go_ret
      exact ⟨rfl, HB.out⟩
set_option maxHeartbeats 2000000 in
theorem markFra (v : Value) (rs : List Fra) (k0 : Int) (B T : Nat) (w : World) (h : OwFra w B T v rs) (h0 : 0 ≤ k0) (h1 : k0 ≤ 100000000000) :
    Calls Tryd.prog 29 #[v, .int .i64 k0] w fun e w' => e = .returned (.int .i64 (k0 + 2 * (rs.length : Int))) ∧ OwFra w' B T v (marksFra k0 rs.length) ∧ w.grownBy w' v.ownBlock := by
  have hl := h.len
  rcases h.form with ⟨rfl, rfl⟩ | ⟨g, c, rfl, hb, hg, hn, hm, hr⟩
  · have H := Lib.hid h
    clear h hl
    go_enter Tryd.func29, Tryd.ntmps29
    go_wp2
    refine wp_loop_rounds 1 ?_
    rw [rounds_succ]
    go_wp2
    go_ret
    exact ⟨by simp, H.out, World.grownBy.refl _ _⟩
  · have hT := h.size
    have H := Lib.hid h
    have HR := Lib.hid hr
    clear h hr
    go_enter Tryd.func29, Tryd.ntmps29
    go_wp2
    go_loopw [1, 5] (fun q s wr => ∃ i : Nat, i ≤ rs.length ∧ s = .int .i64 i ∧ q = .int .i64 (k0 + 2 * (i : Int)) ∧
        wr.ownsRow B 92 2 (.slice (some ⟨g, 0, none⟩) rs.length c) rs.length (csFra (marksFra k0 i ++ rs.drop i)) ∧ w.grownBy wr (some g))
      (fun _ s _ => rs.length - (intOf s).toNat)
    case atStart => exact ⟨0, Nat.zero_le _, rfl, by simp, by simpa [marksFra] using HR.out, World.grownBy.refl _ _⟩
    case round =>
      obtain ⟨i, hi, rfl, rfl, hown, hgr⟩ := hrel
      by_cases hlt : i < rs.length
      · obtain ⟨d0, d1, e0, e1, s1, s2⟩ := rowFra_each (k := i) hown (by rw [List.length_append, length_marksFra, List.length_drop]; omega) ⟨k0 + 2 * (i : Int), k0 + 2 * (i : Int) + 1⟩
        rw [markFra_step rs k0 i hlt] at s1
        have HS := Lib.hid s1
        have HG := Lib.hid (grown_trans hgr s2)
        obtain ⟨m, hmm⟩ : ∃ m, m = k0 + 2 * (i : Int) := ⟨_, rfl⟩
        have w1 : IntKind.i64.wrap (m + 1) = m + 1 := by rw [IntKind.wrap_i64]; omega
        have w2 : IntKind.i64.wrap (m + 2) = m + 2 := by rw [IntKind.wrap_i64]; omega
        have v1 : IntKind.i64.wrap (m + 1 + 1) = m + 2 := by rw [IntKind.wrap_i64]; omega
        have i0 : (0 : Int) ≤ (i : Int) := by omega
        have i1 : (i : Int) < (rs.length : Int) := by omega
        have HM := Lib.hid hmm
        obtain ⟨q, hq⟩ : ∃ q, q = (marksFra k0 i ++ rs.drop i).getD i zFra := ⟨_, rfl⟩
        rw [← hq] at d0 d1
        dsimp only at d1 e1 HS HG
        rw [← hmm] at d1 e1 HS HG ⊢
        clear hown hgr s1 s2 hq hmm
        go_wp2
        go_roundw
        case rel => exact ⟨i + 1, by omega, by go_num, by have := HM.out; first | (go_num; omega) | (simp; omega), HS.out, HG.out⟩
        case measure => simp [intOf]; omega
      · obtain rfl : i = rs.length := by omega
        have HS := Lib.hid hown
        have HB := Lib.hid hgr
        clear hown hgr
        go_wp2
        go_ret
        refine ⟨rfl, ⟨by simpa using hl, FitFra.marks h0 (by omega) hl, ?_, H.out.top, Nat.le_trans hT HB.out.size, H.out.base⟩, HB.out⟩
        have := HS.out; simpa using this
set_option maxHeartbeats 2000000 in
theorem heldFra (v : Value) (n : Nat) (k0 : Int) (w : World) (h : RdFra w v (marksFra k0 n)) (h0 : 0 ≤ k0) (h1 : k0 ≤ 100000000000) :
    Calls Tryd.prog 30 #[v, .int .i64 k0] w fun e w' => e = .returned (.int .i64 (k0 + 2 * (n : Int))) ∧ Below w.heap.size w w' := by
  obtain ⟨hl, hf, a, c, rfl, hcap, hr⟩ := h
  simp only [length_marksFra] at hl hcap hr
  have hfit := hf
  rw [length_marksFra]
  clear hf
  go_enter Tryd.func30, Tryd.ntmps30
  go_wp2
  go_loopw [1, 5] (fun q s wr => ∃ i : Nat, i ≤ n ∧ s = .int .i64 i ∧ q = .int .i64 (k0 + 2 * (i : Int)) ∧ Below w.heap.size w wr) (fun _ s _ => n - (intOf s).toNat)
  case atStart => exact ⟨0, Nat.zero_le _, rfl, by simp, Below.refl _ _⟩
  case round =>
    obtain ⟨i, hi, rfl, rfl, hbel⟩ := hrel
    by_cases hlt : i < n
    · obtain ⟨b, o, rfl, hb, hcell⟩ := hr (by intro h0; have := congrArg List.length h0; simp at this; omega)
      obtain ⟨c0, c1⟩ := hcell i hlt
      rw [marksFra_at k0 n i hlt] at c0 c1
      replace c0 := (hbel.cell (p := ⟨b, o + i * 2, none⟩) hb).trans c0
      replace c1 := (hbel.cell (p := ⟨b, o + i * 2 + 1, none⟩) hb).trans c1
      obtain ⟨m, hmm⟩ : ∃ m, m = k0 + 2 * (i : Int) := ⟨_, rfl⟩
      have w1 : IntKind.i64.wrap (m + 1) = m + 1 := by rw [IntKind.wrap_i64]; omega
      have v1 : IntKind.i64.wrap (m + 1 + 1) = m + 2 := by rw [IntKind.wrap_i64]; omega
      have i0 : (0 : Int) ≤ (i : Int) := by omega
      have i1 : (i : Int) < (n : Int) := by omega
      have HM := Lib.hid hmm
      have HB := Lib.hid hbel
      dsimp only at c0 c1
      rw [← hmm] at c0 c1 ⊢
      clear hcell hr hmm hbel
      go_wp2
      go_roundw
      case rel => exact ⟨i + 1, by omega, by go_num, by have := HM.out; first | (go_num; omega) | (simp; omega), HB.out⟩
      case measure => simp [intOf]; omega
    · obtain rfl : i = n := by omega
      have HB := Lib.hid hbel
      clear hbel
      go_wp2
      go_ret
      exact ⟨rfl, HB.out⟩
theorem csFra_oneCell (rs : List Fra) : ∀ u ∈ csFra rs, u.oneCell' = true := by
  intro u hu
  simp only [csFra, List.mem_flatMap, Fra.cs] at hu
  obtain ⟨r, _, hu⟩ := hu
  simp only [List.mem_cons, List.not_mem_nil, or_false] at hu
  rcases hu with h | h <;> subst h <;> rfl
theorem RdFra.cells {w : World} {ad : Addr} {n c : Nat} {rs : List Fra} (h : RdFra w (.slice (some ad) n c) rs) {W : World} (hW : Below w.heap.size w W) :
    n = rs.length ∧ n ≤ c ∧ ∀ j x, (csFra rs)[j]? = some x → W.cell? (ad.add j) = some x := by
  obtain ⟨hl, hf, a, c', hv, hcap, hr⟩ := h
  simp only [Value.slice.injEq] at hv
  obtain ⟨rfl, rfl, rfl⟩ := hv
  refine ⟨rfl, hcap, fun j x hx => ?_⟩
  have hj : j < rs.length * 2 := by rw [← csFra_length]; exact (List.getElem?_eq_some_iff.1 hx).1
  obtain ⟨b, o, ha, hb, hcell⟩ := hr (by intro h0; rw [h0] at hj; simp at hj)
  cases ha
  obtain ⟨i, t, ht, rfl⟩ : ∃ i t, t < 2 ∧ j = i * 2 + t := ⟨j / 2, j % 2, by omega, by omega⟩
  obtain ⟨c0, c1⟩ := hcell i (by omega)
  obtain ⟨d0, d1⟩ := csFra_at rs i (by omega)
  rw [Addr.add_lit]
  have ht3 : t = 0 ∨ t = 1 := by omega
  rcases ht3 with rfl | rfl
  · rw [Nat.add_zero] at hx ⊢
    rw [d0] at hx
    exact ((hW.cell (p := ⟨b, o + i * 2, none⟩) hb).trans c0).trans hx
  · rw [d1] at hx
    exact ((hW.cell (p := ⟨b, o + (i * 2 + 1), none⟩) hb).trans c1).trans hx
theorem eqlNoneFra (l c : Nat) (w : World) : (binOp .eql 46 (.slice none l c) (.slice none 0 0)).run Tryd.prog w = .ok (.bool true) w := by kernel_rfl
theorem eqlSomeFra (a : Addr) (l c : Nat) (w : World) : (binOp .eql 46 (.slice (some a) l c) (.slice none 0 0)).run Tryd.prog w = .ok (.bool false) w := by kernel_rfl
/-- Whatever slice is appended to a row of the call's own. -/
theorem wpList_append_Fra {w : World} {ops : Array Oper} {rest : List Oper} {o : Oper} {a : Act} {Q : Exit → Act → World → Prop} (hgd : o.guard = none) (s x : Operand)
    (ho : o.op = .call { callee := .builtin .append, args := #[s, x], argTypes := #[46, 46] })
    (base : Nat) (v u : Value) (xs ys : List Fra) (hs : a.eval s = v) (hown : w.ownsRow base 92 2 v xs.length (csFra xs)) (hx : a.eval x = u) (hu : RdFra w u ys)
    (hn : xs.length + ys.length ≤ 33554432) (hbase : base ≤ w.heap.size)
    (h : ∀ v' w', w'.ownsRow base 92 2 v' (xs.length + ys.length) (csFra (xs ++ ys)) → w.grownBy w' v.ownBlock → wpList Tryd.prog ops Q rest (a.put o.dst v') w') : wpList Tryd.prog ops Q (o :: rest) a w := by
  obtain ⟨i0, hi, hz0, hz1, hz2⟩ := info_parts infoFra
  have HU := hu
  obtain ⟨hl, hf, ad, c, rfl, hcap, hr⟩ := hu
  cases ad with
  | some ad =>
    exact wpList_append_own _ hgd s x 46 ho base 92 i0 (.agg #[.int .i64 0, .int .i64 0]) 2 16 Tryd.underlying46 hi hz0 hz1 hz2 rfl (by decide) v xs.length (csFra xs) hs hown ad ys.length c (csFra ys) hx (by simp) (HU.cells (Below.refl _ _)).2.2 (csFra_oneCell ys)
      (by unfold maxLen; omega) (by omega) hbase (fun v' w' h1 h2 _ => h v' w' (by rw [csFra_append]; exact h1) h2)
  | none =>
    obtain rfl : ys = [] := by
      cases ys with
      | nil => rfl
      | cons z zs => obtain ⟨b, o, h, _⟩ := hr (by simp); cases h
    have hfin := h v w (by simpa using hown) (grown_refl _ _)
    refine wpList_plain hgd fun K hK' => ?_
    have hv : ∃ ao n cp, v = .slice ao n cp ∧ n ≤ cp := by
      rcases hown.2 with ⟨rfl, _⟩ | ⟨g, cp, cur, rfl, _, _, hnc, _⟩
      · exact ⟨none, 0, 0, rfl, Nat.le_refl _⟩
      · exact ⟨_, _, _, rfl, hnc⟩
    obtain ⟨ao, n, cp, rfl, hle⟩ := hv
    have hrun := run_append_nothing w 46 46 o.type 92 i0 Tryd.underlying46 hi ao n cp hle (.slice none 0 c) (Src.ofNil w Tryd.underlying46 c)
    unfold Oper.wp
    simp [execOp, ho, resolve, invoke, builtin, hs, hx, hrun, Result.andThen]
    exact hK' _ _ hfin
/-- The same, in a region. -/
theorem step_append_Fra {w : World} {ops : Array Oper} {o : Oper} {a : Act} {K : Act → World → Prop} {Q : Exit → Act → World → Prop} {E : Prop} (hgd : o.guard = none) (s x : Operand)
    (ho : o.op = .call { callee := .builtin .append, args := #[s, x], argTypes := #[46, 46] })
    (base : Nat) (v u : Value) (xs ys : List Fra) (hs : a.eval s = v) (hown : w.ownsRow base 92 2 v xs.length (csFra xs)) (hx : a.eval x = u) (hu : RdFra w u ys)
    (hn : xs.length + ys.length ≤ 33554432) (hbase : base ≤ w.heap.size)
    (h : ∀ v' w', w'.ownsRow base 92 2 v' (xs.length + ys.length) (csFra (xs ++ ys)) → w.grownBy w' v.ownBlock → K (a.put o.dst v') w') :
    if Region.wanted o (yielded ops a.tmps) = true then Oper.wp Tryd.prog o a w K Q else E := by
  have hw : Region.wanted o (yielded ops a.tmps) = true := by simp [Region.wanted, hgd]
  rw [if_pos hw]
  obtain ⟨i0, hi, hz0, hz1, hz2⟩ := info_parts infoFra
  have HU := hu
  obtain ⟨hl, hf, ad, c, rfl, hcap, hr⟩ := hu
  cases ad with
  | some ad =>
    exact wp_append_own w s x 46 ho base 92 i0 (.agg #[.int .i64 0, .int .i64 0]) 2 16 Tryd.underlying46 hi hz0 hz1 hz2 rfl (by decide) v xs.length (csFra xs) hs hown ad ys.length c (csFra ys) hx (by simp) (HU.cells (Below.refl _ _)).2.2 (csFra_oneCell ys)
      (by unfold maxLen; omega) (by omega) hbase (fun v' w' h1 h2 _ => h v' w' (by rw [csFra_append]; exact h1) h2)
  | none =>
    obtain rfl : ys = [] := by
      cases ys with
      | nil => rfl
      | cons z zs => obtain ⟨b, o, h, _⟩ := hr (by simp); cases h
    have hfin := h v w (by simpa using hown) (grown_refl _ _)
    have hv : ∃ ao n cp, v = .slice ao n cp ∧ n ≤ cp := by
      rcases hown.2 with ⟨rfl, _⟩ | ⟨g, cp, cur, rfl, _, _, hnc, _⟩
      · exact ⟨none, 0, 0, rfl, Nat.le_refl _⟩
      · exact ⟨_, _, _, rfl, hnc⟩
    obtain ⟨ao, n, cp, rfl, hle⟩ := hv
    have hrun := run_append_nothing w 46 46 o.type 92 i0 Tryd.underlying46 hi ao n cp hle (.slice none 0 c) (Src.ofNil w Tryd.underlying46 c)
    unfold Oper.wp
    simp [execOp, ho, resolve, invoke, builtin, hs, hx, hrun, Result.andThen]
    exact hfin
/-- A block that holds one element. -/
theorem rdFra_one {w : World} {b : Nat} {r : Fra} (h : Cels w b 92 r.cs) (hf : r.fit) : RdFra w (.slice (some ⟨b, 0, none⟩) 1 1) [r] := by
  refine ⟨by simp, fun x hx => by simp at hx; subst hx; exact hf, some ⟨b, 0, none⟩, 1, rfl, by simp, fun _ => ⟨b, 0, rfl, h.lt, fun i hi => ?_⟩⟩
  obtain rfl : i = 0 := by simpa using hi
  exact ⟨by simpa using h.cell 0 rfl, by simpa using h.cell 1 rfl⟩
/-- Behind an append of one element. -/
theorem OwFra.snoc {wr w1 : World} {B T : Nat} {ov v' : Value} {xs : List Fra} {r : Fra} {ob : Obj} (h : OwFra wr B T ov xs) (h0 : r.fit) (hl : xs.length < 16777216)
    (hown1 : w1.ownsRow B 92 2 v' (xs.length + 1) (csFra xs ++ r.cs)) (hgrow : (wr.alloc ob).grownBy w1 ov.ownBlock) :
    OwFra w1 B w1.heap.size v' (xs ++ [r]) ∧ Below B wr w1 := by
  have hb : B ≤ wr.heap.size := Nat.le_trans h.base h.size
  have hB : Below B wr w1 := ((Below.refl B wr).alloc hb _).grown hgrow (by simp; omega) (fun q hq => (h.row.lt q hq).1)
  refine ⟨⟨by simp; omega, h.fit.app (fun x hx => by simp at hx; subst hx; exact h0), ?_, fun k hk => (hown1.lt k hk).2, Nat.le_refl _, Nat.le_trans hb hB.size⟩, hB⟩
  rw [csFra_append, List.length_append]
  simpa [csFra] using hown1
end Go.Proofs.YtbifkjmmhfnblaaDoor.Ints
