/- The laws' helpers on slices of Instr: size, copy, compare, mark, held; slices.Clone. (gen_flat.py) -/
import Derived.Test.YtbigoljfanendaaDoorIns
import Derived.Deep.RegionHeld3
namespace Go.Proofs.YtbigoljfanendaaDoor.Ints
open Go.RowKit
set_option linter.unusedVariables false
set_option linter.unusedSimpArgs false

theorem infoIns : (Tryd.prog.info? 74).map (fun i => (i.zero, i.size, i.bytes)) = some (some (.agg #[.int .i64 0, .int .i64 0, .int .i64 0, .int .i64 0]), 4, 32) := by kernel_rfl
theorem made_Ins (n : Nat) : (madeCells #[Value.int .i64 0, .int .i64 0, .int .i64 0, .int .i64 0] (n * 4)).toList = csIns (List.replicate n zIns) := by
  have e : csIns (List.replicate n zIns) = List.replicate (n * 4) (.int .i64 0) := by
    induction n with
    | zero => rfl
    | succ n ih => rw [List.replicate_succ, csIns_cons, ih, show (n + 1) * 4 = n * 4 + 1 + 1 + 1 + 1 by omega, List.replicate_succ, List.replicate_succ, List.replicate_succ, List.replicate_succ]; rfl
  rw [e]
  apply List.ext_getElem?
  intro j
  by_cases hj : j < n * 4
  · have h3 : j % 4 = 0 ∨ j % 4 = 1 ∨ j % 4 = 2 ∨ j % 4 = 3 := by omega
    rcases h3 with h | h | h | h <;> simp [madeCells, hj, h]
  · simp [madeCells, hj]
theorem csIns_set (rs : List Ins) : ∀ (k : Nat) (h : k < rs.length) (r : Ins), (((((csIns rs).set (k * 4) (.int .i64 r.kd)).set (k * 4 + 1) (.int .i64 r.rg)).set (k * 4 + 2) (.int .i64 r.th)).set (k * 4 + 3) (.int .i64 r.el)) = csIns (rs.set k r) := by
  induction rs with
  | nil => intro k h; simp at h
  | cons x rs ih =>
    intro k h r
    cases k with
    | zero => simp [csIns_cons]
    | succ k =>
      have := ih k (by simpa using h) r
      rw [csIns_cons, show (k + 1) * 4 = k * 4 + 1 + 1 + 1 + 1 by omega, show k * 4 + 1 + 1 + 1 + 1 + 1 = (k * 4 + 1) + 1 + 1 + 1 + 1 by omega, show k * 4 + 1 + 1 + 1 + 1 + 2 = (k * 4 + 2) + 1 + 1 + 1 + 1 by omega, show k * 4 + 1 + 1 + 1 + 1 + 3 = (k * 4 + 3) + 1 + 1 + 1 + 1 by omega]
      simp only [List.set_cons_succ]
      rw [this]; rfl
theorem rowIns_store {w : World} {B g c : Nat} {rs : List Ins} (h : w.ownsRow B 74 4 (.slice (some ⟨g, 0, none⟩) rs.length c) rs.length (csIns rs)) (k : Nat) (hk : k < rs.length) (r : Ins) :
    ((((w.setCell ⟨g, k * 4, none⟩ (.int .i64 r.kd)).setCell ⟨g, k * 4 + 1, none⟩ (.int .i64 r.rg)).setCell ⟨g, k * 4 + 2, none⟩ (.int .i64 r.th)).setCell ⟨g, k * 4 + 3, none⟩ (.int .i64 r.el)).ownsRow B 74 4 (.slice (some ⟨g, 0, none⟩) rs.length c) rs.length (csIns (rs.set k r)) ∧
    w.grownBy ((((w.setCell ⟨g, k * 4, none⟩ (.int .i64 r.kd)).setCell ⟨g, k * 4 + 1, none⟩ (.int .i64 r.rg)).setCell ⟨g, k * 4 + 2, none⟩ (.int .i64 r.th)).setCell ⟨g, k * 4 + 3, none⟩ (.int .i64 r.el)) (some g) := by
  obtain ⟨h1, g1⟩ := h.stored (k * 4) (.int .i64 r.kd)
  obtain ⟨h2, g2⟩ := h1.stored (k * 4 + 1) (.int .i64 r.rg)
  obtain ⟨h3, g3⟩ := h2.stored (k * 4 + 2) (.int .i64 r.th)
  obtain ⟨h4, g4⟩ := h3.stored (k * 4 + 3) (.int .i64 r.el)
  rw [csIns_set rs k hk] at h4
  exact ⟨h4, (grown_trans (grown_trans (grown_trans g1 g2) g3) g4)⟩
theorem setIns_step (rs : List Ins) (k : Nat) (h : k < rs.length) : (rs.take k ++ List.replicate (rs.length - k) zIns).set k (rs.getD k zIns) = rs.take (k + 1) ++ List.replicate (rs.length - (k + 1)) zIns := by
  obtain ⟨m, hm⟩ : ∃ m, rs.length - k = m + 1 := ⟨rs.length - k - 1, by omega⟩
  have hm2 : rs.length - (k + 1) = m := by omega
  rw [hm, hm2, List.take_succ_eq_append_getElem h, List.replicate_succ, List.append_assoc, List.set_append_right _ _ (by simp; omega)]
  simp [List.getD_eq_getElem?_getD, List.getElem?_eq_getElem h, Nat.min_eq_left (Nat.le_of_lt h)]
theorem csIns_set0 (rs : List Ins) : ∀ (k : Nat) (h : k < rs.length) (x : Int), (csIns rs).set (k * 4) (.int .i64 x) = csIns (rs.set k { (rs.getD k zIns) with kd := x }) := by
  induction rs with
  | nil => intro k h; simp at h
  | cons y rs ih =>
    intro k h x
    cases k with
    | zero => simp [csIns_cons]
    | succ k =>
      have := ih k (by simpa using h) x
      rw [csIns_cons, show (k + 1) * 4 = (k * 4) + 1 + 1 + 1 + 1 by omega]
      simp only [List.set_cons_succ]
      rw [this]; simp [csIns_cons]
/-- One field stored into a row of the call's own. -/
theorem rowIns_set0 {w : World} {B g c n k : Nat} {rs : List Ins} (h : w.ownsRow B 74 4 (.slice (some ⟨g, 0, none⟩) n c) n (csIns rs)) (hk : k < rs.length) (x : Int) :
    w.cell? ⟨g, k * 4, none⟩ = some (.int .i64 (rs.getD k zIns).kd) ∧ w.frozen? ⟨g, k * 4, none⟩ = false ∧
    (w.setCell ⟨g, k * 4, none⟩ (.int .i64 x)).ownsRow B 74 4 (.slice (some ⟨g, 0, none⟩) n c) n (csIns (rs.set k { (rs.getD k zIns) with kd := x })) ∧ w.grownBy (w.setCell ⟨g, k * 4, none⟩ (.int .i64 x)) (some g) := by
  have hl := h.1
  rw [csIns_length] at hl
  have hn : rs.length = n := by omega
  subst hn
  obtain ⟨a0, a1, a2, a3⟩ := csIns_at rs k hk
  obtain ⟨h1, g1⟩ := h.stored (k * 4) (.int .i64 x)
  rw [csIns_set0 rs k hk] at h1
  exact ⟨by rw [h.cellAt _ (by omega)]; exact a0, h.frozenAt _, h1, g1⟩
theorem csIns_set1 (rs : List Ins) : ∀ (k : Nat) (h : k < rs.length) (x : Int), (csIns rs).set (k * 4 + 1) (.int .i64 x) = csIns (rs.set k { (rs.getD k zIns) with rg := x }) := by
  induction rs with
  | nil => intro k h; simp at h
  | cons y rs ih =>
    intro k h x
    cases k with
    | zero => simp [csIns_cons]
    | succ k =>
      have := ih k (by simpa using h) x
      rw [csIns_cons, show (k + 1) * 4 + 1 = (k * 4 + 1) + 1 + 1 + 1 + 1 by omega]
      simp only [List.set_cons_succ]
      rw [this]; simp [csIns_cons]
/-- One field stored into a row of the call's own. -/
theorem rowIns_set1 {w : World} {B g c n k : Nat} {rs : List Ins} (h : w.ownsRow B 74 4 (.slice (some ⟨g, 0, none⟩) n c) n (csIns rs)) (hk : k < rs.length) (x : Int) :
    w.cell? ⟨g, k * 4 + 1, none⟩ = some (.int .i64 (rs.getD k zIns).rg) ∧ w.frozen? ⟨g, k * 4 + 1, none⟩ = false ∧
    (w.setCell ⟨g, k * 4 + 1, none⟩ (.int .i64 x)).ownsRow B 74 4 (.slice (some ⟨g, 0, none⟩) n c) n (csIns (rs.set k { (rs.getD k zIns) with rg := x })) ∧ w.grownBy (w.setCell ⟨g, k * 4 + 1, none⟩ (.int .i64 x)) (some g) := by
  have hl := h.1
  rw [csIns_length] at hl
  have hn : rs.length = n := by omega
  subst hn
  obtain ⟨a0, a1, a2, a3⟩ := csIns_at rs k hk
  obtain ⟨h1, g1⟩ := h.stored (k * 4 + 1) (.int .i64 x)
  rw [csIns_set1 rs k hk] at h1
  exact ⟨by rw [h.cellAt _ (by omega)]; exact a1, h.frozenAt _, h1, g1⟩
theorem csIns_set2 (rs : List Ins) : ∀ (k : Nat) (h : k < rs.length) (x : Int), (csIns rs).set (k * 4 + 2) (.int .i64 x) = csIns (rs.set k { (rs.getD k zIns) with th := x }) := by
  induction rs with
  | nil => intro k h; simp at h
  | cons y rs ih =>
    intro k h x
    cases k with
    | zero => simp [csIns_cons]
    | succ k =>
      have := ih k (by simpa using h) x
      rw [csIns_cons, show (k + 1) * 4 + 2 = (k * 4 + 2) + 1 + 1 + 1 + 1 by omega]
      simp only [List.set_cons_succ]
      rw [this]; simp [csIns_cons]
/-- One field stored into a row of the call's own. -/
theorem rowIns_set2 {w : World} {B g c n k : Nat} {rs : List Ins} (h : w.ownsRow B 74 4 (.slice (some ⟨g, 0, none⟩) n c) n (csIns rs)) (hk : k < rs.length) (x : Int) :
    w.cell? ⟨g, k * 4 + 2, none⟩ = some (.int .i64 (rs.getD k zIns).th) ∧ w.frozen? ⟨g, k * 4 + 2, none⟩ = false ∧
    (w.setCell ⟨g, k * 4 + 2, none⟩ (.int .i64 x)).ownsRow B 74 4 (.slice (some ⟨g, 0, none⟩) n c) n (csIns (rs.set k { (rs.getD k zIns) with th := x })) ∧ w.grownBy (w.setCell ⟨g, k * 4 + 2, none⟩ (.int .i64 x)) (some g) := by
  have hl := h.1
  rw [csIns_length] at hl
  have hn : rs.length = n := by omega
  subst hn
  obtain ⟨a0, a1, a2, a3⟩ := csIns_at rs k hk
  obtain ⟨h1, g1⟩ := h.stored (k * 4 + 2) (.int .i64 x)
  rw [csIns_set2 rs k hk] at h1
  exact ⟨by rw [h.cellAt _ (by omega)]; exact a2, h.frozenAt _, h1, g1⟩
theorem csIns_set3 (rs : List Ins) : ∀ (k : Nat) (h : k < rs.length) (x : Int), (csIns rs).set (k * 4 + 3) (.int .i64 x) = csIns (rs.set k { (rs.getD k zIns) with el := x }) := by
  induction rs with
  | nil => intro k h; simp at h
  | cons y rs ih =>
    intro k h x
    cases k with
    | zero => simp [csIns_cons]
    | succ k =>
      have := ih k (by simpa using h) x
      rw [csIns_cons, show (k + 1) * 4 + 3 = (k * 4 + 3) + 1 + 1 + 1 + 1 by omega]
      simp only [List.set_cons_succ]
      rw [this]; simp [csIns_cons]
/-- One field stored into a row of the call's own. -/
theorem rowIns_set3 {w : World} {B g c n k : Nat} {rs : List Ins} (h : w.ownsRow B 74 4 (.slice (some ⟨g, 0, none⟩) n c) n (csIns rs)) (hk : k < rs.length) (x : Int) :
    w.cell? ⟨g, k * 4 + 3, none⟩ = some (.int .i64 (rs.getD k zIns).el) ∧ w.frozen? ⟨g, k * 4 + 3, none⟩ = false ∧
    (w.setCell ⟨g, k * 4 + 3, none⟩ (.int .i64 x)).ownsRow B 74 4 (.slice (some ⟨g, 0, none⟩) n c) n (csIns (rs.set k { (rs.getD k zIns) with el := x })) ∧ w.grownBy (w.setCell ⟨g, k * 4 + 3, none⟩ (.int .i64 x)) (some g) := by
  have hl := h.1
  rw [csIns_length] at hl
  have hn : rs.length = n := by omega
  subst hn
  obtain ⟨a0, a1, a2, a3⟩ := csIns_at rs k hk
  obtain ⟨h1, g1⟩ := h.stored (k * 4 + 3) (.int .i64 x)
  rw [csIns_set3 rs k hk] at h1
  exact ⟨by rw [h.cellAt _ (by omega)]; exact a3, h.frozenAt _, h1, g1⟩
/-- The marks k, k + 1, .. -/
def marksIns (k : Int) (n : Nat) : List Ins := (List.range n).map fun (i : Nat) => ⟨k + 4 * (i : Int), k + 4 * (i : Int) + 1, k + 4 * (i : Int) + 2, k + 4 * (i : Int) + 3⟩
@[simp] theorem length_marksIns (k : Int) (n : Nat) : (marksIns k n).length = n := by simp [marksIns]
theorem marksIns_at (k : Int) (n i : Nat) (h : i < n) : (marksIns k n).getD i zIns = ⟨k + 4 * (i : Int), k + 4 * (i : Int) + 1, k + 4 * (i : Int) + 2, k + 4 * (i : Int) + 3⟩ := by
  simp [marksIns, List.getD_eq_getElem?_getD, h]
theorem markIns_step (rs : List Ins) (k : Int) (i : Nat) (h : i < rs.length) :
    (marksIns k i ++ rs.drop i).set i ⟨k + 4 * (i : Int), k + 4 * (i : Int) + 1, k + 4 * (i : Int) + 2, k + 4 * (i : Int) + 3⟩ = marksIns k (i + 1) ++ rs.drop (i + 1) := by
  rw [List.set_append_right _ _ (by simp), List.drop_eq_getElem_cons h]
  simp only [length_marksIns, Nat.sub_self, List.set_cons_zero]
  simp [marksIns, List.range_succ]
theorem FitIns.marks {k : Int} {n : Nat} (h0 : 0 ≤ k) (h1 : k ≤ 1000000000000) (h2 : n ≤ 16777216) : FitIns (marksIns k n) := by
  intro r hr
  simp only [marksIns, List.mem_map, List.mem_range] at hr
  obtain ⟨i, hi, rfl⟩ := hr
  exact ⟨⟨by dsimp only; omega, by dsimp only; omega⟩, ⟨by dsimp only; omega, by dsimp only; omega⟩, ⟨by dsimp only; omega, by dsimp only; omega⟩, ⟨by dsimp only; omega, by dsimp only; omega⟩⟩
/-- What a store of an element into a row of the call's own asks and leaves. -/
theorem rowIns_open {w w1 : World} {B g c : Nat} {rs : List Ins} {k n : Nat} (h : w.ownsRow B 74 4 (.slice (some ⟨g, 0, none⟩) n c) n (csIns rs)) (hb : Below w.heap.size w w1) (hg : g < w.heap.size) (hk : k < rs.length) (r : Ins) :
    w1.cell? ⟨g, k * 4, none⟩ = some (.int .i64 ((rs.getD k zIns)).kd) ∧
    (w1.setCell ⟨g, k * 4, none⟩ (.int .i64 r.kd)).cell? ⟨g, k * 4 + 1, none⟩ = some (.int .i64 ((rs.getD k zIns)).rg) ∧
    ((w1.setCell ⟨g, k * 4, none⟩ (.int .i64 r.kd)).setCell ⟨g, k * 4 + 1, none⟩ (.int .i64 r.rg)).cell? ⟨g, k * 4 + 2, none⟩ = some (.int .i64 ((rs.getD k zIns)).th) ∧
    (((w1.setCell ⟨g, k * 4, none⟩ (.int .i64 r.kd)).setCell ⟨g, k * 4 + 1, none⟩ (.int .i64 r.rg)).setCell ⟨g, k * 4 + 2, none⟩ (.int .i64 r.th)).cell? ⟨g, k * 4 + 3, none⟩ = some (.int .i64 ((rs.getD k zIns)).el) ∧
    w1.frozen? ⟨g, k * 4, none⟩ = false ∧
    (w1.setCell ⟨g, k * 4, none⟩ (.int .i64 r.kd)).frozen? ⟨g, k * 4 + 1, none⟩ = false ∧
    ((w1.setCell ⟨g, k * 4, none⟩ (.int .i64 r.kd)).setCell ⟨g, k * 4 + 1, none⟩ (.int .i64 r.rg)).frozen? ⟨g, k * 4 + 2, none⟩ = false ∧
    (((w1.setCell ⟨g, k * 4, none⟩ (.int .i64 r.kd)).setCell ⟨g, k * 4 + 1, none⟩ (.int .i64 r.rg)).setCell ⟨g, k * 4 + 2, none⟩ (.int .i64 r.th)).frozen? ⟨g, k * 4 + 3, none⟩ = false ∧
    ((((w1.setCell ⟨g, k * 4, none⟩ (.int .i64 r.kd)).setCell ⟨g, k * 4 + 1, none⟩ (.int .i64 r.rg)).setCell ⟨g, k * 4 + 2, none⟩ (.int .i64 r.th)).setCell ⟨g, k * 4 + 3, none⟩ (.int .i64 r.el)).ownsRow B 74 4 (.slice (some ⟨g, 0, none⟩) n c) n (csIns (rs.set k r)) ∧
    (B ≤ w.heap.size → Below B w ((((w1.setCell ⟨g, k * 4, none⟩ (.int .i64 r.kd)).setCell ⟨g, k * 4 + 1, none⟩ (.int .i64 r.rg)).setCell ⟨g, k * 4 + 2, none⟩ (.int .i64 r.th)).setCell ⟨g, k * 4 + 3, none⟩ (.int .i64 r.el))) := by
  have hn : rs.length = n := by have := h.1; rw [csIns_length] at this; omega
  subst hn
  have hB : B ≤ g := (h.lt _ rfl).1
  have h' : w1.ownsRow B 74 4 (.slice (some ⟨g, 0, none⟩) rs.length c) rs.length (csIns rs) := by
    refine ⟨h.1, ?_⟩
    rcases h.2 with hn | ⟨g', cap, cur, hv, hbb, hgg, rest⟩
    · exact .inl hn
    · refine .inr ⟨g', cap, cur, hv, hbb, ?_, rest⟩
      cases hv
      rw [hb.block g hg]; exact hgg
  obtain ⟨a0, a1, a2, a3⟩ := csIns_at rs k hk
  obtain ⟨h1, g1⟩ := h'.stored (k * 4) (.int .i64 r.kd)
  obtain ⟨h2, g2⟩ := h1.stored (k * 4 + 1) (.int .i64 r.rg)
  obtain ⟨h3, g3⟩ := h2.stored (k * 4 + 2) (.int .i64 r.th)
  obtain ⟨h4, g4⟩ := h3.stored (k * 4 + 3) (.int .i64 r.el)
  have hl := csIns_length rs
  refine ⟨by rw [h'.cellAt _ (by omega)]; exact a0, by rw [h1.cellAt _ (by omega), List.getElem?_set_ne (by omega)]; exact a1, by rw [h2.cellAt _ (by omega), List.getElem?_set_ne (by omega), List.getElem?_set_ne (by omega)]; exact a2, by rw [h3.cellAt _ (by omega), List.getElem?_set_ne (by omega), List.getElem?_set_ne (by omega), List.getElem?_set_ne (by omega)]; exact a3, h'.frozenAt _, h1.frozenAt _, h2.frozenAt _, h3.frozenAt _, by rw [← csIns_set rs k hk]; exact h4, fun hBw => ?_⟩
  have hb' := hb.mono hBw
  exact ((((hb'.grown g1 (by have := hb.size; omega) (fun q hq => by cases hq; exact hB)).grown g2 (by have := hb.size; have := g1.size; omega) (fun q hq => by cases hq; exact hB)).grown g3 (by have := hb.size; have := g1.size; have := g2.size; omega) (fun q hq => by cases hq; exact hB)).grown g4 (by have := hb.size; have := g1.size; have := g2.size; have := g3.size; omega) (fun q hq => by cases hq; exact hB))
/-- The same, one store a statement. -/
theorem rowIns_each {w : World} {B g c n k : Nat} {rs : List Ins} (h : w.ownsRow B 74 4 (.slice (some ⟨g, 0, none⟩) n c) n (csIns rs)) (hk : k < rs.length) (r : Ins) :
    w.cell? ⟨g, k * 4, none⟩ = some (.int .i64 ((rs.getD k zIns)).kd) ∧
    (w.setCell ⟨g, k * 4, none⟩ (.int .i64 r.kd)).cell? ⟨g, k * 4 + 1, none⟩ = some (.int .i64 ((rs.getD k zIns)).rg) ∧
    ((w.setCell ⟨g, k * 4, none⟩ (.int .i64 r.kd)).setCell ⟨g, k * 4 + 1, none⟩ (.int .i64 r.rg)).cell? ⟨g, k * 4 + 2, none⟩ = some (.int .i64 ((rs.getD k zIns)).th) ∧
    (((w.setCell ⟨g, k * 4, none⟩ (.int .i64 r.kd)).setCell ⟨g, k * 4 + 1, none⟩ (.int .i64 r.rg)).setCell ⟨g, k * 4 + 2, none⟩ (.int .i64 r.th)).cell? ⟨g, k * 4 + 3, none⟩ = some (.int .i64 ((rs.getD k zIns)).el) ∧
    w.frozen? ⟨g, k * 4, none⟩ = false ∧
    (w.setCell ⟨g, k * 4, none⟩ (.int .i64 r.kd)).frozen? ⟨g, k * 4 + 1, none⟩ = false ∧
    ((w.setCell ⟨g, k * 4, none⟩ (.int .i64 r.kd)).setCell ⟨g, k * 4 + 1, none⟩ (.int .i64 r.rg)).frozen? ⟨g, k * 4 + 2, none⟩ = false ∧
    (((w.setCell ⟨g, k * 4, none⟩ (.int .i64 r.kd)).setCell ⟨g, k * 4 + 1, none⟩ (.int .i64 r.rg)).setCell ⟨g, k * 4 + 2, none⟩ (.int .i64 r.th)).frozen? ⟨g, k * 4 + 3, none⟩ = false ∧
    ((((w.setCell ⟨g, k * 4, none⟩ (.int .i64 r.kd)).setCell ⟨g, k * 4 + 1, none⟩ (.int .i64 r.rg)).setCell ⟨g, k * 4 + 2, none⟩ (.int .i64 r.th)).setCell ⟨g, k * 4 + 3, none⟩ (.int .i64 r.el)).ownsRow B 74 4 (.slice (some ⟨g, 0, none⟩) n c) n (csIns (rs.set k r)) ∧
    w.grownBy ((((w.setCell ⟨g, k * 4, none⟩ (.int .i64 r.kd)).setCell ⟨g, k * 4 + 1, none⟩ (.int .i64 r.rg)).setCell ⟨g, k * 4 + 2, none⟩ (.int .i64 r.th)).setCell ⟨g, k * 4 + 3, none⟩ (.int .i64 r.el)) (some g) := by
  have hn : rs.length = n := by have := h.1; rw [csIns_length] at this; omega
  subst hn
  obtain ⟨a0, a1, a2, a3⟩ := csIns_at rs k hk
  obtain ⟨h1, g1⟩ := h.stored (k * 4) (.int .i64 r.kd)
  obtain ⟨h2, g2⟩ := h1.stored (k * 4 + 1) (.int .i64 r.rg)
  obtain ⟨h3, g3⟩ := h2.stored (k * 4 + 2) (.int .i64 r.th)
  obtain ⟨h4, g4⟩ := h3.stored (k * 4 + 3) (.int .i64 r.el)
  have hl := csIns_length rs
  obtain ⟨p1, p2⟩ := rowIns_store h k hk r
  exact ⟨by rw [h.cellAt _ (by omega)]; exact a0, by rw [h1.cellAt _ (by omega), List.getElem?_set_ne (by omega)]; exact a1, by rw [h2.cellAt _ (by omega), List.getElem?_set_ne (by omega), List.getElem?_set_ne (by omega)]; exact a2, by rw [h3.cellAt _ (by omega), List.getElem?_set_ne (by omega), List.getElem?_set_ne (by omega), List.getElem?_set_ne (by omega)]; exact a3, h.frozenAt _, h1.frozenAt _, h2.frozenAt _, h3.frozenAt _, p1, p2⟩
theorem eq1Ins (x0 x1 x2 x3 : Int) (w : World) : Calls Tryd.prog 47 #[.agg #[.int .i64 x0, .int .i64 x1, .int .i64 x2, .int .i64 x3], .agg #[.int .i64 x0, .int .i64 x1, .int .i64 x2, .int .i64 x3]] w fun e w' => e = .returned (.bool true) ∧ Below w.heap.size w w' := by
  go_enter Tryd.func47, Tryd.ntmps47
  go_wp2
  go_ret
  exact ⟨rfl, ((Below.refl _ _).alloc (Nat.le_refl _) _).alloc (by simp) _⟩
set_option maxHeartbeats 2000000 in
theorem eqIns (u v : Value) (rs : List Ins) (w : World) (hu : RdIns w u rs) (hv : RdIns w v rs) :
    Calls Tryd.prog 9 #[u, v] w fun e w' => e = .returned (.bool true) ∧ Below w.heap.size w w' := by
  obtain ⟨hl, hf, a, c, rfl, hcap, hr⟩ := hu
  obtain ⟨_, _, a', c', rfl, _, hr'⟩ := hv
  go_enter Tryd.func9, Tryd.ntmps9
  go_wp2
  go_loopw [5] (fun s wr => ∃ k : Nat, k ≤ rs.length ∧ s = .int .i64 k ∧ Below w.heap.size w wr) (fun s _ => rs.length - (intOf s).toNat)
  case atStart => exact ⟨0, Nat.zero_le _, rfl, Below.refl _ _⟩
  case round =>
    obtain ⟨k, hk, rfl, hbel⟩ := hrel
    by_cases hlt : k < rs.length
    · obtain ⟨b, o, rfl, hb, hcell⟩ := hr (by intro h0; rw [h0] at hlt; simp at hlt)
      obtain ⟨b', o', rfl, hb', hcell'⟩ := hr' (by intro h0; rw [h0] at hlt; simp at hlt)
      obtain ⟨c0, c1, c2, c3⟩ := hcell k hlt
      obtain ⟨d0, d1, d2, d3⟩ := hcell' k hlt
      replace c0 := (hbel.cell (p := ⟨b, o + k * 4, none⟩) hb).trans c0
      replace c1 := (hbel.cell (p := ⟨b, o + k * 4 + 1, none⟩) hb).trans c1
      replace c2 := (hbel.cell (p := ⟨b, o + k * 4 + 2, none⟩) hb).trans c2
      replace c3 := (hbel.cell (p := ⟨b, o + k * 4 + 3, none⟩) hb).trans c3
      replace d0 := (hbel.cell (p := ⟨b', o' + k * 4, none⟩) hb').trans d0
      replace d1 := (hbel.cell (p := ⟨b', o' + k * 4 + 1, none⟩) hb').trans d1
      replace d2 := (hbel.cell (p := ⟨b', o' + k * 4 + 2, none⟩) hb').trans d2
      replace d3 := (hbel.cell (p := ⟨b', o' + k * 4 + 3, none⟩) hb').trans d3
      obtain ⟨r, hr0⟩ : ∃ r, r = rs.getD k zIns := ⟨_, rfl⟩
      rw [← hr0] at c0 c1 c2 c3 d0 d1 d2 d3
      have HB := Lib.hid hbel
      clear hcell hcell' hbel hr hr' hr0
      obtain ⟨x0, x1, x2, x3⟩ := r
      have i0 : (0 : Int) ≤ (k : Int) := by omega
      have i1 : (k : Int) < (rs.length : Int) := by omega
      have HC : Hid (∀ W, Below wr.heap.size wr W → (W.cell? ⟨b, o + k * 4, none⟩ = some (.int .i64 x0) ∧ W.cell? ⟨b, o + k * 4 + 1, none⟩ = some (.int .i64 x1) ∧ W.cell? ⟨b, o + k * 4 + 2, none⟩ = some (.int .i64 x2) ∧ W.cell? ⟨b, o + k * 4 + 3, none⟩ = some (.int .i64 x3)) ∧ (W.cell? ⟨b', o' + k * 4, none⟩ = some (.int .i64 x0) ∧ W.cell? ⟨b', o' + k * 4 + 1, none⟩ = some (.int .i64 x1) ∧ W.cell? ⟨b', o' + k * 4 + 2, none⟩ = some (.int .i64 x2) ∧ W.cell? ⟨b', o' + k * 4 + 3, none⟩ = some (.int .i64 x3))) := Lib.hid (fun W hW => by
        have hb1 : b < wr.heap.size := World.block_lt_of_cell? wr _ c0
        have hb2 : b' < wr.heap.size := World.block_lt_of_cell? wr _ d0
        exact ⟨⟨(hW.cell (p := ⟨b, o + k * 4, none⟩) hb1).trans c0, (hW.cell (p := ⟨b, o + k * 4 + 1, none⟩) hb1).trans c1, (hW.cell (p := ⟨b, o + k * 4 + 2, none⟩) hb1).trans c2, (hW.cell (p := ⟨b, o + k * 4 + 3, none⟩) hb1).trans c3⟩, (hW.cell (p := ⟨b', o' + k * 4, none⟩) hb2).trans d0, (hW.cell (p := ⟨b', o' + k * 4 + 1, none⟩) hb2).trans d1, (hW.cell (p := ⟨b', o' + k * 4 + 2, none⟩) hb2).trans d2, (hW.cell (p := ⟨b', o' + k * 4 + 3, none⟩) hb2).trans d3⟩)
      have HX : Hid (Below wr.heap.size wr wr.drew) := Lib.hid (Below.refl _ _).drew
      have HBB := Lib.hid hb
      have HBB' := Lib.hid hb'
      have HW : Hid (Below w.heap.size w wr.drew) := Lib.hid HB.out.drew
      go_wp2_with fail
      go_region_held3 (fun w' => (w'.cell? ⟨b, o + k * 4, none⟩ = some (.int .i64 x0) ∧ w'.cell? ⟨b, o + k * 4 + 1, none⟩ = some (.int .i64 x1) ∧ w'.cell? ⟨b, o + k * 4 + 2, none⟩ = some (.int .i64 x2) ∧ w'.cell? ⟨b, o + k * 4 + 3, none⟩ = some (.int .i64 x3)) ∧ (w'.cell? ⟨b', o' + k * 4, none⟩ = some (.int .i64 x0) ∧ w'.cell? ⟨b', o' + k * 4 + 1, none⟩ = some (.int .i64 x1) ∧ w'.cell? ⟨b', o' + k * 4 + 2, none⟩ = some (.int .i64 x2) ∧ w'.cell? ⟨b', o' + k * 4 + 3, none⟩ = some (.int .i64 x3)))
        (exact HC.out _ HX.out)
        (first | (go_at_call 47; refine (eq1Ins x0 x1 x2 x3 _).mono ?_; rintro e3 w3 ⟨rfl, hb3⟩; replace HW := Lib.hid (HW.out.trans (hb3.mono HW.out.size)); replace HX := Lib.hid (HX.out.trans (hb3.mono HX.out.size)); clear hb3))
      all_goals
        go_wp2
        go_roundw
        case rel => exact ⟨k + 1, by omega, by go_num, HW.out⟩
        case measure => simp [intOf]; omega
    · have HB := Lib.hid hbel
      clear hbel
      go_wp2
      go_ret
      exact ⟨rfl, HB.out⟩
set_option maxHeartbeats 2000000 in
theorem markIns (v : Value) (rs : List Ins) (k0 : Int) (B T : Nat) (w : World) (h : OwIns w B T v rs) (h0 : 0 ≤ k0) (h1 : k0 ≤ 100000000000) :
    Calls Tryd.prog 10 #[v, .int .i64 k0] w fun e w' => e = .returned (.int .i64 (k0 + 4 * (rs.length : Int))) ∧ OwIns w' B T v (marksIns k0 rs.length) ∧ w.grownBy w' v.ownBlock := by
  have hl := h.len
  rcases h.form with ⟨rfl, rfl⟩ | ⟨g, c, rfl, hb, hg, hn, hm, hr⟩
  · have H := Lib.hid h
    clear h hl
    go_enter Tryd.func10, Tryd.ntmps10
    go_wp2
    refine wp_loop_rounds 1 ?_
    rw [rounds_succ]
    go_wp2
    go_ret
    exact ⟨by simp, H.out, World.grownBy.refl _ _⟩
  · have hT := h.size
    have H := Lib.hid h
    have HR := Lib.hid hr
    clear h hr
    go_enter Tryd.func10, Tryd.ntmps10
    go_wp2
    go_loopw [1, 5] (fun q s wr => ∃ i : Nat, i ≤ rs.length ∧ s = .int .i64 i ∧ q = .int .i64 (k0 + 4 * (i : Int)) ∧
        wr.ownsRow B 74 4 (.slice (some ⟨g, 0, none⟩) rs.length c) rs.length (csIns (marksIns k0 i ++ rs.drop i)) ∧ w.grownBy wr (some g))
      (fun _ s _ => rs.length - (intOf s).toNat)
    case atStart => exact ⟨0, Nat.zero_le _, rfl, by simp, by simpa [marksIns] using HR.out, World.grownBy.refl _ _⟩
    case round =>
      obtain ⟨i, hi, rfl, rfl, hown, hgr⟩ := hrel
      by_cases hlt : i < rs.length
      · obtain ⟨d0, d1, d2, d3, e0, e1, e2, e3, s1, s2⟩ := rowIns_each (k := i) hown (by rw [List.length_append, length_marksIns, List.length_drop]; omega) ⟨k0 + 4 * (i : Int), k0 + 4 * (i : Int) + 1, k0 + 4 * (i : Int) + 2, k0 + 4 * (i : Int) + 3⟩
        rw [markIns_step rs k0 i hlt] at s1
        have HS := Lib.hid s1
        have HG := Lib.hid (grown_trans hgr s2)
        obtain ⟨m, hmm⟩ : ∃ m, m = k0 + 4 * (i : Int) := ⟨_, rfl⟩
        have w1 : IntKind.i64.wrap (m + 1) = m + 1 := by rw [IntKind.wrap_i64]; omega
        have w2 : IntKind.i64.wrap (m + 2) = m + 2 := by rw [IntKind.wrap_i64]; omega
        have w3 : IntKind.i64.wrap (m + 3) = m + 3 := by rw [IntKind.wrap_i64]; omega
        have w4 : IntKind.i64.wrap (m + 4) = m + 4 := by rw [IntKind.wrap_i64]; omega
        have v1 : IntKind.i64.wrap (m + 1 + 1) = m + 2 := by rw [IntKind.wrap_i64]; omega
        have v2 : IntKind.i64.wrap (m + 2 + 1) = m + 3 := by rw [IntKind.wrap_i64]; omega
        have v3 : IntKind.i64.wrap (m + 3 + 1) = m + 4 := by rw [IntKind.wrap_i64]; omega
        have i0 : (0 : Int) ≤ (i : Int) := by omega
        have i1 : (i : Int) < (rs.length : Int) := by omega
        have HM := Lib.hid hmm
        obtain ⟨q, hq⟩ : ∃ q, q = (marksIns k0 i ++ rs.drop i).getD i zIns := ⟨_, rfl⟩
        rw [← hq] at d0 d1 d2 d3
        dsimp only at d1 d2 d3 e1 e2 e3 HS HG
        rw [← hmm] at d1 d2 d3 e1 e2 e3 HS HG ⊢
        clear hown hgr s1 s2 hq hmm
        go_wp2
        go_roundw
        case rel => exact ⟨i + 1, by omega, by go_num, by have := HM.out; first | (go_num; omega) | (simp; omega), HS.out, HG.out⟩
        case measure => simp [intOf]; omega
      · obtain rfl : i = rs.length := by omega
        have HS := Lib.hid hown
        have HB := Lib.hid hgr
        clear hown hgr
        go_wp2
        go_ret
        refine ⟨rfl, ⟨by simpa using hl, FitIns.marks h0 (by omega) hl, ?_, H.out.top, Nat.le_trans hT HB.out.size, H.out.base⟩, HB.out⟩
        have := HS.out; simpa using this
set_option maxHeartbeats 2000000 in
theorem heldIns (v : Value) (n : Nat) (k0 : Int) (w : World) (h : RdIns w v (marksIns k0 n)) (h0 : 0 ≤ k0) (h1 : k0 ≤ 100000000000) :
    Calls Tryd.prog 11 #[v, .int .i64 k0] w fun e w' => e = .returned (.int .i64 (k0 + 4 * (n : Int))) ∧ Below w.heap.size w w' := by
  obtain ⟨hl, hf, a, c, rfl, hcap, hr⟩ := h
  simp only [length_marksIns] at hl hcap hr
  have hfit := hf
  rw [length_marksIns]
  clear hf
  go_enter Tryd.func11, Tryd.ntmps11
  go_wp2
  go_loopw [1, 5] (fun q s wr => ∃ i : Nat, i ≤ n ∧ s = .int .i64 i ∧ q = .int .i64 (k0 + 4 * (i : Int)) ∧ Below w.heap.size w wr) (fun _ s _ => n - (intOf s).toNat)
  case atStart => exact ⟨0, Nat.zero_le _, rfl, by simp, Below.refl _ _⟩
  case round =>
    obtain ⟨i, hi, rfl, rfl, hbel⟩ := hrel
    by_cases hlt : i < n
    · obtain ⟨b, o, rfl, hb, hcell⟩ := hr (by intro h0; have := congrArg List.length h0; simp at this; omega)
      obtain ⟨c0, c1, c2, c3⟩ := hcell i hlt
      rw [marksIns_at k0 n i hlt] at c0 c1 c2 c3
      replace c0 := (hbel.cell (p := ⟨b, o + i * 4, none⟩) hb).trans c0
      replace c1 := (hbel.cell (p := ⟨b, o + i * 4 + 1, none⟩) hb).trans c1
      replace c2 := (hbel.cell (p := ⟨b, o + i * 4 + 2, none⟩) hb).trans c2
      replace c3 := (hbel.cell (p := ⟨b, o + i * 4 + 3, none⟩) hb).trans c3
      obtain ⟨m, hmm⟩ : ∃ m, m = k0 + 4 * (i : Int) := ⟨_, rfl⟩
      have w1 : IntKind.i64.wrap (m + 1) = m + 1 := by rw [IntKind.wrap_i64]; omega
      have v1 : IntKind.i64.wrap (m + 1 + 1) = m + 2 := by rw [IntKind.wrap_i64]; omega
      have v2 : IntKind.i64.wrap (m + 2 + 1) = m + 3 := by rw [IntKind.wrap_i64]; omega
      have v3 : IntKind.i64.wrap (m + 3 + 1) = m + 4 := by rw [IntKind.wrap_i64]; omega
      have i0 : (0 : Int) ≤ (i : Int) := by omega
      have i1 : (i : Int) < (n : Int) := by omega
      have HM := Lib.hid hmm
      have HB := Lib.hid hbel
      dsimp only at c0 c1 c2 c3
      rw [← hmm] at c0 c1 c2 c3 ⊢
      clear hcell hr hmm hbel
      go_wp2
      go_roundw
      case rel => exact ⟨i + 1, by omega, by go_num, by have := HM.out; first | (go_num; omega) | (simp; omega), HB.out⟩
      case measure => simp [intOf]; omega
    · obtain rfl : i = n := by omega
      have HB := Lib.hid hbel
      clear hbel
      go_wp2
      go_ret
      exact ⟨rfl, HB.out⟩
theorem csIns_oneCell (rs : List Ins) : ∀ u ∈ csIns rs, u.oneCell' = true := by
  intro u hu
  simp only [csIns, List.mem_flatMap, Ins.cs] at hu
  obtain ⟨r, _, hu⟩ := hu
  simp only [List.mem_cons, List.not_mem_nil, or_false] at hu
  rcases hu with h | h | h | h <;> subst h <;> rfl
theorem RdIns.cells {w : World} {ad : Addr} {n c : Nat} {rs : List Ins} (h : RdIns w (.slice (some ad) n c) rs) {W : World} (hW : Below w.heap.size w W) :
    n = rs.length ∧ n ≤ c ∧ ∀ j x, (csIns rs)[j]? = some x → W.cell? (ad.add j) = some x := by
  obtain ⟨hl, hf, a, c', hv, hcap, hr⟩ := h
  simp only [Value.slice.injEq] at hv
  obtain ⟨rfl, rfl, rfl⟩ := hv
  refine ⟨rfl, hcap, fun j x hx => ?_⟩
  have hj : j < rs.length * 4 := by rw [← csIns_length]; exact (List.getElem?_eq_some_iff.1 hx).1
  obtain ⟨b, o, ha, hb, hcell⟩ := hr (by intro h0; rw [h0] at hj; simp at hj)
  cases ha
  obtain ⟨i, t, ht, rfl⟩ : ∃ i t, t < 4 ∧ j = i * 4 + t := ⟨j / 4, j % 4, by omega, by omega⟩
  obtain ⟨c0, c1, c2, c3⟩ := hcell i (by omega)
  obtain ⟨d0, d1, d2, d3⟩ := csIns_at rs i (by omega)
  rw [Addr.add_lit]
  have ht3 : t = 0 ∨ t = 1 ∨ t = 2 ∨ t = 3 := by omega
  rcases ht3 with rfl | rfl | rfl | rfl
  · rw [Nat.add_zero] at hx ⊢
    rw [d0] at hx
    exact ((hW.cell (p := ⟨b, o + i * 4, none⟩) hb).trans c0).trans hx
  · rw [d1] at hx
    exact ((hW.cell (p := ⟨b, o + (i * 4 + 1), none⟩) hb).trans c1).trans hx
  · rw [d2] at hx
    exact ((hW.cell (p := ⟨b, o + (i * 4 + 2), none⟩) hb).trans c2).trans hx
  · rw [d3] at hx
    exact ((hW.cell (p := ⟨b, o + (i * 4 + 3), none⟩) hb).trans c3).trans hx
theorem eqlNoneIns (l c : Nat) (w : World) : (binOp .eql 22 (.slice none l c) (.slice none 0 0)).run Tryd.prog w = .ok (.bool true) w := by kernel_rfl
theorem eqlSomeIns (a : Addr) (l c : Nat) (w : World) : (binOp .eql 22 (.slice (some a) l c) (.slice none 0 0)).run Tryd.prog w = .ok (.bool false) w := by kernel_rfl
/-- Whatever slice is appended to a row of the call's own. -/
theorem wpList_append_Ins {w : World} {ops : Array Oper} {rest : List Oper} {o : Oper} {a : Act} {Q : Exit → Act → World → Prop} (hgd : o.guard = none) (s x : Operand)
    (ho : o.op = .call { callee := .builtin .append, args := #[s, x], argTypes := #[22, 22] })
    (base : Nat) (v u : Value) (xs ys : List Ins) (hs : a.eval s = v) (hown : w.ownsRow base 74 4 v xs.length (csIns xs)) (hx : a.eval x = u) (hu : RdIns w u ys)
    (hn : xs.length + ys.length ≤ 33554432) (hbase : base ≤ w.heap.size)
    (h : ∀ v' w', w'.ownsRow base 74 4 v' (xs.length + ys.length) (csIns (xs ++ ys)) → w.grownBy w' v.ownBlock → wpList Tryd.prog ops Q rest (a.put o.dst v') w') : wpList Tryd.prog ops Q (o :: rest) a w := by
  obtain ⟨i0, hi, hz0, hz1, hz2⟩ := info_parts infoIns
  have HU := hu
  obtain ⟨hl, hf, ad, c, rfl, hcap, hr⟩ := hu
  cases ad with
  | some ad =>
    exact wpList_append_own _ hgd s x 22 ho base 74 i0 (.agg #[.int .i64 0, .int .i64 0, .int .i64 0, .int .i64 0]) 4 32 Tryd.underlying22 hi hz0 hz1 hz2 rfl (by decide) v xs.length (csIns xs) hs hown ad ys.length c (csIns ys) hx (by simp) (HU.cells (Below.refl _ _)).2.2 (csIns_oneCell ys)
      (by unfold maxLen; omega) (by omega) hbase (fun v' w' h1 h2 _ => h v' w' (by rw [csIns_append]; exact h1) h2)
  | none =>
    obtain rfl : ys = [] := by
      cases ys with
      | nil => rfl
      | cons z zs => obtain ⟨b, o, h, _⟩ := hr (by simp); cases h
    have hfin := h v w (by simpa using hown) (grown_refl _ _)
    refine wpList_plain hgd fun K hK' => ?_
    have hv : ∃ ao n cp, v = .slice ao n cp ∧ n ≤ cp := by
      rcases hown.2 with ⟨rfl, _⟩ | ⟨g, cp, cur, rfl, _, _, hnc, _⟩
      · exact ⟨none, 0, 0, rfl, Nat.le_refl _⟩
      · exact ⟨_, _, _, rfl, hnc⟩
    obtain ⟨ao, n, cp, rfl, hle⟩ := hv
    have hrun := run_append_nothing w 22 22 o.type 74 i0 Tryd.underlying22 hi ao n cp hle (.slice none 0 c) (Src.ofNil w Tryd.underlying22 c)
    unfold Oper.wp
    simp [execOp, ho, resolve, invoke, builtin, hs, hx, hrun, Result.andThen]
    exact hK' _ _ hfin
/-- The same, in a region. -/
theorem step_append_Ins {w : World} {ops : Array Oper} {o : Oper} {a : Act} {K : Act → World → Prop} {Q : Exit → Act → World → Prop} {E : Prop} (hgd : o.guard = none) (s x : Operand)
    (ho : o.op = .call { callee := .builtin .append, args := #[s, x], argTypes := #[22, 22] })
    (base : Nat) (v u : Value) (xs ys : List Ins) (hs : a.eval s = v) (hown : w.ownsRow base 74 4 v xs.length (csIns xs)) (hx : a.eval x = u) (hu : RdIns w u ys)
    (hn : xs.length + ys.length ≤ 33554432) (hbase : base ≤ w.heap.size)
    (h : ∀ v' w', w'.ownsRow base 74 4 v' (xs.length + ys.length) (csIns (xs ++ ys)) → w.grownBy w' v.ownBlock → K (a.put o.dst v') w') :
    if Region.wanted o (yielded ops a.tmps) = true then Oper.wp Tryd.prog o a w K Q else E := by
  have hw : Region.wanted o (yielded ops a.tmps) = true := by simp [Region.wanted, hgd]
  rw [if_pos hw]
  obtain ⟨i0, hi, hz0, hz1, hz2⟩ := info_parts infoIns
  have HU := hu
  obtain ⟨hl, hf, ad, c, rfl, hcap, hr⟩ := hu
  cases ad with
  | some ad =>
    exact wp_append_own w s x 22 ho base 74 i0 (.agg #[.int .i64 0, .int .i64 0, .int .i64 0, .int .i64 0]) 4 32 Tryd.underlying22 hi hz0 hz1 hz2 rfl (by decide) v xs.length (csIns xs) hs hown ad ys.length c (csIns ys) hx (by simp) (HU.cells (Below.refl _ _)).2.2 (csIns_oneCell ys)
      (by unfold maxLen; omega) (by omega) hbase (fun v' w' h1 h2 _ => h v' w' (by rw [csIns_append]; exact h1) h2)
  | none =>
    obtain rfl : ys = [] := by
      cases ys with
      | nil => rfl
      | cons z zs => obtain ⟨b, o, h, _⟩ := hr (by simp); cases h
    have hfin := h v w (by simpa using hown) (grown_refl _ _)
    have hv : ∃ ao n cp, v = .slice ao n cp ∧ n ≤ cp := by
      rcases hown.2 with ⟨rfl, _⟩ | ⟨g, cp, cur, rfl, _, _, hnc, _⟩
      · exact ⟨none, 0, 0, rfl, Nat.le_refl _⟩
      · exact ⟨_, _, _, rfl, hnc⟩
    obtain ⟨ao, n, cp, rfl, hle⟩ := hv
    have hrun := run_append_nothing w 22 22 o.type 74 i0 Tryd.underlying22 hi ao n cp hle (.slice none 0 c) (Src.ofNil w Tryd.underlying22 c)
    unfold Oper.wp
    simp [execOp, ho, resolve, invoke, builtin, hs, hx, hrun, Result.andThen]
    exact hfin
/-- A block that holds one element. -/
theorem rdIns_one {w : World} {b : Nat} {r : Ins} (h : Cels w b 74 r.cs) (hf : r.fit) : RdIns w (.slice (some ⟨b, 0, none⟩) 1 1) [r] := by
  refine ⟨by simp, fun x hx => by simp at hx; subst hx; exact hf, some ⟨b, 0, none⟩, 1, rfl, by simp, fun _ => ⟨b, 0, rfl, h.lt, fun i hi => ?_⟩⟩
  obtain rfl : i = 0 := by simpa using hi
  exact ⟨by simpa using h.cell 0 rfl, by simpa using h.cell 1 rfl, by simpa using h.cell 2 rfl, by simpa using h.cell 3 rfl⟩
/-- Behind an append of one element. -/
theorem OwIns.snoc {wr w1 : World} {B T : Nat} {ov v' : Value} {xs : List Ins} {r : Ins} {ob : Obj} (h : OwIns wr B T ov xs) (h0 : r.fit) (hl : xs.length < 16777216)
    (hown1 : w1.ownsRow B 74 4 v' (xs.length + 1) (csIns xs ++ r.cs)) (hgrow : (wr.alloc ob).grownBy w1 ov.ownBlock) :
    OwIns w1 B w1.heap.size v' (xs ++ [r]) ∧ Below B wr w1 := by
  have hb : B ≤ wr.heap.size := Nat.le_trans h.base h.size
  have hB : Below B wr w1 := ((Below.refl B wr).alloc hb _).grown hgrow (by simp; omega) (fun q hq => (h.row.lt q hq).1)
  refine ⟨⟨by simp; omega, h.fit.app (fun x hx => by simp at hx; subst hx; exact h0), ?_, fun k hk => (hown1.lt k hk).2, Nat.le_refl _, Nat.le_trans hb hB.size⟩, hB⟩
  rw [csIns_append, List.length_append]
  simpa [csIns] using hown1
end Go.Proofs.YtbigoljfanendaaDoor.Ints
