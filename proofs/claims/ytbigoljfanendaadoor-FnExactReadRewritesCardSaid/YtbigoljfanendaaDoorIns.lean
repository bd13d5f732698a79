/- Slices of Instr in memory: what is said of them; those that came in. (gen_flat.py) -/
import Derived.Test.YtbigoljfanendaaDoorInts
import Derived.Test.YtbigoljfanendaaDoorOwn
import Derived.Test.YtbigoljfanendaaDoorCel
import Derived.Deep.Strs
import Derived.Deep.Slices
import Derived.Lib.SmallJoins
namespace Go.Proofs.YtbigoljfanendaaDoor.Ints
open Go.RowKit
set_option linter.unusedVariables false
set_option linter.unusedSimpArgs false

structure Ins where
  kd : Int
  rg : Int
  th : Int
  el : Int
def Ins.cs (r : Ins) : List Value := [.int .i64 r.kd, .int .i64 r.rg, .int .i64 r.th, .int .i64 r.el]
def Ins.agg (r : Ins) : Value := .agg #[.int .i64 r.kd, .int .i64 r.rg, .int .i64 r.th, .int .i64 r.el]
def csIns (rs : List Ins) : List Value := rs.flatMap Ins.cs
def zIns : Ins := ⟨0, 0, 0, 0⟩
def Ins.fit (r : Ins) : Prop := fit64 r.kd ∧ fit64 r.rg ∧ fit64 r.th ∧ fit64 r.el
def FitIns (rs : List Ins) : Prop := ∀ r ∈ rs, r.fit
@[simp] theorem csIns_nil : csIns [] = [] := rfl
theorem csIns_cons (r : Ins) (rs : List Ins) : csIns (r :: rs) = .int .i64 r.kd :: .int .i64 r.rg :: .int .i64 r.th :: .int .i64 r.el :: csIns rs := rfl
@[simp] theorem csIns_length (rs : List Ins) : (csIns rs).length = rs.length * 4 := by
  induction rs with
  | nil => rfl
  | cons r rs ih => rw [csIns_cons]; simp only [List.length_cons, ih]; omega
theorem csIns_append (xs ys : List Ins) : csIns (xs ++ ys) = csIns xs ++ csIns ys := by simp [csIns]
theorem csIns_at (rs : List Ins) : ∀ i, i < rs.length → (csIns rs)[i * 4]? = some (.int .i64 ((rs.getD i zIns)).kd) ∧ (csIns rs)[i * 4 + 1]? = some (.int .i64 ((rs.getD i zIns)).rg) ∧ (csIns rs)[i * 4 + 2]? = some (.int .i64 ((rs.getD i zIns)).th) ∧ (csIns rs)[i * 4 + 3]? = some (.int .i64 ((rs.getD i zIns)).el) := by
  induction rs with
  | nil => intro i hi; simp at hi
  | cons r rs ih =>
    intro i hi
    cases i with
    | zero => simp [csIns_cons]
    | succ i =>
      have h := ih i (by simpa using hi)
      rw [csIns_cons, show (i + 1) * 4 = i * 4 + 4 by omega]
      simpa using h
theorem getIns_mem {rs : List Ins} {i : Nat} (h : i < rs.length) : rs.getD i zIns ∈ rs := by
  rw [List.getD_eq_getElem?_getD, List.getElem?_eq_getElem h]; exact List.getElem_mem h
theorem FitIns.at {rs : List Ins} (h : FitIns rs) (i : Nat) : (rs.getD i zIns).fit := by
  by_cases hi : i < rs.length
  · exact h _ (getIns_mem hi)
  · rw [List.getD_eq_getElem?_getD, List.getElem?_eq_none (by omega)]; simp [zIns, Ins.fit, fit64]
theorem FitIns.nil : FitIns [] := fun _ h => by cases h
theorem FitIns.app {xs ys : List Ins} (h : FitIns xs) (k : FitIns ys) : FitIns (xs ++ ys) := fun r hr => by
  rcases List.mem_append.1 hr with hr | hr
  · exact h r hr
  · exact k r hr

/-- The value v is a slice that reads the elements rs. -/
structure RdIns (w : World) (v : Value) (rs : List Ins) : Prop where
  len : rs.length ≤ 16777216
  fit : FitIns rs
  val : ∃ a c, v = .slice a rs.length c ∧ rs.length ≤ c ∧ (rs ≠ [] → ∃ b o, a = some ⟨b, o, none⟩ ∧ b < w.heap.size ∧ ∀ i, i < rs.length →
    w.cell? ⟨b, o + i * 4, none⟩ = some (.int .i64 ((rs.getD i zIns)).kd) ∧ w.cell? ⟨b, o + i * 4 + 1, none⟩ = some (.int .i64 ((rs.getD i zIns)).rg) ∧ w.cell? ⟨b, o + i * 4 + 2, none⟩ = some (.int .i64 ((rs.getD i zIns)).th) ∧ w.cell? ⟨b, o + i * 4 + 3, none⟩ = some (.int .i64 ((rs.getD i zIns)).el))
/-- The value v is a row of the call's own, in a block from B on and below T, that reads rs. -/
structure OwIns (w : World) (B T : Nat) (v : Value) (rs : List Ins) : Prop where
  len : rs.length ≤ 16777216
  fit : FitIns rs
  row : w.ownsRow B 74 4 v rs.length (csIns rs)
  top : ∀ k, v.ownBlock = some k → k < T
  size : T ≤ w.heap.size
  base : B ≤ T
theorem OwIns.form {w : World} {B T : Nat} {v : Value} {rs : List Ins} (h : OwIns w B T v rs) :
    (v = .slice none 0 0 ∧ rs = []) ∨ ∃ g c, v = .slice (some ⟨g, 0, none⟩) rs.length c ∧ B ≤ g ∧ g < T ∧ rs.length ≤ c ∧ c ≤ maxLen ∧
      w.ownsRow B 74 4 (.slice (some ⟨g, 0, none⟩) rs.length c) rs.length (csIns rs) := by
  have hr := h.row
  rcases hr.2 with ⟨rfl, h0⟩ | ⟨g, c, cur, rfl, hb, hg, hn, hm, _⟩
  · exact .inl ⟨rfl, List.eq_nil_of_length_eq_zero h0⟩
  · exact .inr ⟨g, c, rfl, hb, h.top g rfl, hn, hm, hr⟩
theorem OwIns.rd {w : World} {B T : Nat} {v : Value} {rs : List Ins} (h : OwIns w B T v rs) : RdIns w v rs := by
  rcases h.form with ⟨rfl, rfl⟩ | ⟨g, c, rfl, hb, hg, hn, hm, hr⟩
  · exact ⟨h.len, h.fit, none, 0, rfl, by simp, fun hne => absurd rfl hne⟩
  · refine ⟨h.len, h.fit, _, _, rfl, hn, fun _ => ⟨g, 0, rfl, by have := h.size; omega, fun i hi => ?_⟩⟩
    obtain ⟨h0, h1, h2, h3⟩ := csIns_at rs i hi
    rw [Nat.zero_add, hr.cellAt (i * 4) (by omega), hr.cellAt (i * 4 + 1) (by omega), hr.cellAt (i * 4 + 2) (by omega), hr.cellAt (i * 4 + 3) (by omega)]
    exact ⟨h0, h1, h2, h3⟩
theorem RdIns.below {w w' : World} {v : Value} {rs : List Ins} (h : RdIns w v rs) {B : Nat} (hb : Below B w w') (hB : w.heap.size ≤ B) : RdIns w' v rs := by
  obtain ⟨l, f, a, c, rfl, hc, hr⟩ := h
  refine ⟨l, f, a, c, rfl, hc, fun hne => ?_⟩
  obtain ⟨b, o, rfl, hlt, hcell⟩ := hr hne
  have hlt2 : b < B := by omega
  refine ⟨b, o, rfl, Nat.lt_of_lt_of_le hlt hb.size, fun i hi => ?_⟩
  obtain ⟨h0, h1, h2, h3⟩ := hcell i hi
  exact ⟨(hb.cell (p := ⟨b, o + i * 4, none⟩) hlt2).trans h0, (hb.cell (p := ⟨b, o + i * 4 + 1, none⟩) hlt2).trans h1, (hb.cell (p := ⟨b, o + i * 4 + 2, none⟩) hlt2).trans h2, (hb.cell (p := ⟨b, o + i * 4 + 3, none⟩) hlt2).trans h3⟩
theorem OwIns.grown {w w' : World} {B T : Nat} {v : Value} {rs : List Ins} (h : OwIns w B T v rs) {row : Option Nat} (hg : w.grownBy w' row) (hne : v.ownBlock = none ∨ v.ownBlock ≠ row) : OwIns w' B T v rs :=
  ⟨h.len, h.fit, h.row.kept hg hne, h.top, Nat.le_trans h.size hg.size, h.base⟩
theorem OwIns.below {w w' : World} {B T : Nat} {v : Value} {rs : List Ins} (h : OwIns w B T v rs) {C : Nat} (hb : Below C w w') (hC : T ≤ C) : OwIns w' B T v rs := by
  refine ⟨h.len, h.fit, ?_, h.top, Nat.le_trans h.size hb.size, h.base⟩
  refine ⟨h.row.1, ?_⟩
  rcases h.row.2 with hn | ⟨g, cap, cur, rfl, hbb, hgg, rest⟩
  · exact .inl hn
  · exact .inr ⟨g, cap, cur, rfl, hbb, by rw [hb.block g (Nat.lt_of_lt_of_le (h.top g rfl) hC)]; exact hgg, rest⟩
theorem OwIns.mono {w : World} {B T B' T' : Nat} {v : Value} {rs : List Ins} (h : OwIns w B T v rs) (hB : B' ≤ B) (hT : T ≤ T') (hs : T' ≤ w.heap.size) : OwIns w B' T' v rs := by
  refine ⟨h.len, h.fit, ⟨h.row.1, ?_⟩, fun k hk => Nat.lt_of_lt_of_le (h.top k hk) hT, hs, Nat.le_trans hB (Nat.le_trans h.base hT)⟩
  rcases h.row.2 with hn | ⟨g, cap, cur, rfl, hbb, rest⟩
  · exact .inl hn
  · exact .inr ⟨g, cap, cur, rfl, Nat.le_trans hB hbb, rest⟩
theorem OwIns.up {w : World} {B T : Nat} {v : Value} {rs : List Ins} (h : OwIns w B T v rs) : OwIns w B w.heap.size v rs := h.mono (Nat.le_refl _) h.size (Nat.le_refl _)
theorem OwIns.gb {w w' : World} {B T : Nat} {v : Value} {rs : List Ins} (h : OwIns w B T v rs) (hg : w.grownBy w' v.ownBlock) : Below B w w' :=
  (Below.refl B w).grown hg (Nat.le_trans h.base h.size) (fun k hk => (h.row.lt k hk).1)
theorem OwIns.emptyUp {w : World} {B : Nat} (h : B ≤ w.heap.size) : OwIns w B w.heap.size (.slice none 0 0) [] :=
  ⟨by simp, FitIns.nil, World.ownsRow_nil _ _ _ _, fun k hk => by simp [Value.ownBlock] at hk, Nat.le_refl _, h⟩
theorem OwIns.empty (w : World) : OwIns w w.heap.size w.heap.size (.slice none 0 0) [] := OwIns.emptyUp (Nat.le_refl _)
theorem OwIns.made (w : World) : OwIns (w.alloc (.cells #[] 74)) w.heap.size (w.alloc (.cells #[] 74)).heap.size (.slice (some ⟨w.heap.size, 0, none⟩) 0 0) [] :=
  ⟨by simp, FitIns.nil, World.ownsRow_made w #[] 0 (Nat.le_refl _) (by unfold maxLen; omega) (by simp), fun k hk => by cases hk; simp, Nat.le_refl _, by simp⟩
theorem OwIns.shape {w : World} {B T : Nat} {v : Value} {Z : List Ins} (h : OwIns w B T v Z) : ∃ a c, v = .slice a Z.length c := by
  rcases h.form with ⟨rfl, rfl⟩ | ⟨g, c, rfl, _⟩
  · exact ⟨_, _, rfl⟩
  · exact ⟨_, _, rfl⟩
/-- Such a row lies in no block of another type. -/
theorem OwIns.nblk {w : World} {B T b : Nat} {v : Value} {rs : List Ins} {t : TypeId} {cs : List Value} (h : OwIns w B T v rs) (k : Cels w b t cs) (hne : t ≠ 74) : v.ownBlock ≠ some b := by
  intro e
  rcases h.row.2 with ⟨rfl, _⟩ | ⟨g, c, cur, rfl, _, hg, _⟩
  · cases e
  · cases e
    have k' : w.heap[g]? = some (.cells cs.toArray t (0, 0)) := k
    rw [hg] at k'
    simp only [Option.some.injEq, Obj.cells.injEq] at k'
    exact hne k'.2.1.symm
theorem OwIns.apartCell {w : World} {B T : Nat} {v : Value} {rs : List Ins} (h : OwIns w B T v rs) {g : Nat} (hg : g < B) (j : Nat) (x : Value) : OwIns (w.setCell ⟨g, j, none⟩ x) B T v rs :=
  h.grown (row := some g) ⟨rfl, rfl, rfl, by simp, fun k _ hk => heap_setCell_other w ⟨g, j, none⟩ k _ (fun e => hk (by simp [e]))⟩ (by
    rcases h.form with ⟨h', _⟩ | ⟨q, c, h', hq, _⟩
    · rw [h']; exact .inl rfl
    · rw [h']; exact .inr (by simp [Value.ownBlock]; omega))
/-- What came in: nil, or cap elements. -/
def IsIns (w : World) (a : Option Addr) (len cap : Nat) (zs : List Ins) : Prop :=
  (a = none ∧ len = 0 ∧ cap = 0 ∧ zs = []) ∨
  ∃ x, a = some x ∧ len ≤ cap ∧ cap ≤ maxLen ∧ zs.length = cap ∧ FitIns zs ∧ ∀ i, i < zs.length → w.cell? (x.add (i * 4)) = some (.int .i64 ((zs.getD i zIns)).kd) ∧ w.cell? (x.add (i * 4 + 1)) = some (.int .i64 ((zs.getD i zIns)).rg) ∧ w.cell? (x.add (i * 4 + 2)) = some (.int .i64 ((zs.getD i zIns)).th) ∧ w.cell? (x.add (i * 4 + 3)) = some (.int .i64 ((zs.getD i zIns)).el)
theorem rdIns_of_row {w : World} {a : Option Addr} {len cap : Nat} {zs : List Ins} (h : IsIns w a len cap zs) (hl : len ≤ 1048576) : RdIns w (.slice a len cap) (zs.take len) := by
  rcases h with ⟨rfl, rfl, rfl, rfl⟩ | ⟨x, rfl, h1, h2, h3, hf, hc⟩
  · exact ⟨by simp, FitIns.nil, none, 0, by simp, by simp, fun h => absurd rfl h⟩
  · have hlen : (zs.take len).length = len := by simp; omega
    refine ⟨by omega, fun r hr => hf r (List.mem_of_mem_take hr), some x, cap, by rw [hlen], by omega, fun hne => ?_⟩
    have hpos : 0 < len := by
      rcases Nat.eq_zero_or_pos len with h0 | h0
      · subst h0; simp at hne
      · exact h0
    obtain ⟨b, off, spot⟩ := x
    have h0 := (hc 0 (by omega)).1
    have hspot : spot = none := by simpa [Addr.add] using World.cell?_spot h0
    subst hspot
    refine ⟨b, off, rfl, World.block_lt_of_cell? w _ h0, fun i hi => ?_⟩
    have := hc i (by omega)
    rw [hlen] at hi
    have e : (zs.take len).getD i zIns = zs.getD i zIns := by simp [List.getD_eq_getElem?_getD, hi]
    rw [e]
    rw [Addr.add_lit, Addr.add_lit, Addr.add_lit, Addr.add_lit, ← Nat.add_assoc, ← Nat.add_assoc, ← Nat.add_assoc] at this
    exact this
theorem IsIns.le {w : World} {a : Option Addr} {len cap : Nat} {zs : List Ins} (h : IsIns w a len cap zs) : (len : Int) ≤ 9223372036854775807 := by
  rcases h with ⟨_, h, _, _⟩ | ⟨_, _, h1, h2, _⟩
  · omega
  · unfold maxLen at h2; omega
section
open Go.ChangeShapes Go.WideShapes Go.Deep
end
end Go.Proofs.YtbigoljfanendaaDoor.Ints
