/- Rules of three numbers in memory: what is said of slices of them. -/
import Derived.Test.YtmbojhlcmgknbaaDoorInts
import Derived.Test.YtmbojhlcmgknbaaDoorOwn
import Derived.Test.YtmbojhlcmgknbaaDoorCel
import Derived.Deep.Strs
import Derived.Deep.Slices
namespace Go.Proofs.YtmbojhlcmgknbaaDoor.Ints
open Go.RowKit
set_option linter.unusedVariables false

/-- A rule's three numbers. -/
structure Ru where
  wr : Int
  mv : Int
  nx : Int
def Ru.cs (r : Ru) : List Value := [.int .i64 r.wr, .int .i64 r.mv, .int .i64 r.nx]
def Ru.agg (r : Ru) : Value := .agg #[.int .i64 r.wr, .int .i64 r.mv, .int .i64 r.nx]
def rcs (rs : List Ru) : List Value := rs.flatMap Ru.cs
def ru0 : Ru := ⟨0, 0, 0⟩
def Ru.fit (r : Ru) : Prop := fit64 r.wr ∧ fit64 r.mv ∧ fit64 r.nx
def FitR (rs : List Ru) : Prop := ∀ r ∈ rs, r.fit
@[simp] theorem rcs_nil : rcs [] = [] := rfl
theorem rcs_cons (r : Ru) (rs : List Ru) : rcs (r :: rs) = .int .i64 r.wr :: .int .i64 r.mv :: .int .i64 r.nx :: rcs rs := rfl
@[simp] theorem rcs_length (rs : List Ru) : (rcs rs).length = rs.length * 3 := by
  induction rs with
  | nil => rfl
  | cons r rs ih => rw [rcs_cons]; simp only [List.length_cons, ih]; omega
theorem rcs_append (xs ys : List Ru) : rcs (xs ++ ys) = rcs xs ++ rcs ys := by simp [rcs]
theorem rcs_at (rs : List Ru) : ∀ i, i < rs.length → (rcs rs)[i * 3]? = some (.int .i64 (rs.getD i ru0).wr) ∧ (rcs rs)[i * 3 + 1]? = some (.int .i64 (rs.getD i ru0).mv) ∧ (rcs rs)[i * 3 + 2]? = some (.int .i64 (rs.getD i ru0).nx) := by
  induction rs with
  | nil => intro i hi; simp at hi
  | cons r rs ih =>
    intro i hi
    cases i with
    | zero => simp [rcs_cons]
    | succ i =>
      have h := ih i (by simpa using hi)
      rw [rcs_cons, show (i + 1) * 3 = i * 3 + 3 by omega]
      simpa using h
theorem getR_mem {rs : List Ru} {i : Nat} (h : i < rs.length) : rs.getD i ru0 ∈ rs := by
  rw [List.getD_eq_getElem?_getD, List.getElem?_eq_getElem h]; exact List.getElem_mem h
theorem FitR.at {rs : List Ru} (h : FitR rs) (i : Nat) : (rs.getD i ru0).fit := by
  by_cases hi : i < rs.length
  · exact h _ (getR_mem hi)
  · rw [List.getD_eq_getElem?_getD, List.getElem?_eq_none (by omega)]; simp [ru0, Ru.fit, fit64]
theorem FitR.nil : FitR [] := fun _ h => by cases h

/-- The value v is a slice that reads the rules rs. -/
structure RdR (w : World) (v : Value) (rs : List Ru) : Prop where
  len : rs.length ≤ 16777216
  fit : FitR rs
  val : ∃ a c, v = .slice a rs.length c ∧ rs.length ≤ c ∧ (rs ≠ [] → ∃ b o, a = some ⟨b, o, none⟩ ∧ b < w.heap.size ∧ ∀ i, i < rs.length →
    w.cell? ⟨b, o + i * 3, none⟩ = some (.int .i64 (rs.getD i ru0).wr) ∧ w.cell? ⟨b, o + i * 3 + 1, none⟩ = some (.int .i64 (rs.getD i ru0).mv) ∧ w.cell? ⟨b, o + i * 3 + 2, none⟩ = some (.int .i64 (rs.getD i ru0).nx))
/-- The value v is a row of the call's own, in a block from B on and below T, that reads rs. -/
structure OwR (w : World) (B T : Nat) (v : Value) (rs : List Ru) : Prop where
  len : rs.length ≤ 16777216
  fit : FitR rs
  row : w.ownsRow B 86 3 v rs.length (rcs rs)
  top : ∀ k, v.ownBlock = some k → k < T
  size : T ≤ w.heap.size
  base : B ≤ T
theorem OwR.form {w : World} {B T : Nat} {v : Value} {rs : List Ru} (h : OwR w B T v rs) :
    (v = .slice none 0 0 ∧ rs = []) ∨ ∃ g c, v = .slice (some ⟨g, 0, none⟩) rs.length c ∧ B ≤ g ∧ g < T ∧ rs.length ≤ c ∧ c ≤ maxLen ∧
      w.ownsRow B 86 3 (.slice (some ⟨g, 0, none⟩) rs.length c) rs.length (rcs rs) := by
  have hr := h.row
  rcases hr.2 with ⟨rfl, h0⟩ | ⟨g, c, cur, rfl, hb, hg, hn, hm, _⟩
  · exact .inl ⟨rfl, List.eq_nil_of_length_eq_zero h0⟩
  · exact .inr ⟨g, c, rfl, hb, h.top g rfl, hn, hm, hr⟩
theorem OwR.rd {w : World} {B T : Nat} {v : Value} {rs : List Ru} (h : OwR w B T v rs) : RdR w v rs := by
  rcases h.form with ⟨rfl, rfl⟩ | ⟨g, c, rfl, hb, hg, hn, hm, hr⟩
  · exact ⟨h.len, h.fit, none, 0, rfl, by simp, fun hne => absurd rfl hne⟩
  · refine ⟨h.len, h.fit, _, _, rfl, hn, fun _ => ⟨g, 0, rfl, by have := h.size; omega, fun i hi => ?_⟩⟩
    obtain ⟨h0, h1, h2⟩ := rcs_at rs i hi
    rw [Nat.zero_add, hr.cellAt (i * 3) (by omega), hr.cellAt (i * 3 + 1) (by omega), hr.cellAt (i * 3 + 2) (by omega)]
    exact ⟨h0, h1, h2⟩
theorem RdR.below {w w' : World} {v : Value} {rs : List Ru} (h : RdR w v rs) {B : Nat} (hb : Below B w w') (hB : w.heap.size ≤ B) : RdR w' v rs := by
  obtain ⟨l, f, a, c, rfl, hc, hr⟩ := h
  refine ⟨l, f, a, c, rfl, hc, fun hne => ?_⟩
  obtain ⟨b, o, rfl, hlt, hcell⟩ := hr hne
  have hlt2 : b < B := by omega
  refine ⟨b, o, rfl, Nat.lt_of_lt_of_le hlt hb.size, fun i hi => ?_⟩
  obtain ⟨h0, h1, h2⟩ := hcell i hi
  exact ⟨(hb.cell (p := ⟨b, o + i * 3, none⟩) hlt2).trans h0, (hb.cell (p := ⟨b, o + i * 3 + 1, none⟩) hlt2).trans h1, (hb.cell (p := ⟨b, o + i * 3 + 2, none⟩) hlt2).trans h2⟩
theorem OwR.grown {w w' : World} {B T : Nat} {v : Value} {rs : List Ru} (h : OwR w B T v rs) {row : Option Nat} (hg : w.grownBy w' row) (hne : v.ownBlock = none ∨ v.ownBlock ≠ row) : OwR w' B T v rs :=
  ⟨h.len, h.fit, h.row.kept hg hne, h.top, Nat.le_trans h.size hg.size, h.base⟩
theorem OwR.below {w w' : World} {B T : Nat} {v : Value} {rs : List Ru} (h : OwR w B T v rs) {C : Nat} (hb : Below C w w') (hC : T ≤ C) : OwR w' B T v rs := by
  refine ⟨h.len, h.fit, ?_, h.top, Nat.le_trans h.size hb.size, h.base⟩
  refine ⟨h.row.1, ?_⟩
  rcases h.row.2 with hn | ⟨g, cap, cur, rfl, hbb, hgg, rest⟩
  · exact .inl hn
  · exact .inr ⟨g, cap, cur, rfl, hbb, by rw [hb.block g (Nat.lt_of_lt_of_le (h.top g rfl) hC)]; exact hgg, rest⟩
theorem OwR.mono {w : World} {B T B' T' : Nat} {v : Value} {rs : List Ru} (h : OwR w B T v rs) (hB : B' ≤ B) (hT : T ≤ T') (hs : T' ≤ w.heap.size) : OwR w B' T' v rs := by
  refine ⟨h.len, h.fit, ⟨h.row.1, ?_⟩, fun k hk => Nat.lt_of_lt_of_le (h.top k hk) hT, hs, Nat.le_trans hB (Nat.le_trans h.base hT)⟩
  rcases h.row.2 with hn | ⟨g, cap, cur, rfl, hbb, rest⟩
  · exact .inl hn
  · exact .inr ⟨g, cap, cur, rfl, Nat.le_trans hB hbb, rest⟩
theorem OwR.up {w : World} {B T : Nat} {v : Value} {rs : List Ru} (h : OwR w B T v rs) : OwR w B w.heap.size v rs := h.mono (Nat.le_refl _) h.size (Nat.le_refl _)
theorem OwR.gb {w w' : World} {B T : Nat} {v : Value} {rs : List Ru} (h : OwR w B T v rs) (hg : w.grownBy w' v.ownBlock) : Below B w w' :=
  (Below.refl B w).grown hg (Nat.le_trans h.base h.size) (fun k hk => (h.row.lt k hk).1)
theorem OwR.emptyUp {w : World} {B : Nat} (h : B ≤ w.heap.size) : OwR w B w.heap.size (.slice none 0 0) [] :=
  ⟨by simp, FitR.nil, World.ownsRow_nil _ _ _ _, fun k hk => by simp [Value.ownBlock] at hk, Nat.le_refl _, h⟩
theorem OwR.shape {w : World} {B T : Nat} {v : Value} {Z : List Ru} (h : OwR w B T v Z) : ∃ a c, v = .slice a Z.length c := by
  rcases h.form with ⟨rfl, rfl⟩ | ⟨g, c, rfl, _⟩
  · exact ⟨_, _, rfl⟩
  · exact ⟨_, _, rfl⟩
/-- A row of rules lies in no block of another type. -/
theorem OwR.nblk {w : World} {B T b : Nat} {v : Value} {rs : List Ru} {t : TypeId} {cs : List Value} (h : OwR w B T v rs) (k : Cels w b t cs) (hne : t ≠ 86) : v.ownBlock ≠ some b := by
  intro e
  rcases h.row.2 with ⟨rfl, _⟩ | ⟨g, c, cur, rfl, _, hg, _⟩
  · cases e
  · cases e
    have k' : w.heap[g]? = some (.cells cs.toArray t (0, 0)) := k
    rw [hg] at k'
    simp only [Option.some.injEq, Obj.cells.injEq] at k'
    exact hne k'.2.1.symm
/-- What came in: nil, or cap rules. -/
def IsRules (w : World) (a : Option Addr) (len cap : Nat) (zs : List Ru) : Prop :=
  (a = none ∧ len = 0 ∧ cap = 0 ∧ zs = []) ∨
  ∃ x, a = some x ∧ len ≤ cap ∧ cap ≤ maxLen ∧ zs.length = cap ∧ FitR zs ∧ ∀ i, i < zs.length → w.cell? (x.add (i * 3)) = some (.int .i64 (zs.getD i ru0).wr) ∧ w.cell? (x.add (i * 3 + 1)) = some (.int .i64 (zs.getD i ru0).mv) ∧ w.cell? (x.add (i * 3 + 2)) = some (.int .i64 (zs.getD i ru0).nx)
theorem rdr_of_row {w : World} {a : Option Addr} {len cap : Nat} {zs : List Ru} (h : IsRules w a len cap zs) (hl : len ≤ 1048576) : RdR w (.slice a len cap) (zs.take len) := by
  rcases h with ⟨rfl, rfl, rfl, rfl⟩ | ⟨x, rfl, h1, h2, h3, hf, hc⟩
  · exact ⟨by simp, FitR.nil, none, 0, by simp, by simp, fun h => absurd rfl h⟩
  · have hlen : (zs.take len).length = len := by simp; omega
    refine ⟨by omega, fun r hr => hf r (List.mem_of_mem_take hr), some x, cap, by rw [hlen], by omega, fun hne => ?_⟩
    have hpos : 0 < len := by
      rcases Nat.eq_zero_or_pos len with h0 | h0
      · subst h0; simp at hne
      · exact h0
    obtain ⟨b, off, spot⟩ := x
    have h0 := (hc 0 (by omega)).1
    have hspot : spot = none := by simpa [Addr.add] using World.cell?_spot h0
    subst hspot
    refine ⟨b, off, rfl, World.block_lt_of_cell? w _ h0, fun i hi => ?_⟩
    have := hc i (by omega)
    rw [hlen] at hi
    have e : (zs.take len).getD i ru0 = zs.getD i ru0 := by simp [List.getD_eq_getElem?_getD, hi]
    rw [e]
    rw [Addr.add_lit, Addr.add_lit, Addr.add_lit, ← Nat.add_assoc, ← Nat.add_assoc] at this
    exact this
theorem IsRules.le {w : World} {a : Option Addr} {len cap : Nat} {zs : List Ru} (h : IsRules w a len cap zs) : (len : Int) ≤ 9223372036854775807 := by
  rcases h with ⟨_, h, _, _⟩ | ⟨_, _, h1, h2, _⟩
  · omega
  · unfold maxLen at h2; omega
section
open Go.ChangeShapes Go.WideShapes Go.Deep
set_option maxRecDepth 100000 in
/-- Rules that came in, opened. -/
theorem open_rules {H : Type} {enc : TypeId × Value → H} {w : World} {base : Nat} {held : Bool} {fuel : Nat} {cs : List Value} {x : DataW H × List MemPlace}
    (h : DataW.trod enc Tryd.prog w base (fun _ => true) held fuel 22 cs = some x) : ∃ a len cap rs, cs = [.slice a len cap] ∧ IsRules w a len cap rs := by
  rcases open_slice Tryd.underlying22 h with ⟨rfl, _⟩ | ⟨a, len, cap, m, n, D, Pl, rfl, hb, hl, hm, hmm, _, hi⟩
  · exact ⟨none, 0, 0, [], rfl, .inl ⟨rfl, rfl, rfl, rfl⟩⟩
  · have hmc : m = cap := by simpa using hmm
    have hC : Tryd.prog.cellsOf 131 = 3 := by kernel_rfl
    have hI : Tryd.prog.cellsOf 2 = 1 := by kernel_rfl
    have each : ∀ i, i < cap → ∃ r : Ru, r.fit ∧ w.cell? (a.add (i * 3)) = some (.int .i64 r.wr) ∧ w.cell? (a.add (i * 3 + 1)) = some (.int .i64 r.mv) ∧ w.cell? (a.add (i * 3 + 2)) = some (.int .i64 r.nx) := fun i hic => by
      obtain ⟨cs', hc, ht⟩ := hi i (by omega)
      rw [hC] at hc
      obtain ⟨_, hcl, hat⟩ := World.cells?_some hc
      obtain ⟨y0, y1, y2, n', _, _, h0, h1, h2⟩ := trod_struct3 Tryd.underlying131 ht
      match cs', hcl with
      | [c0, c1, c2], _ =>
        simp only [hI, List.drop_zero, List.drop_succ_cons, List.take_succ_cons, List.take_zero] at h0 h1 h2
        obtain ⟨n0, e0, _, f0⟩ := DataW.trod_int Tryd.underlying2 h0
        obtain ⟨n1, e1, _, f1⟩ := DataW.trod_int Tryd.underlying2 h1
        obtain ⟨n2, e2, _, f2⟩ := DataW.trod_int Tryd.underlying2 h2
        simp only [List.cons.injEq, and_true] at e0 e1 e2
        subst e0; subst e1; subst e2
        have a0 := hat 0 (by omega)
        have a1 := hat 1 (by omega)
        have a2 := hat 2 (by omega)
        rw [Go.Deep.add_add] at a0 a1 a2
        exact ⟨⟨n0, n1, n2⟩, ⟨bounds_i64 f0, bounds_i64 f1, bounds_i64 f2⟩, by simpa using a0, by simpa using a1, by simpa using a2⟩
    obtain ⟨f, hf⟩ : ∃ f : Nat → Ru, ∀ i, i < cap → (f i).fit ∧ w.cell? (a.add (i * 3)) = some (.int .i64 (f i).wr) ∧ w.cell? (a.add (i * 3 + 1)) = some (.int .i64 (f i).mv) ∧ w.cell? (a.add (i * 3 + 2)) = some (.int .i64 (f i).nx) :=
      ⟨fun i => if h : i < cap then Classical.choose (each i h) else ru0, fun i h => by simp only [dif_pos h]; exact Classical.choose_spec (each i h)⟩
    refine ⟨some a, len, cap, (List.range cap).map f, rfl, .inr ⟨a, rfl, hl, hm, by simp, fun r hr => ?_, fun i hi => ?_⟩⟩
    · obtain ⟨i, hi, rfl⟩ := List.mem_map.1 hr
      exact (hf i (List.mem_range.1 hi)).1
    · have hi' : i < cap := by simpa using hi
      have e : ((List.range cap).map f).getD i ru0 = f i := by simp [List.getD_eq_getElem?_getD, hi']
      rw [e]
      exact (hf i hi').2
end
end Go.Proofs.YtmbojhlcmgknbaaDoor.Ints
