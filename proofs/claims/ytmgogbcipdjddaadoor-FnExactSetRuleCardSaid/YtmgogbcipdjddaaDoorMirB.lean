/- MirrorMachine: loops. -/
import Derived.Test.YtmgogbcipdjddaaDoorMir
namespace Go.Proofs.YtmgogbcipdjddaaDoor.Ints
open Go.RowKit
set_option linter.unusedVariables false
set_option linter.unusedSimpArgs false
def mir1 (r : Ru) : Ru := ⟨r.wr, IntKind.i64.wrap (- r.mv), r.nx⟩
def mirR (rs : List Ru) : List Ru := rs.map mir1
theorem rcs_set1 (rs : List Ru) : ∀ k, k < rs.length → ∀ x : Int, (rcs rs).set (k * 3 + 1) (.int .i64 x) = rcs (rs.set k ⟨(rs.getD k ru0).wr, x, (rs.getD k ru0).nx⟩) := by
  induction rs with
  | nil => intro k hk; simp at hk
  | cons r rs ih =>
    intro k hk x
    cases k with
    | zero => simp [rcs_cons]
    | succ k =>
      have h := ih k (by simpa using hk) x
      rw [rcs_cons, show (k + 1) * 3 + 1 = (k * 3 + 1) + 3 by omega]
      simp only [List.set_cons_succ, List.getD_cons_succ, rcs_cons]
      rw [h]
theorem rowR_one {w : World} {B g c n k : Nat} {rs : List Ru} (h : w.ownsRow B 59 3 (.slice (some ⟨g, 0, none⟩) n c) n (rcs rs)) (hk : k < rs.length) (x : Int) :
    w.cell? ⟨g, k * 3 + 1, none⟩ = some (.int .i64 (rs.getD k ru0).mv) ∧ w.frozen? ⟨g, k * 3 + 1, none⟩ = false ∧
    (w.setCell ⟨g, k * 3 + 1, none⟩ (.int .i64 x)).ownsRow B 59 3 (.slice (some ⟨g, 0, none⟩) n c) n (rcs (rs.set k ⟨(rs.getD k ru0).wr, x, (rs.getD k ru0).nx⟩)) ∧
    w.grownBy (w.setCell ⟨g, k * 3 + 1, none⟩ (.int .i64 x)) (some g) := by
  obtain ⟨_, a1, _⟩ := rcs_at rs k hk
  obtain ⟨h1, g1⟩ := h.stored (k * 3 + 1) (.int .i64 x)
  have hl := rcs_length rs
  rw [rcs_set1 rs k hk] at h1
  have hn := h.1
  exact ⟨by rw [h.cellAt _ (by omega)]; exact a1, h.frozenAt _, h1, g1⟩
def midR (rs : List Ru) (i : Nat) : List Ru := (rs.take i).map mir1 ++ rs.drop i
theorem midR_length (rs : List Ru) (i : Nat) (h : i ≤ rs.length) : (midR rs i).length = rs.length := by simp [midR]; omega
theorem midR_at (rs : List Ru) (i : Nat) (h : i < rs.length) : (midR rs i).getD i ru0 = rs.getD i ru0 := by
  simp [midR, List.getD_eq_getElem?_getD, List.getElem?_append_right, Nat.min_eq_left (Nat.le_of_lt h)]
theorem midR_step (rs : List Ru) (i : Nat) (h : i < rs.length) : (midR rs i).set i (mir1 (rs.getD i ru0)) = midR rs (i + 1) := by
  have e : rs.drop i = rs.getD i ru0 :: rs.drop (i + 1) := by
    rw [List.drop_eq_getElem_cons h]; simp [List.getD_eq_getElem?_getD, List.getElem?_eq_getElem h]
  obtain ⟨q, hq⟩ : ∃ q, q = rs.getD i ru0 := ⟨_, rfl⟩
  have e2 : rs.take (i + 1) = rs.take i ++ [q] := by rw [List.take_succ_eq_append_getElem h, hq]; simp [List.getD_eq_getElem?_getD, List.getElem?_eq_getElem h]
  rw [← hq] at e ⊢
  rw [midR, midR, e2, e, List.set_append_right _ _ (by simp; omega)]
  simp [Nat.min_eq_left (Nat.le_of_lt h)]
theorem FitR.mir {rs : List Ru} (h : FitR rs) : FitR (mirR rs) := by
  intro r hr
  simp only [mirR, List.mem_map] at hr
  obtain ⟨q, hq, rfl⟩ := hr
  obtain ⟨h1, h2, h3⟩ := h q hq
  refine ⟨h1, ?_, h3⟩
  show fit64 (IntKind.i64.wrap (- q.mv))
  rw [IntKind.wrap_i64]; unfold fit64; omega
theorem mir1_fit {r : Ru} (h : r.fit) : (mir1 r).fit := by
  obtain ⟨h1, h2, h3⟩ := h
  refine ⟨h1, ?_, h3⟩
  show fit64 (IntKind.i64.wrap (- r.mv))
  rw [IntKind.wrap_i64]; unfold fit64; omega
theorem FitR.set {rs : List Ru} (h : FitR rs) (k : Nat) {r : Ru} (hr : r.fit) : FitR (rs.set k r) := by
  intro q hq
  rcases List.mem_or_eq_of_mem_set hq with h' | rfl
  · exact h q h'
  · exact hr
theorem OwR.one {w : World} {B T n c : Nat} {a : Option Addr} {rs : List Ru} (h : OwR w B T (.slice a n c) rs) {k : Nat} (hk : k < rs.length) (hx : (mir1 (rs.getD k ru0)).fit) :
    ∃ g, a = some ⟨g, 0, none⟩ ∧ B ≤ g ∧ g < T ∧ n = rs.length ∧ w.cell? ⟨g, k * 3 + 1, none⟩ = some (.int .i64 (rs.getD k ru0).mv) ∧ w.frozen? ⟨g, k * 3 + 1, none⟩ = false ∧
    OwR (w.setCell ⟨g, k * 3 + 1, none⟩ (.int .i64 (mir1 (rs.getD k ru0)).mv)) B T (.slice a n c) (rs.set k (mir1 (rs.getD k ru0))) := by
  rcases h.form with ⟨_, rfl⟩ | ⟨g, c', hv, hb, hg, hn, hm, hr⟩
  · simp at hk
  · simp only [Value.slice.injEq] at hv
    obtain ⟨rfl, rfl, rfl⟩ := hv
    obtain ⟨d, f, s1, s2⟩ := rowR_one hr hk (mir1 (rs.getD k ru0)).mv
    refine ⟨g, rfl, hb, hg, rfl, d, f, by simpa using h.len, h.fit.set k hx, ?_, fun q hq => by cases hq; exact hg, Nat.le_trans h.size s2.size, h.base⟩
    rw [List.length_set]; exact s1
end Go.Proofs.YtmgogbcipdjddaaDoor.Ints
