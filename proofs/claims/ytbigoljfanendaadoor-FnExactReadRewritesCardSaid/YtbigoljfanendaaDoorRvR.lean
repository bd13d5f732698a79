/- Both sides of all rewriting rules exchanged, by the model and by the program. -/
import Derived.Test.YtbigoljfanendaaDoorRwM
import Derived.Test.YtbigoljfanendaaDoorRwV
import Derived.Deep.RegionHeld3
namespace Go.Proofs.YtbigoljfanendaaDoor.Ints
open Go.RowKit
set_option linter.unusedVariables false
set_option linter.unusedSimpArgs false
def swT (t : Tp) : Tp := ⟨t.r, t.l⟩
def rvL (ts : List Tp) : List Tp := ts.map swT
noncomputable def rvR (ts : List Tp) : List Tp × Int := if rwsB ts = true then (if rwsB (rvL ts) = true then (rvL ts, 0) else ([], 6)) else ([], 1)
@[simp] theorem rvL_len (ts : List Tp) : (rvL ts).length = ts.length := by simp [rvL]
theorem rvL_at (ts : List Tp) (i : Nat) : (rvL ts).getD i tp0 = swT (ts.getD i tp0) := by
  simp only [rvL, List.getD_eq_getElem?_getD, List.getElem?_map]
  cases ts[i]? <;> rfl
theorem totR_rvL (ts : List Tp) : totR (rvL ts) = totR ts := by
  induction ts with
  | nil => rfl
  | cons t ts ih =>
    simp only [rvL, List.map_cons, totR, swT] at ih ⊢
    rw [ih]; omega
theorem rvR_tot (ts : List Tp) : totR (rvR ts).1 ≤ totR ts := by
  unfold rvR
  split
  · split
    · rw [totR_rvL]; exact Nat.le_refl _
    · simp [totR]
  · simp [totR]
theorem rv_good {ts : List Tp} (h : rwsB ts = true) (h2 : ∀ i, i < ts.length → 0 < (ts.getD i tp0).r.length) : rwsB (rvL ts) = true := by
  have h1 := rwsB_len h
  have ha := rwsB_all h
  simp only [rwsB, rvL_len, Bool.and_eq_true, decide_eq_true_iff]
  refine ⟨h1, rwA_true (fun i hi => ?_)⟩
  rw [rvL_len] at hi
  have hb := rwB_both (rwA_at ha hi)
  rw [rvL_at]
  simp only [rwB, swT, Bool.and_eq_true, decide_eq_true_iff]
  exact ⟨wordB_true hb.2.1, wordB_true hb.1, decide_eq_true (h2 i hi)⟩
theorem rv_bad {ts : List Tp} {i : Nat} (hi : i < ts.length) (h2 : (ts.getD i tp0).r.length = 0) : rwsB (rvL ts) = false := by
  have h3 : rwA (rvL ts) = false := rwA_false (i := i) (by rw [rvL_len]; exact hi) (by rw [rvL_at]; simp only [rwB, swT, h2]; simp)
  simp only [rwsB, h3, Bool.and_false]
theorem rvR_good {ts : List Tp} (h : rwsB ts = true) (h2 : rwsB (rvL ts) = true) : rvR ts = (rvL ts, 0) := by rw [rvR, if_pos h, if_pos h2]
theorem rvR_bad {ts : List Tp} (h : rwsB ts = true) (h2 : rwsB (rvL ts) = false) : rvR ts = ([], 6) := by rw [rvR, if_pos h, if_neg (by rw [h2]; simp)]
theorem rvR_no {ts : List Tp} (h : rwsB ts = false) : rvR ts = ([], 1) := by rw [rvR, if_neg (by rw [h]; simp)]
theorem OwRN.none {w : World} {B : Nat} (h : B ≤ w.heap.size) : OwRN w B w.heap.size (.slice none 0 0) [] := .inr ⟨rfl, rfl, h, Nat.le_refl _⟩
theorem OwRT.wide {w : World} {B T B' : Nat} {v : Value} {ts : List Tp} (h : OwRT w B T v ts) (hB : B' ≤ B) (hT : T ≤ w.heap.size) : OwRT w B' w.heap.size v ts := by
  obtain ⟨hl, hs, g, c, cs, rfl, h1, h2, ho, hc, hsq⟩ := h
  refine ⟨hl, Nat.le_refl _, g, c, cs, rfl, by omega, by omega, ?_, fun i hi => ?_, hsq⟩
  · refine ⟨ho.1, ?_⟩
    rcases ho.2 with hn | ⟨g', cap, cur, hv, hbb, rest⟩
    · exact .inl hn
    · exact .inr ⟨g', cap, cur, hv, Nat.le_trans hB hbb, rest⟩
  · obtain ⟨x, y, e, e', k, k'⟩ := hc i hi
    exact ⟨x, y, e, e', k.mono hB hT (Nat.le_refl _), k'.mono hB hT (Nat.le_refl _)⟩
theorem OwRN.wide {w : World} {B T B' : Nat} {v : Value} {ts : List Tp} (h : OwRN w B T v ts) (hB : B' ≤ B) (hT : T ≤ w.heap.size) : OwRN w B' w.heap.size v ts := by
  rcases h with h | ⟨rfl, rfl, h1, h2⟩
  · exact .inl (h.wide hB hT)
  · exact .inr ⟨rfl, rfl, Nat.le_trans hB (Nat.le_trans h1 h2), Nat.le_refl _⟩
/-- A growing row of rules of the call's own, all rows apart from each other. -/
def GrT (w : World) (B : Nat) (v : Value) (ts : List Tp) : Prop := ∃ cs, w.ownsRow B 97 2 v ts.length cs ∧ Cop w B ts cs ts.length ∧ SepC cs (ts.length * 2)
theorem GrT.own {w : World} {B : Nat} {v : Value} {ts : List Tp} (h : GrT w B v ts) (hl : ts.length ≤ 1048576) (hB : B ≤ w.heap.size) : OwRN w B w.heap.size v ts := by
  obtain ⟨cs, ho, hc, hq⟩ := h
  rcases ho.2 with ⟨rfl, h0⟩ | ⟨g, c, cur, rfl, h1, h2, _⟩
  · exact .inr ⟨rfl, List.eq_nil_of_length_eq_zero h0, hB, Nat.le_refl _⟩
  · exact .inl ⟨hl, Nat.le_refl _, g, c, cs, rfl, (ho.lt g rfl).2, (ho.lt g rfl).1, ho, hc, hq⟩
theorem GrT.start (w : World) (B : Nat) : GrT w B (.slice none 0 0) [] := ⟨[], World.ownsRow_nil _ _ _ _, fun i hi => by simp at hi, fun i j x y _ hj => by simp at hj⟩
theorem ownC_below {w w' : World} {B C : Nat} {t : TypeId} {s : Nat} {v : Value} {n : Nat} {xs : List Value} (h : w.ownsRow B t s v n xs) (hb : Below C w w') (hC : w.heap.size ≤ C) : w'.ownsRow B t s v n xs := by
  refine ⟨h.1, ?_⟩
  rcases h.2 with hn | ⟨g, cap, cur, hv, hbb, hgg, rest⟩
  · exact .inl hn
  · refine .inr ⟨g, cap, cur, hv, hbb, ?_, rest⟩
    rw [hb.block g (by have := (Array.getElem?_eq_some_iff.1 hgg).1; omega)]; exact hgg
theorem Ow.nap {w : World} {B T B' n : Nat} {u v : Value} {zs : List Int} {cs : List Value} (h : Ow w B T u zs) (k : w.ownsRow B' 97 2 v n cs) : u.ownBlock = none ∨ u.ownBlock ≠ v.ownBlock := by
  rcases k.2 with ⟨rfl, _⟩ | ⟨g, c, cur, rfl, _⟩
  · cases e : u.ownBlock with
    | none => exact .inl rfl
    | some b => exact .inr (by simp [Value.ownBlock])
  · exact .inr (h.napart k)
theorem rows_snoc {w0 w W : World} {B : Nat} {v v' : Value} {ts : List Tp} {t : Tp} {cs : List Value} {x y : Value} (hc : Cop w0 B ts cs ts.length) (hq : SepC cs (ts.length * 2)) (hb : Below w0.heap.size w0 w) (hB : B ≤ w0.heap.size)
    (hrow : w.ownsRow B 97 2 v ts.length cs) (h0 : Ow w w0.heap.size w.heap.size x t.l) (h1 : Ow w w0.heap.size w.heap.size y t.r) (hs : Sep x y) (hg : w.grownBy W v.ownBlock) (hW : W.ownsRow B 97 2 v' (ts.length + 1) (cs ++ [x, y])) :
    GrT W B v' (ts ++ [t]) := by
  have hl : cs.length = ts.length * 2 := hrow.1
  have hx : (cs ++ [x, y])[ts.length * 2]? = some x := by rw [List.getElem?_append_right (by omega), hl]; simp
  have hy : (cs ++ [x, y])[ts.length * 2 + 1]? = some y := by rw [List.getElem?_append_right (by omega), hl]; simp
  have hold : ∀ i, i < ts.length * 2 → (cs ++ [x, y])[i]? = cs[i]? := fun i hi => List.getElem?_append_left (by omega)
  refine ⟨cs ++ [x, y], by simpa using hW, ?_, ?_⟩
  · intro i hi
    rw [List.length_append, List.length_singleton] at hi
    by_cases e : i = ts.length
    · subst e
      have ht : (ts ++ [t]).getD ts.length tp0 = t := by simp [List.getD_eq_getElem?_getD]
      rw [ht]
      exact ⟨x, y, hx, hy, (h0.grown hg (h0.nap hrow)).up.mono hB (Nat.le_refl _) (Nat.le_refl _), (h1.grown hg (h1.nap hrow)).up.mono hB (Nat.le_refl _) (Nat.le_refl _)⟩
    · obtain ⟨p, q, q0, q1, q2, q3⟩ := hc i (by omega)
      have ht : (ts ++ [t]).getD i tp0 = ts.getD i tp0 := by
        rw [List.getD_eq_getElem?_getD, List.getD_eq_getElem?_getD, List.getElem?_append_left (by omega)]
      rw [ht]
      have r2 := q2.below hb (Nat.le_refl _)
      have r3 := q3.below hb (Nat.le_refl _)
      exact ⟨p, q, (hold _ (by omega)).trans q0, (hold _ (by omega)).trans q1, (r2.grown hg (r2.nap hrow)).up, (r3.grown hg (r3.nap hrow)).up⟩
  · intro i j a b hij hj ha hb'
    rw [List.length_append, List.length_singleton] at hj
    by_cases j1 : j = ts.length * 2 + 1
    · subst j1
      rw [hy] at hb'; cases hb'
      by_cases i0 : i = ts.length * 2
      · subst i0
        rw [hx] at ha; cases ha; exact hs
      · rw [hold i (by omega)] at ha
        exact sep_of (hc.cellTop (by omega) ha) h1.row.lt (Nat.le_refl _)
    · by_cases j0 : j = ts.length * 2
      · subst j0
        rw [hx] at hb'; cases hb'
        rw [hold i (by omega)] at ha
        exact sep_of (hc.cellTop (by omega) ha) h0.row.lt (Nat.le_refl _)
      · rw [hold i (by omega)] at ha
        rw [hold j (by omega)] at hb'
        exact hq i j a b hij (by omega) ha hb'
theorem cellNew2 (w : World) (x y : Value) (t : TypeId) : ∀ j u, [x, y][j]? = some u → (w.alloc (.cells #[x, y] t)).cell? ((⟨w.heap.size, 0, none⟩ : Addr).add j) = some u := fun j u hj => by
  rw [Addr.add_lit]
  exact (Cels.new w t [x, y]).cell (0 + j) (by simpa using hj)
theorem put2w {w : World} {g : Nat} {t : TypeId} {a0 a1 : Value} (h : Cels w g t [a0, a1]) (b0 b1 : Value) :
    w.cell? ⟨g, 0, none⟩ = some a0 ∧ w.frozen? ⟨g, 0, none⟩ = false ∧ (w.setCell ⟨g, 0, none⟩ b0).cell? ⟨g, 1, none⟩ = some a1 ∧ (w.setCell ⟨g, 0, none⟩ b0).frozen? ⟨g, 1, none⟩ = false ∧
    Cels ((w.setCell ⟨g, 0, none⟩ b0).setCell ⟨g, 1, none⟩ b1) g t [b0, b1] := by
  have r2 := h.set 0 b0
  have r3 := r2.set 1 b1
  exact ⟨h.cell 0 rfl, h.frozen 0, r2.cell 1 rfl, r2.frozen 1, r3⟩
theorem rvL_take (ts : List Tp) (k : Nat) (h : k < ts.length) : (rvL ts).take (k + 1) = (rvL ts).take k ++ [swT (ts.getD k tp0)] := by
  rw [List.take_succ_eq_append_getElem (by rw [rvL_len]; exact h), ← rvL_at, List.getD_eq_getElem?_getD, List.getElem?_eq_getElem (by rw [rvL_len]; exact h)]; rfl
end Go.Proofs.YtbigoljfanendaaDoor.Ints
