/- A ring of letters: plain lemmas, and copy as a law that keeps all other blocks. -/
import Derived.Laws.CopyOwn
import Derived.StillTailTactics
import Derived.Test.YtgfidlppocheoaaRun
namespace Go.Proofs.Ytgfidlppocheoaa.Ints
open Go.RowKit
set_option linter.unusedVariables false
set_option linter.unusedSimpArgs false
theorem sizeQ : (Try.prog.info? 2).map (·.size) = some 1 := by kernel_rfl
def rg (zs : List Int) (f l : Nat) : List Int := (List.range l).map fun i => zs.getD ((f + i) % 1000) 0
theorem rg_len (zs : List Int) (f l : Nat) : (rg zs f l).length = l := by simp [rg]
theorem rg_at (zs : List Int) (f l : Nat) {i : Nat} (h : i < l) : (rg zs f l).getD i 0 = zs.getD ((f + i) % 1000) 0 := by simp [rg, List.getD_eq_getElem?_getD, h]
theorem getD_injQ {xs ys : List Int} (hl : xs.length = ys.length) (h : ∀ i, i < xs.length → xs.getD i 0 = ys.getD i 0) : xs = ys := by
  apply List.ext_getElem hl
  intro i h1 h2
  have := h i h1
  rwa [List.getD_eq_getElem?_getD, List.getD_eq_getElem?_getD, List.getElem?_eq_getElem h1, List.getElem?_eq_getElem h2] at this
theorem splice_at {L cs : List Int} {off : Nat} (hf : off + cs.length ≤ L.length) (j : Nat) : (splice L off cs).getD j 0 = if off ≤ j ∧ j < off + cs.length then cs.getD (j - off) 0 else L.getD j 0 := by
  unfold splice
  simp only [List.getD_eq_getElem?_getD]
  by_cases h1 : j < off
  · rw [if_neg (by omega), List.getElem?_append_left (by simp; omega), List.getElem?_take, if_pos h1]
  · rw [List.getElem?_append_right (by simp; omega)]
    have e : (L.take off).length = off := by simp; omega
    rw [e]
    by_cases h2 : j < off + cs.length
    · rw [if_pos ⟨by omega, h2⟩, List.getElem?_append_left (by omega)]
    · rw [if_neg (by omega), List.getElem?_append_right (by omega), List.getElem?_drop]
      congr 2; omega
theorem splice_map (L cs : List Int) (off : Nat) : splice (L.map (Value.int .i64)) off (cs.map (Value.int .i64)) = (splice L off cs).map (Value.int .i64) := by
  simp [splice, List.map_take, List.map_drop]
theorem splice_len {L cs : List Int} {off : Nat} (hf : off + cs.length ≤ L.length) : (splice L off cs).length = L.length := length_splice L off cs hf
theorem Fit.splice {L cs : List Int} {off : Nat} (h : Fit L) (k : Fit cs) : Fit (Go.splice L off cs) := fun z hz => by
  unfold Go.splice at hz
  rcases List.mem_append.1 hz with hz | hz
  · exact h z (List.mem_of_mem_take hz)
  · rcases List.mem_append.1 hz with hz | hz
    · exact k z hz
    · exact h z (List.mem_of_mem_drop hz)
theorem Fit.takeQ {L : List Int} (h : Fit L) (n : Nat) : Fit (L.take n) := fun z hz => h z (List.mem_of_mem_take hz)
theorem Fit.dropQ {L : List Int} (h : Fit L) (n : Nat) : Fit (L.drop n) := fun z hz => h z (List.mem_of_mem_drop hz)
theorem Fit.rg {zs : List Int} (h : Fit zs) (f l : Nat) : Fit (Ints.rg zs f l) := fun z hz => by
  simp only [Ints.rg, List.mem_map, List.mem_range] at hz
  obtain ⟨i, _, rfl⟩ := hz
  exact h.at _
/-- How many letters go over before the end of the ring. -/
def cpN (ys : List Int) (p : Nat) : Nat := min ys.length (1000 - p)
def pg (zs ys : List Int) (p : Nat) : List Int := splice (splice zs p (ys.take (cpN ys p))) 0 (ys.drop (cpN ys p))
theorem cpN_le (ys : List Int) (p : Nat) : cpN ys p ≤ ys.length ∧ cpN ys p ≤ 1000 - p := by unfold cpN; omega
theorem pg_len {zs ys : List Int} {p : Nat} (hz : zs.length = 1000) (hp : p < 1000) (hy : ys.length ≤ 1000) : (pg zs ys p).length = 1000 := by
  have h := cpN_le ys p
  have e : (splice zs p (ys.take (cpN ys p))).length = 1000 := by rw [splice_len (by simp; omega), hz]
  rw [pg, splice_len (by rw [e]; simp; omega), e]
theorem pg_at {zs ys : List Int} {p j : Nat} (hz : zs.length = 1000) (hp : p < 1000) (hy : ys.length ≤ 1000) (hj : j < 1000) :
    (pg zs ys p).getD j 0 = if (j + 1000 - p) % 1000 < ys.length then ys.getD ((j + 1000 - p) % 1000) 0 else zs.getD j 0 := by
  have h := cpN_le ys p
  have hc : cpN ys p = ys.length ∨ cpN ys p = 1000 - p := by unfold cpN; omega
  have e : (splice zs p (ys.take (cpN ys p))).length = 1000 := by rw [splice_len (by simp; omega), hz]
  rw [pg, splice_at (by rw [e]; simp; omega), splice_at (by simp; omega)]
  simp only [List.length_drop, List.length_take, Nat.min_eq_left h.1, Nat.zero_add, Nat.zero_le, true_and, Nat.sub_zero]
  by_cases h1 : j < ys.length - cpN ys p
  · rw [if_pos h1, if_pos (by omega), List.getD_eq_getElem?_getD, List.getElem?_drop, ← List.getD_eq_getElem?_getD]
    congr 1; omega
  · rw [if_neg h1]
    by_cases h2 : p ≤ j ∧ j < p + cpN ys p
    · rw [if_pos h2, if_pos (by omega), List.getD_eq_getElem?_getD, List.getElem?_take, if_pos (by omega), ← List.getD_eq_getElem?_getD]
      congr 1; omega
    · rw [if_neg h2, if_neg (by omega)]
theorem rg_put {zs ys : List Int} {f l : Nat} (hz : zs.length = 1000) (hf : f < 1000) (h : l + ys.length ≤ 1000) : rg (pg zs ys ((f + l) % 1000)) f (l + ys.length) = rg zs f l ++ ys := by
  apply getD_injQ (by simp [rg_len])
  intro i hi
  rw [rg_len] at hi
  rw [rg_at _ _ _ hi, pg_at hz (by omega) (by omega) (by omega)]
  by_cases h1 : i < l
  · rw [if_neg (by omega), List.getD_eq_getElem?_getD, List.getD_eq_getElem?_getD, List.getElem?_append_left (by rw [rg_len]; exact h1), ← List.getD_eq_getElem?_getD, ← List.getD_eq_getElem?_getD, rg_at _ _ _ h1]
  · rw [if_pos (by omega), List.getD_eq_getElem?_getD, List.getD_eq_getElem?_getD, List.getElem?_append_right (by rw [rg_len]; omega), rg_len]
    congr 2; omega
theorem rg_drop {zs : List Int} {f l m : Nat} (h : m ≤ l) : rg zs ((f + m) % 1000) (l - m) = (rg zs f l).drop m := by
  apply getD_injQ (by simp [rg_len])
  intro i hi
  rw [rg_len] at hi
  rw [rg_at _ _ _ hi, List.getD_eq_getElem?_getD (l := (rg zs f l).drop m), List.getElem?_drop, ← List.getD_eq_getElem?_getD, rg_at _ _ _ (by omega)]
  congr 1; omega
def cgN (f l : Nat) : Nat := min l (1000 - f)
theorem rg_letters {zs : List Int} {f l : Nat} (hz : zs.length = 1000) (hf : f < 1000) (hl : l ≤ 1000) :
    splice (splice (List.replicate l 0) 0 ((zs.drop f).take (cgN f l))) (cgN f l) (zs.take (l - cgN f l)) = rg zs f l := by
  have h : cgN f l ≤ l ∧ cgN f l ≤ 1000 - f ∧ (cgN f l = l ∨ cgN f l = 1000 - f) := by unfold cgN; omega
  have e : (splice (List.replicate l 0) 0 ((zs.drop f).take (cgN f l))).length = l := by rw [splice_len (by simp; omega)]; simp
  have e2 : (zs.take (l - cgN f l)).length = l - cgN f l := by simp; omega
  have e3 : ((zs.drop f).take (cgN f l)).length = cgN f l := by simp; omega
  apply getD_injQ (by rw [splice_len (by rw [e, e2]; omega), e, rg_len])
  intro i hi
  rw [splice_len (by rw [e, e2]; omega), e] at hi
  rw [rg_at _ _ _ hi, splice_at (by rw [e, e2]; omega), splice_at (by rw [e3]; simp; omega), e2, e3]
  by_cases h1 : i < cgN f l
  · rw [if_neg (by omega), if_pos (by omega), List.getD_eq_getElem?_getD, List.getElem?_take, if_pos (by omega), List.getElem?_drop, ← List.getD_eq_getElem?_getD]
    congr 1; omega
  · rw [if_pos (by omega), List.getD_eq_getElem?_getD, List.getElem?_take, if_pos (by omega), ← List.getD_eq_getElem?_getD]
    congr 1; omega
/-- The ring of a new queue. -/
def nq (xs : List Int) : List Int := splice (List.replicate 1000 0) 0 (xs.take 1000)
theorem nq_fits (xs : List Int) : 0 + (xs.take 1000).length ≤ (List.replicate 1000 (0 : Int)).length := by rw [List.length_replicate, List.length_take]; omega
theorem nq_len (xs : List Int) : (nq xs).length = 1000 := by rw [nq, splice_len (nq_fits xs), List.length_replicate]
theorem nq_fit {xs : List Int} (h : Fit xs) : Fit (nq xs) := Fit.splice (fun z hz => by have := (List.mem_replicate.1 hz).2; omega) (h.takeQ _)
theorem nq_rg {xs : List Int} (h : xs.length ≤ 1000) : rg (nq xs) 0 xs.length = xs := by
  apply getD_injQ (by rw [rg_len])
  intro i hi
  rw [rg_len] at hi
  rw [rg_at _ _ _ hi, nq, splice_at (nq_fits xs), List.length_take, Nat.min_eq_right h, if_pos (by omega), List.getD_eq_getElem?_getD, List.getElem?_take, if_pos (by omega), ← List.getD_eq_getElem?_getD]
  congr 1; omega
theorem row_fullQ {w : World} {B g n : Nat} {xs : List Value} (h : w.ownsRow B 2 1 (.slice (some ⟨g, 0, none⟩) n n) n xs) : w.heap[g]? = some (.cells xs.toArray 2 (0, 0)) := by
  rcases h.2 with ⟨h', _⟩ | ⟨g', cap', cur, h', hb, hg, hn, hm, hs, hk⟩
  · simp at h'
  · simp only [Value.slice.injEq, Option.some.injEq, Addr.mk.injEq, and_true, true_and] at h'
    obtain ⟨rfl, rfl⟩ := h'
    rw [hg, ← hk, List.take_of_length_le (by simp; omega)]
/-- A block that holds the numbers of a list, whole, is a row of them. -/
theorem ow_full {w : World} {B g n : Nat} {xs : List Int} (h : w.heap[g]? = some (.cells (xs.map (Value.int .i64)).toArray 2 (0, 0))) (hB : B ≤ g) (hn : n = xs.length) (hl : xs.length ≤ 16777216) (hf : Fit xs) : Ow w B w.heap.size (.slice (some ⟨g, 0, none⟩) n n) xs := by
  subst hn
  have hg : g < w.heap.size := (Array.getElem?_eq_some_iff.1 h).1
  refine ⟨hl, hf, ⟨by simp, .inr ⟨g, xs.length, _, rfl, hB, h, Nat.le_refl _, by unfold maxLen; omega, by simp, ?_⟩⟩, fun k hk => by cases hk; exact hg, Nat.le_refl _, Nat.le_trans hB (Nat.le_of_lt hg)⟩
  rw [Nat.mul_one]
  exact List.take_of_length_le (by simp)
theorem only_setRow (w : World) (g : Nat) (cs : Array Value) : Only (fun k => k = g) w (w.setRow g cs) :=
  ⟨rfl, rfl, rfl, by simp [World.setRow], fun k hk hn => setRow_other w g k cs hn⟩
/-- copy, as wpList_copy_splice has it; no other block turns. -/
theorem copyOnly {P : Program} {w : World} {ops : Array Oper} {rest : List Oper} {o : Oper} {a : Act} {Q : Exit → Act → World → Prop} (hgd : o.guard = none) (d s : Operand) (dT sT : TypeId)
    (ho : o.op = .call { callee := .builtin .copy, args := #[d, s], argTypes := #[dT, sT] }) (elem : TypeId) (hu : P.underlying dT = some (.slice elem)) (hsz : (P.info? elem).map (·.size) = some 1)
    (dp sp : Option Addr) (dLen dCap sLen sCap : Nat) (hd : a.eval d = .slice dp dLen dCap) (hs : a.eval s = .slice sp sLen sCap)
    (g off : Nat) (cur : List Value) (t : TypeId) (hg : w.heap[g]? = some (.cells cur.toArray t (0, 0))) (cs : List Value) (hn : cs.length = Nat.min sLen dLen)
    (hpos : 0 < cs.length → dp = some ⟨g, off, none⟩ ∧ ∃ ad, sp = some ad ∧ ∀ j v, cs[j]? = some v → w.cell? (ad.add j) = some v)
    (hfit : off + cs.length ≤ cur.length) (h1 : ∀ v ∈ cs, v.oneCell' = true)
    (h : ∀ w', Hid (w'.heap[g]? = some (.cells (splice cur off cs).toArray t (0, 0))) → Hid (Only (fun k => k = g) w w' ∧ w'.heap.size = w.heap.size) → wpList P ops Q rest (a.put o.dst (goInt cs.length)) w') :
    wpList P ops Q (o :: rest) a w := by
  by_cases h0 : cs.length = 0
  · obtain rfl : cs = [] := List.eq_nil_of_length_eq_zero h0
    refine wpList_copy_nothing hgd d s dT sT ho elem hu hsz dp sp dLen dCap sLen sCap hd hs (by simpa using hn.symm) ?_
    exact h w (show _ = _ by simpa [splice] using hg) ⟨Only.refl _ _, rfl⟩
  · obtain ⟨rfl, ad, rfl, hsrc⟩ := hpos (by omega)
    refine wpList_copy_own hgd d s dT sT ho elem hu hsz g off dLen dCap ad sLen sCap hd hs cur.toArray t hg cs hn hsrc (by simpa using hfit) h1 ?_
    exact h _ (show _ = _ by simpa [splice] using setRow_heap w g _ _ t _ hg) ⟨only_setRow w g _, by simp [World.setRow]⟩
end Go.Proofs.Ytgfidlppocheoaa.Ints
